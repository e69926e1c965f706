import Derived.Test.YtcekdljjmfkacaaQa
import Derived.Test.YtcekdljjmfkacaaSe
set_option linter.unusedSimpArgs false
set_option linter.unusedVariables false
namespace Go.Proofs.Ytcekdljjmfkacaa
open Go.RowKit Go.Shelf
attribute [local go_sem] Oper.semAt_some wide_fn wide_dep wideR_fn wideR_dep
/-- operation z waits for i over these -/
def pathB (md : Region.Mode) (ops : Array Oper) : List Nat → Nat → Nat → Bool
  | [], z, i => match ops[z]? with | some o => o.after.any fun e => Region.binds md e && e.on == i | none => false
  | k :: ks, z, i => (match ops[z]? with | some o => o.after.any fun e => Region.binds md e && e.on == k | none => false) && pathB md ops ks k i
theorem pathB_waits {md : Region.Mode} {ops : Array Oper} : ∀ (ks : List Nat) (n z i : Nat), ks.length < n → pathB md ops ks z i = true → waitsT md ops n z i = true
  | [], 0, _, _, h, _ => by simp at h
  | [], n + 1, z, i, _, h => by
    unfold pathB at h
    unfold waitsT
    cases ho : ops[z]? with
    | none => rw [ho] at h; cases h
    | some o =>
      rw [ho] at h
      simp only [Array.any_eq_true, Bool.and_eq_true, beq_iff_eq] at h ⊢
      obtain ⟨k, hk, hb, he⟩ := h
      exact ⟨k, hk, hb, by simp [he]⟩
  | k :: ks, 0, _, _, h, _ => by simp at h
  | k :: ks, n + 1, z, i, hn, h => by
    unfold pathB at h
    rw [Bool.and_eq_true] at h
    have ih := pathB_waits ks n k i (by simpa using hn) h.2
    unfold waitsT
    cases ho : ops[z]? with
    | none => rw [ho] at h; cases h.1
    | some o =>
      have h1 := h.1
      rw [ho] at h1
      simp only [Array.any_eq_true, Bool.and_eq_true, beq_iff_eq] at h1 ⊢
      obtain ⟨j, hj, hb, he⟩ := h1
      exact ⟨j, hj, hb, by rw [he, ih]; simp⟩
/-- an operation may be taken first: all that is asked of the schedule -/
def chk (md : Region.Mode) (ops : Array Oper) (z : Nat) (ks : List Nat) (l : Array Bool) (i : Nat) (l' : Array Bool) : Bool :=
  Region.noSelect ops && Region.free md ops l i && (Region.ready md ops l).contains i && (decide (i ≠ z) && (decide (ks.length < 40) && pathB md ops ks z i && (closedB md ops l && !l.getD z false))) && (l.setIfInBounds i true == l')
section
variable {P : Program} {ops : Array Oper} {md : Region.Mode} {Q : Exit → Act → World → Prop} {S : World → Prop} {z : Nat}
theorem wpAnyY_takeC {i : Nat} {oi : Oper} {v : Value} {fuel : Nat} {l l' : Array Bool} {a : Act} {w : World} (ks : List Nat) (hc : chk md ops z ks l i l' = true) (hi : ops[i]? = some oi) (hQ : ∀ c a w, Q (.panic c) (a.put oi.dst v) w → Q (.panic c) a w) (hy : YieldsIf P ops S oi v a) (hS : S w)
    (h : wpAnyY P md ops Q S z fuel l' (a.put oi.dst v) w) : wpAnyY P md ops Q S z (fuel + 1) l a w := by
  unfold chk at hc
  simp only [Bool.and_eq_true, decide_eq_true_eq, beq_iff_eq, Bool.not_eq_true'] at hc
  obtain ⟨⟨⟨⟨h1, h2⟩, h3⟩, h4, ⟨h5, h6⟩, h7, h8⟩, rfl⟩ := hc
  exact wpAnyY_first hi h1 h4 (pathB_waits ks 40 z i h5 h6) hQ fuel l a w (closed_of_B h7) h8 (Region.free_spec hi h2) (by simpa using h3) hy hS h
/-- one operation alone may come up -/
def chk1 (md : Region.Mode) (ops : Array Oper) (l : Array Bool) (i : Nat) (l' : Array Bool) : Bool := (Region.ready md ops l == [i]) && (l.setIfInBounds i true == l')
theorem wpAnyY_oneSWC {i : Nat} {o : Oper} {fuel : Nat} {l l' : Array Bool} {a : Act} {w : World} (hc : chk1 md ops l i l' = true) (ho : ops[i]? = some o) (hw : Region.wanted o (yielded ops a.tmps) = true)
    (h : ∀ K' : Act → World → Prop, Shut (∀ a w, S w → (S w → wpAnyY P md ops Q S z fuel l' a w) → K' a w) → Oper.wp P o a w K' Q) :
    wpAnyY P md ops Q S z (fuel + 1) l a w := by
  unfold chk1 at hc
  rw [Bool.and_eq_true, beq_iff_eq, beq_iff_eq] at hc
  obtain ⟨h1, rfl⟩ := hc
  exact wpAnyY_oneSW h1 ho hw h
theorem wpAnyY_oneSUC {i : Nat} {o : Oper} {fuel : Nat} {l l' : Array Bool} {a : Act} {w : World} (hc : chk1 md ops l i l' = true) (ho : ops[i]? = some o) (hw : Region.wanted o (yielded ops a.tmps) = false) (hS : S w)
    (h : wpAnyY P md ops Q S z fuel l' (a.put o.dst undef) w) : wpAnyY P md ops Q S z (fuel + 1) l a w := by
  unfold chk1 at hc
  rw [Bool.and_eq_true, beq_iff_eq, beq_iff_eq] at hc
  obtain ⟨h1, rfl⟩ := hc
  exact wpAnyY_oneSU h1 ho hw hS h
end
set_option maxRecDepth 100000
/-- spans from m on -/
def PsPost (w : World) (N : Nat) (lo hh : Nat → Nat) (e : Ending) (w' : World) : Prop := ∃ g cap, e = .returned (.tuple #[.slice (some ⟨g, 0, none⟩) N cap, .int .i64 0]) ∧ g < w'.heap.size ∧ (∀ j, j < N → w'.cell? ⟨g, j * 2, none⟩ = some (.int .i64 (lo j : Nat)) ∧ w'.cell? ⟨g, j * 2 + 1, none⟩ = some (.int .i64 (hh j : Nat))) ∧ G w w'
/-- the contract of Passes as a row of spans -/
theorem rPs {r : Rl} {w : World} (h : r.Ok w) {i m : Nat} (hi : i < r.n) (hm : m ≤ 9999) : Calls Try.prog 15 #[.agg r.v, .int .i64 (i : Nat), .int .i64 (m : Nat)] w (PsPost w (r.ns i) (fun j => m + loT r.north r.east (r.P i) r.sh j) (fun j => m + hiT r.north r.east (r.P i) r.sl j)) := by
  refine (rPasses_ok h hi hm).mono fun e w' hh => ?_
  obtain ⟨v, rfl, hown, hG⟩ := hh
  have hns := (Rl.ns_le h.nums hi).1
  obtain ⟨g, cap, cur, rfl, hb, hg, ht⟩ := own_some hown (by omega)
  refine ⟨g, cap, rfl, hg, fun j hj => ⟨?_, ?_⟩, hG⟩
  · have := take_cell hb ht (k := j * 2) (by omega) (spV_get r.north r.east (r.P i) r.sl r.sh m _ j hj 0 (by omega))
    exact this
  · have := take_cell hb ht (k := j * 2 + 1) (by omega) (spV_get r.north r.east (r.P i) r.sl r.sh m _ j hj 1 (by omega))
    exact this
/-- what Safe answers of a release -/
theorem rS {r : Rl} {w : World} (h : r.Ok w) {hi mi : Nat} (hh : hi < r.n) (hm : mi ≤ 9999) : Calls Try.prog 17 #[.agg r.v, .int .i64 (hi : Nat), .int .i64 (mi : Nat)] w fun e w' => e = .returned (.tuple #[.int .i64 (if r.err = 0 then r.safe hi mi else 0), .int .i64 r.err]) ∧ G w w' := by
  refine (rSafe_ok h hh hm).mono fun e w' hp => ?_
  obtain ⟨h1, h2⟩ := hp
  refine ⟨?_, h2⟩
  rw [h1]
  split <;> rfl
/-- what First answers of a release -/
theorem rF {r : Rl} {w : World} (h : r.Ok w) {a b : Nat} (ha : a ≤ 9999) (hb : b ≤ 9999) : Calls Try.prog 20 #[.agg r.v, .int .i64 (a : Nat), .int .i64 (b : Nat)] w fun e w' => e = .returned (.tuple #[.int .i64 (if r.err = 0 then (firstR (flyB r) a (b + 1 - a)).1 else 0), .int .i64 (if r.err = 0 then (firstR (flyB r) a (b + 1 - a)).2 else r.err)]) ∧ G w w' := rFirst_ok h ha hb
theorem anyU_false {p : Nat → Bool} {n : Nat} : anyU p n = false ↔ ∀ j, j < n → p j = false := by
  unfold anyU
  rw [List.any_eq_false]
  exact ⟨fun h j hj => by have := h j (List.mem_range.2 hj); simpa using this, fun h j hj => by have := h j (List.mem_range.1 hj); simpa using this⟩
theorem fly_iff {r : Rl} (h : r.Nums) (m : Nat) : flyB r m = true ↔ lightB r m = true ∧ ∀ j, j < r.n → r.blk m j = none := by
  rw [flyB_eq h, Bool.and_eq_true, Bool.not_eq_true', anyU_false]
  refine and_congr Iff.rfl ⟨fun h j hj => ?_, fun h j hj => ?_⟩
  · have := h j hj
    simpa using this
  · rw [h j hj]; rfl
end Go.Proofs.Ytcekdljjmfkacaa
