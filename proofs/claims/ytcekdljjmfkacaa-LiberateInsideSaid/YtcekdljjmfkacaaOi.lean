import Derived.Test.YtcekdljjmfkacaaOh
import Derived.Deep.Cut
set_option linter.unusedSimpArgs false
set_option linter.unusedVariables false
namespace Go.Proofs.Ytcekdljjmfkacaa
open Go.RowKit Go.ChangeShapes Go.WideShapes Go.ChangeAt
set_option maxRecDepth 100000
section
variable {H : Type} {enc : TypeId × Value → H} {w : World} {fuel : Nat}
/-- a slice whose elements are z numbers each -/
theorem rows_of {T E z : Nat} (hu : Try.prog.underlying T = some (.slice E)) (hk : Try.prog.cellsOf E = z) (hz : 1 ≤ z)
    (hE : ∀ {fuel : Nat} {cs : List Value} {x : DataW H × List MemPlace}, DataW.trod enc Try.prog w 0 (fun _ => true) true fuel E cs = some x → ∃ f : Nat → Int, ∀ r, r < z → cs[r]? = some (.int .i64 (f r)))
    {cs : List Value} {x : DataW H × List MemPlace} (h : DataW.trod enc Try.prog w 0 (fun _ => true) true fuel T cs = some x) :
    ∃ (a : Option Addr) (cap n : Nat) (c : Nat → Nat → Int), cs = [.slice a n cap] ∧ RowAt w a n z c ∧ n ≤ maxLen ∧ n ≤ cap ∧ (a = none → cap = 0) := by
  rcases Deep.open_slice hu h with ⟨rfl, _⟩ | ⟨a, len, cap, m, n, D, Pl, rfl, _, hl, hm, hmm, _, hel⟩
  · exact ⟨none, 0, 0, fun _ _ => 0, rfl, .inl rfl, Nat.zero_le _, Nat.zero_le _, fun _ => rfl⟩
  · simp at hmm
    rcases Nat.eq_zero_or_pos len with h0 | h0
    · subst h0
      exact ⟨some a, cap, 0, fun _ _ => 0, rfl, .inl rfl, Nat.zero_le _, Nat.zero_le _, fun h => by cases h⟩
    · have hspot : a.spot = none := by
        obtain ⟨cs', h1, h2⟩ := hel 0 (by omega)
        obtain ⟨f, hf⟩ := hE h2
        obtain ⟨_, hlen, hc⟩ := World.cells?_some h1
        rw [hk] at hc
        have c0 := hc 0 hz
        simpa [Addr.add] using World.cell?_spot (c0.trans (hf 0 hz))
      obtain ⟨b, off, spot⟩ := a
      simp only at hspot
      subst hspot
      have key : ∀ i, ∃ f : Nat → Int, i < len → ∀ r, r < z → w.cell? ⟨b, off + i * z + r, none⟩ = some (.int .i64 (f r)) := fun i => by
        by_cases hi : i < len
        · obtain ⟨cs', h1, h2⟩ := hel i (by omega)
          obtain ⟨f, hf⟩ := hE h2
          obtain ⟨_, _, hc⟩ := World.cells?_some h1
          rw [hk] at hc
          simp only [add_none] at hc
          refine ⟨f, fun _ r hr => ?_⟩
          exact (hc r hr).trans (hf r hr)
        · exact ⟨fun _ => 0, fun h => absurd h hi⟩
      obtain ⟨f, hf⟩ := Classical.axiomOfChoice key
      refine ⟨some ⟨b, off, none⟩, cap, len, f, rfl, .inr ⟨b, off, rfl, lt_of_cell (hf 0 h0 0 hz), fun k hk r hr => hf k hk r hr⟩, by omega, by omega, fun h => by cases h⟩
theorem span_cells {cs : List Value} {x : DataW H × List MemPlace} {fuel : Nat} (h : DataW.trod enc Try.prog w 0 (fun _ => true) true fuel 30 cs = some x) : ∃ f : Nat → Int, ∀ r, r < 2 → cs[r]? = some (.int .i64 (f r)) := by
  obtain ⟨a, b, rfl⟩ := span_of h
  refine ⟨fun r => if r = 0 then a else b, fun r hr => ?_⟩
  match r, hr with
  | 0, _ => rfl
  | 1, _ => rfl
theorem point_cells {cs : List Value} {x : DataW H × List MemPlace} {fuel : Nat} (h : DataW.trod enc Try.prog w 0 (fun _ => true) true fuel 27 cs = some x) : ∃ f : Nat → Int, ∀ r, r < 2 → cs[r]? = some (.int .i64 (f r)) := by
  obtain ⟨a, b, rfl⟩ := point_of h
  refine ⟨fun r => if r = 0 then a else b, fun r hr => ?_⟩
  match r, hr with
  | 0, _ => rfl
  | 1, _ => rfl
theorem spans_of {cs : List Value} {x : DataW H × List MemPlace} (h : DataW.trod enc Try.prog w 0 (fun _ => true) true fuel 44 cs = some x) : ∃ (a : Option Addr) (cap n : Nat) (c : Nat → Nat → Int), cs = [.slice a n cap] ∧ RowAt w a n 2 c ∧ n ≤ maxLen ∧ n ≤ cap ∧ (a = none → cap = 0) :=
  rows_of Try.underlying44 k46 (by omega) span_cells h
theorem points_of6 {cs : List Value} {x : DataW H × List MemPlace} (h : DataW.trod enc Try.prog w 0 (fun _ => true) true fuel 28 cs = some x) : ∃ (a : Option Addr) (cap n : Nat) (c : Nat → Nat → Int), cs = [.slice a n cap] ∧ RowAt w a n 2 c ∧ n ≤ maxLen ∧ n ≤ cap ∧ (a = none → cap = 0) :=
  rows_of Try.underlying28 k27 (by omega) point_cells h
theorem spans_val {v : Value} {d : DataW H} {p : List MemPlace} {r : Reach} {b0 : Nat} (hv : Value.okWide Try.prog w r b0 44 v) (h : DataW.Trod enc Try.prog w 0 (fun _ => true) true 44 v d p) :
    ∃ (a : Option Addr) (cap n : Nat) (c : Nat → Nat → Int), v = .slice a n cap ∧ RowAt w a n 2 c ∧ n ≤ 9223372036854775807 ∧ n ≤ cap ∧ (a = none → cap = 0) := by
  obtain ⟨a, n, c, rfl⟩ := okWide_slice Try.underlying44 hv
  obtain ⟨fuel, hf0⟩ := h
  obtain ⟨a', c', n', l, e, hz, hm, hcn, hnil⟩ := spans_of hf0
  simp [Value.cells] at e
  obtain ⟨rfl, rfl, rfl⟩ := e
  exact ⟨_, _, _, l, rfl, hz, Nat.le_trans hm (by decide), hcn, hnil⟩
end
end Go.Proofs.Ytcekdljjmfkacaa
