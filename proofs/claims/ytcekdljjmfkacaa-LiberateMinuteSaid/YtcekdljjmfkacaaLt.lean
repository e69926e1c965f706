import Derived.Test.YtcekdljjmfkacaaLs
set_option linter.unusedSimpArgs false
set_option linter.unusedVariables false
namespace Go.Proofs.Ytcekdljjmfkacaa
open Go.RowKit
attribute [local go_sem] Oper.semAt_some

def exH (i r : Nat) : Int := ([3, 0, 2, 2] : List Int).getD (i * 2 + r) 0
def exF (i r : Nat) : Int := ([0, 0, 0, 3, 0, 2, 0, 30, 10, 50, 0, 25, 1, 1, 0, 3, 0, 2, 10, 50, 10, 50, 0, 25, 1, 1, 1, 1, 0, 0, 45, 60, 0, 999, 0, 999] : List Int).getD (i * 12 + r) 0
theorem exH_row {W : World} {g : Nat} (h : Blk W g 27 #[.int .i64 3, .int .i64 0, .int .i64 2, .int .i64 2]) : RowAt W (some ⟨g, 0, none⟩) 2 2 exH := .inr ⟨_, 0, rfl, h.lt, fun i hi r hr => by
  rw [Nat.zero_add, h.cell]
  have : i * 2 + r < 4 := by omega
  unfold exH
  generalize i * 2 + r = q at *
  match q, this with
  | 0, _ => rfl
  | 1, _ => rfl
  | 2, _ => rfl
  | 3, _ => rfl⟩
theorem exF_all : ∀ q, q < 36 → exFronts[q]? = some (.int .i64 (([0, 0, 0, 3, 0, 2, 0, 30, 10, 50, 0, 25, 1, 1, 0, 3, 0, 2, 10, 50, 10, 50, 0, 25, 1, 1, 1, 1, 0, 0, 45, 60, 0, 999, 0, 999] : List Int).getD q 0)) := by
  intro q hq
  have e : exFronts = (([0, 0, 0, 3, 0, 2, 0, 30, 10, 50, 0, 25, 1, 1, 0, 3, 0, 2, 10, 50, 10, 50, 0, 25, 1, 1, 1, 1, 0, 0, 45, 60, 0, 999, 0, 999] : List Int).map fun n => Value.int .i64 n).toArray := rfl
  rw [e, List.getElem?_toArray, List.getElem?_map]
  have hl : ([0, 0, 0, 3, 0, 2, 0, 30, 10, 50, 0, 25, 1, 1, 0, 3, 0, 2, 10, 50, 10, 50, 0, 25, 1, 1, 1, 1, 0, 0, 45, 60, 0, 999, 0, 999] : List Int).length = 36 := rfl
  generalize ([0, 0, 0, 3, 0, 2, 0, 30, 10, 50, 0, 25, 1, 1, 0, 3, 0, 2, 10, 50, 10, 50, 0, 25, 1, 1, 1, 1, 0, 0, 45, 60, 0, 999, 0, 999] : List Int) = L at *
  simp [List.getD, hl, hq]
theorem exF_row {W : World} {g : Nat} (h : Blk W g 60 exFronts) : RowAt W (some ⟨g, 0, none⟩) 3 12 exF := .inr ⟨_, 0, rfl, h.lt, fun i hi r hr => by
  rw [Nat.zero_add, h.cell]
  exact exF_all _ (by omega)⟩
theorem ex_rel : RelOk (4 : Nat) exEast.length (0 : Nat) (0 : Nat) (400 : Nat) (800 : Nat) 40 8 30 2 110 2 exH := by
  refine ⟨by decide, by decide, fun i hi => ?_, by decide, by decide, by decide, by decide, by decide, by decide⟩
  match i, hi with
  | 0, _ => decide
  | 1, _ => decide
theorem ex_fronts : ∀ i, i < 3 → FrontOk (4 : Nat) exEast.length 2 (exF i) := fun i hi => by
  match i, hi with
  | 0, _ => exact ⟨by decide, by decide, by decide, by decide, by decide, by decide⟩
  | 1, _ => exact ⟨by decide, by decide, by decide, by decide, by decide, by decide⟩
  | 2, _ => exact ⟨by decide, by decide, by decide, by decide, by decide, by decide⟩
theorem ex_check0 : checkE 1000 (4 : Nat) exEast (2 : Nat) exSvs 0 = 0 := by decide +kernel
theorem ex_many0 : manyV 1000 0 4 2 exEast exSvs = 1 := by decide +kernel
theorem ex_lo3 : loT 1000 exEast (pbK 0 0 3 0 3 3) 800 3 = 3 := by decide +kernel
theorem ex_hi3 : hiT 1000 exEast (pbK 0 0 3 0 3 3) 400 3 = 6 := by decide +kernel
theorem spV_get (north : Int) (east : List Int) (P : List (Nat × Nat)) (sl sh m : Nat) : ∀ n k, k < n → ∀ r, r < 2 → (spV north east P sl sh m n)[k * 2 + r]? = ([.int .i64 ((m : Int) + (loT north east P sh k : Nat)), .int .i64 ((m : Int) + (hiT north east P sl k : Nat))] : List Value)[r]?
  | 0, k, hk, _, _ => by omega
  | n + 1, k, hk, r, hr => by
    have hl : (spV north east P sl sh m n).length = n * 2 := by
      clear hk
      induction n with
      | zero => rfl
      | succ n ih => rw [spV_succ, List.length_append, ih]; simp; omega
    rw [spV_succ]
    by_cases h : k < n
    · rw [List.getElem?_append_left (by omega)]
      exact spV_get north east P sl sh m n k h r hr
    · obtain rfl : k = n := by omega
      rw [List.getElem?_append_right (by omega), hl, show k * 2 + r - k * 2 = r by omega]
theorem ex_Passes {gE gS gH gF : Nat} {w : World} (hE : IntsAt w (some ⟨gE, 0, none⟩) exEast) (hS : SvsAt w (some ⟨gS, 0, none⟩) exSvs) (hH : Blk w gH 27 #[.int .i64 3, .int .i64 0, .int .i64 2, .int .i64 2]) (hF : Blk w gF 60 exFronts) :
    Calls Try.prog 15 #[.agg (exRel gE gS gH gF), .int .i64 0, .int .i64 10] w fun e w' => ∃ g c, e = .returned (.tuple #[.slice (some ⟨g, 0, none⟩) 4 c, .int .i64 0]) ∧ w'.cell? ⟨g, 6, none⟩ = some (.int .i64 13) ∧ w'.cell? ⟨g, 7, none⟩ = some (.int .i64 16) ∧ G w w' := by
  have h := Passes_ok 1000 0 40 8 30 2 110 4 2 0 0 3 0 400 800 10 0 exEast exSvs 2 3 exH exF _ _ _ _ 3 4 2 3 w hE hS ex_check0 ex_rel (exH_row hH) (exF_row hF) (by omega) ex_fronts (by omega) rfl rfl (by omega)
  refine h.mono ?_
  rintro e w' ⟨v, rfl, hown, hG⟩
  have hst : stepsN 0 0 3 0 = 3 := by decide
  rw [hst] at hown
  obtain ⟨g, cap, cur, rfl, hb, hg, ht⟩ := own_some hown (by omega)
  have c6 := take_cell hb ht (k := 6) (by omega) (spV_get 1000 exEast (pbK 0 0 3 0 3 3) 400 800 10 4 3 (by omega) 0 (by omega))
  have c7 := take_cell hb ht (k := 7) (by omega) (spV_get 1000 exEast (pbK 0 0 3 0 3 3) 400 800 10 4 3 (by omega) 1 (by omega))
  rw [ex_lo3] at c6
  rw [ex_hi3] at c7
  exact ⟨g, cap, rfl, c6, c7, hG⟩
theorem cell_lt {W : World} {g i : Nat} {v : Value} (h : W.cell? ⟨g, i, none⟩ = some v) : g < W.heap.size := by
  by_cases hg : g < W.heap.size
  · exact hg
  · unfold World.cell? at h
    rw [show W.heap[g]? = none from Array.getElem?_eq_none (Nat.le_of_not_lt hg)] at h
    simp at h
end Go.Proofs.Ytcekdljjmfkacaa
