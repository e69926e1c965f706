import Derived.Test.YtpjfdfddcnocpaaNb
import Derived.Test.YtpjfdfddcnocpaaQb
set_option linter.unusedSimpArgs false
set_option linter.unusedVariables false
namespace Go.Proofs.Ytpjfdfddcnocpaa
open Go.RowKit

/-- what is known of some lofts only, if all lofts have the places of a truth -/
def resF (ls : List Nat) (P : List (Nat × Nat)) : At := fun l => if l ∈ ls then P.getD l (0, 0) else (0, 0)
theorem resF_of {ls : List Nat} {P : List (Nat × Nat)} {l : Nat} (h : l ∈ ls) : resF ls P l = P.getD l (0, 0) := by
  unfold resF
  rw [if_pos h]
/-- how many surveys are wrong if all lofts have places -/
def wrongsOf (north : Int) (east : List Int) (svs : List Sv) (P : List (Nat × Nat)) (k : Nat) : Nat := ((List.range k).map fun l => cost north east svs l (P.getD l (0, 0))).sum
theorem mem_allP {cols rows : Nat} {p : Nat × Nat} (h1 : p.1 < cols) (h2 : p.2 < rows) : p ∈ allP cols rows := by
  unfold allP rowP
  refine List.mem_flatMap.2 ⟨p.2, by simpa using h2, ?_⟩
  exact List.mem_map.2 ⟨p.1, by simpa using h1, rfl⟩
section
variable {north wrong : Int} {cols lofts : Nat} {east : List Int} {svs : List Sv} {P : List (Nat × Nat)}
theorem getD_in (hP : ∀ p ∈ P, p.1 < cols ∧ p.2 < east.length) (hl : P.length = lofts) {l : Nat} (h : l < lofts) : P.getD l (0, 0) ∈ allP cols east.length := by
  have hm : P.getD l (0, 0) ∈ P := by
    have : l < P.length := by omega
    simp [this]
  obtain ⟨h1, h2⟩ := hP _ hm
  exact mem_allP h1 h2
theorem few_wrongs (hP : ∀ p ∈ P, p.1 < cols ∧ p.2 < east.length) (hl : P.length = lofts) : fewSum north cols east svs lofts ≤ wrongsOf north east svs P lofts := by
  unfold fewSum wrongsOf
  exact sumR_le lofts fun l h => low_le north cols east svs l (getD_in hP hl h)
theorem resF_truth (hP : ∀ p ∈ P, p.1 < cols ∧ p.2 < east.length) (hl : P.length = lofts) (hw : (wrongsOf north east svs P lofts : Int) ≤ wrong) {ls : List Nat} (hls : ∀ l ∈ ls, l < lofts) :
    resF ls P ∈ truthsOf (spotsOf north cols east svs) ls (wrong - fewSum north cols east svs lofts) := by
  have hf := few_wrongs (north := north) (svs := svs) hP hl
  refine (truth_iff north cols east svs hls (by omega) _).2 ⟨fun l h => ?_, fun l h => ?_, ?_⟩
  · rw [resF_of h]
    exact getD_in hP hl (hls l h)
  · unfold resF
    rw [if_neg h]
  · have : totW north cols east svs lofts (namesOf ls) (resF ls P) ≤ wrongsOf north east svs P lofts := by
      unfold totW wrongsOf
      refine sumR_le lofts fun l h => ?_
      split
      · rename_i hm
        rw [resF_of (namesOf_mem hm)]
        exact Nat.le_refl _
      · exact low_le north cols east svs l (getD_in hP hl h)
    omega
theorem loQ_at (a b : Nat) : ∀ (L : List At) (f : At), f ∈ L → loQ north east a b L ≤ q2 north east a b f := by
  intro L f hf
  have key : ∀ (L : List At) (m : Int), L.foldl (fun m f => min m (q2 north east a b f)) m ≤ m ∧ ∀ g ∈ L, L.foldl (fun m f => min m (q2 north east a b f)) m ≤ q2 north east a b g := by
    intro L
    induction L with
    | nil => intro m; exact ⟨Int.le_refl _, by simp⟩
    | cons h L ih =>
      intro m
      obtain ⟨i1, i2⟩ := ih (min m (q2 north east a b h))
      rw [List.foldl_cons]
      refine ⟨by omega, fun g hg => ?_⟩
      rcases List.mem_cons.1 hg with rfl | hg
      · omega
      · exact i2 g hg
  exact (key L _).2 f hf
theorem hiQ_at (a b : Nat) : ∀ (L : List At) (f : At), f ∈ L → q2 north east a b f ≤ hiQ north east a b L := by
  intro L f hf
  have key : ∀ (L : List At) (m : Int), m ≤ L.foldl (fun m f => max m (q2 north east a b f)) m ∧ ∀ g ∈ L, q2 north east a b g ≤ L.foldl (fun m f => max m (q2 north east a b f)) m := by
    intro L
    induction L with
    | nil => intro m; exact ⟨Int.le_refl _, by simp⟩
    | cons h L ih =>
      intro m
      obtain ⟨i1, i2⟩ := ih (max m (q2 north east a b h))
      rw [List.foldl_cons]
      refine ⟨by omega, fun g hg => ?_⟩
      rcases List.mem_cons.1 hg with rfl | hg
      · omega
      · exact i2 g hg
  exact (key L _).2 f hf
end
/-- one answer of those of Nearer -/
theorem nearV_mem {x : Int} {l : List Int} (h : x ∈ l) : nearV l = x ∨ nearV l = 4 := by
  by_cases ha : ∀ y ∈ l, y = x
  · exact .inl (nearV_same (List.ne_nil_of_mem h) ha)
  · obtain ⟨y, hy⟩ := Classical.not_forall.1 ha
    obtain ⟨h1, h2⟩ := Classical.not_imp.1 hy
    exact .inr (nearV_two h1 h h2)
end Go.Proofs.Ytpjfdfddcnocpaa
