import Derived.Test.YtpjfdfddcnocpaaZb
set_option linter.unusedSimpArgs false
set_option linter.unusedVariables false
namespace Go.Proofs.Ytpjfdfddcnocpaa
open Go.RowKit

theorem truths_neg {rows : Nat → List Sp} {ls : List Nat} {sp : Int} (hsp : sp < 0) (hne : ls ≠ []) : truthsOf rows ls sp = [] := by
  unfold truthsOf
  cases hN : namesOf ls with
  | nil =>
    obtain ⟨x, hx⟩ := List.exists_mem_of_ne_nil _ hne
    have := namesOf_mem' hx
    rw [hN] at this
    simp at this
  | cons l N =>
    rw [settleL_cons]
    refine List.flatMap_eq_nil_iff.2 fun s _ => ?_
    unfold stepL
    rw [if_neg (by omega)]
section
variable {north wrong : Int} {cols lofts : Nat} {east : List Int} {svs : List Sv} (hc : 1 ≤ cols) (hr : 1 ≤ east.length) {ls : List Nat} (hls : ∀ l ∈ ls, l < lofts)
include hc hr hls
theorem set_mir (hw : ¬ wrong < fewSum north cols east svs lofts) :
    (∀ f ∈ truthsOf (spotsOf north cols east svs) ls (wrong - fewSum north cols east svs lofts), mf cols ls f ∈ truthsOf (spotsOf north cols east (svs.map (mir ((cols : Int) - 1)))) ls (wrong - fewSum north cols east svs lofts) ∧ ∀ l ∈ ls, (f l).1 < cols) ∧
    (∀ f ∈ truthsOf (spotsOf north cols east (svs.map (mir ((cols : Int) - 1)))) ls (wrong - fewSum north cols east svs lofts), mf cols ls f ∈ truthsOf (spotsOf north cols east svs) ls (wrong - fewSum north cols east svs lofts) ∧ ∀ l ∈ ls, (f l).1 < cols) := by
  have hfm := few_mir north cols east svs (lofts := lofts) hc hr
  refine ⟨fun f hf => ⟨?_, fun l hl => ?_⟩, fun f hf => ⟨?_, fun l hl => ?_⟩⟩
  · have := truth_mir north cols east svs hc hr hls hw hf
    rwa [hfm] at this
  · exact (allP_iff.1 (((truth_iff north cols east svs hls hw f).1 hf).1 l hl)).1
  · rw [← hfm] at hf hw
    have := truth_mir north cols east (svs.map (mir ((cols : Int) - 1))) hc hr hls hw hf
    rwa [map_mir_mir] at this
  · rw [← hfm] at hf hw
    exact (allP_iff.1 (((truth_iff north cols east _ hls hw f).1 hf).1 l hl)).1
theorem lo_mir {a b : Nat} (ha : a ∈ ls) (hb : b ∈ ls) : loQ north east a b (truthsOf (spotsOf north cols east svs) ls (wrong - fewSum north cols east svs lofts)) = loQ north east a b (truthsOf (spotsOf north cols east (svs.map (mir ((cols : Int) - 1)))) ls (wrong - fewSum north cols east svs lofts)) := by
  by_cases hw : wrong < fewSum north cols east svs lofts
  · rw [truths_neg (by omega) (List.ne_nil_of_mem ha), truths_neg (by omega) (List.ne_nil_of_mem ha)]
  · obtain ⟨h1, h2⟩ := set_mir hc hr hls hw
    refine Int.le_antisymm (loQ_of fun f hf => ?_) (loQ_of fun f hf => ?_)
    · exact ⟨_, (h2 f hf).1, q2_mir north cols east ha hb ((h2 f hf).2 a ha) ((h2 f hf).2 b hb)⟩
    · exact ⟨_, (h1 f hf).1, q2_mir north cols east ha hb ((h1 f hf).2 a ha) ((h1 f hf).2 b hb)⟩
theorem hi_mir {a b : Nat} (ha : a ∈ ls) (hb : b ∈ ls) : hiQ north east a b (truthsOf (spotsOf north cols east svs) ls (wrong - fewSum north cols east svs lofts)) = hiQ north east a b (truthsOf (spotsOf north cols east (svs.map (mir ((cols : Int) - 1)))) ls (wrong - fewSum north cols east svs lofts)) := by
  by_cases hw : wrong < fewSum north cols east svs lofts
  · rw [truths_neg (by omega) (List.ne_nil_of_mem ha), truths_neg (by omega) (List.ne_nil_of_mem ha)]
  · obtain ⟨h1, h2⟩ := set_mir hc hr hls hw
    refine Int.le_antisymm (hiQ_of fun f hf => ?_) (hiQ_of fun f hf => ?_)
    · exact ⟨_, (h1 f hf).1, q2_mir north cols east ha hb ((h1 f hf).2 a ha) ((h1 f hf).2 b hb)⟩
    · exact ⟨_, (h2 f hf).1, q2_mir north cols east ha hb ((h2 f hf).2 a ha) ((h2 f hf).2 b hb)⟩
theorem near_mir {o a b : Nat} (ho : o ∈ ls) (ha : a ∈ ls) (hb : b ∈ ls) (hk : ¬ wrong < fewSum north cols east svs lofts → truthsOf (spotsOf north cols east svs) ls (wrong - fewSum north cols east svs lofts) ≠ []) :
    nearV ((truthsOf (spotsOf north cols east svs) ls (wrong - fewSum north cols east svs lofts)).map (cmpF north east o a b)) = nearV ((truthsOf (spotsOf north cols east (svs.map (mir ((cols : Int) - 1)))) ls (wrong - fewSum north cols east svs lofts)).map (cmpF north east o a b)) := by
  by_cases hw : wrong < fewSum north cols east svs lofts
  · rw [truths_neg (by omega) (List.ne_nil_of_mem ha), truths_neg (by omega) (List.ne_nil_of_mem ha)]
  · obtain ⟨h1, h2⟩ := set_mir hc hr hls hw
    have e : ∀ f : At, (∀ l ∈ ls, (f l).1 < cols) → cmpF north east o a b (mf cols ls f) = cmpF north east o a b f := fun f hf => by
      unfold cmpF
      rw [q2_mir north cols east ho ha (hf o ho) (hf a ha), q2_mir north cols east ho hb (hf o ho) (hf b hb)]
    have hne := hk hw
    obtain ⟨f0, hf0⟩ := List.exists_mem_of_ne_nil _ hne
    refine nearV_of (by simpa using hne) (by simpa using List.ne_nil_of_mem (h1 f0 hf0).1) fun x => ?_
    constructor
    · intro hx
      obtain ⟨f, hf, rfl⟩ := List.mem_map.1 hx
      exact List.mem_map.2 ⟨_, (h1 f hf).1, e f (h1 f hf).2⟩
    · intro hx
      obtain ⟨f, hf, rfl⟩ := List.mem_map.1 hx
      exact List.mem_map.2 ⟨_, (h2 f hf).1, e f (h2 f hf).2⟩
end
end Go.Proofs.Ytpjfdfddcnocpaa
