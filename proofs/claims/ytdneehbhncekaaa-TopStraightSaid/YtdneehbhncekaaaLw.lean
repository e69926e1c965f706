import Derived.Test.YtdneehbhncekaaaLm
import Derived.Test.YtdneehbhncekaaaKd
set_option linter.unusedSimpArgs false
set_option linter.unusedVariables false
namespace Go.Proofs.Ytdneehbhncekaaa
open Go.RowKit

theorem lo_const {north : Int} {east : List Int} {a b : Nat} {c : Int} : ∀ (L : List At) (m : Int), (∀ f ∈ L, q2 north east a b f = c) → (L ≠ [] ∨ m = c) → c ≤ m → L.foldl (fun m f => min m (q2 north east a b f)) m = c
  | [], m, _, h, _ => by rcases h with h | h; exact absurd rfl h; exact h
  | f :: L, m, h, _, hm => by
    rw [List.foldl_cons, h f List.mem_cons_self]
    exact lo_const L _ (fun g hg => h g (List.mem_cons_of_mem _ hg)) (.inr (by omega)) (by omega)
theorem hi_const {north : Int} {east : List Int} {a b : Nat} {c : Int} : ∀ (L : List At) (m : Int), (∀ f ∈ L, q2 north east a b f = c) → (L ≠ [] ∨ m = c) → m ≤ c → L.foldl (fun m f => max m (q2 north east a b f)) m = c
  | [], m, _, h, _ => by rcases h with h | h; exact absurd rfl h; exact h
  | f :: L, m, h, _, hm => by
    rw [List.foldl_cons, h f List.mem_cons_self]
    exact hi_const L _ (fun g hg => h g (List.mem_cons_of_mem _ hg)) (.inr (by omega)) (by omega)
theorem dist_one {north wrong : Int} {cols lofts a b : Nat} {east : List Int} {svs : List Sv} {f g : At} (hk : checkE north cols east lofts svs wrong = 0) (hw : ¬ wrong < fewSum north cols east svs lofts)
    (hA : truthsOf (spotsOf north cols east svs) [a] (wrong - fewSum north cols east svs lofts) = [f]) (hB : truthsOf (spotsOf north cols east svs) [b] (wrong - fewSum north cols east svs lofts) = [g])
    (h0 : 0 ≤ sqI north east (f a).1 (f a).2 (g b).1 (g b).2 ∧ sqI north east (f a).1 (f a).2 (g b).1 (g b).2 ≤ 9223372036854775807) :
    loQ north east a b (truthsOf (spotsOf north cols east svs) [a, b] (wrong - fewSum north cols east svs lofts)) = sqI north east (f a).1 (f a).2 (g b).1 (g b).2 ∧
    hiQ north east a b (truthsOf (spotsOf north cols east svs) [a, b] (wrong - fewSum north cols east svs lofts)) = sqI north east (f a).1 (f a).2 (g b).1 (g b).2 := by
  have hne := truths_ne (ls := [a, b]) hk hw
  have hall : ∀ F ∈ truthsOf (spotsOf north cols east svs) [a, b] (wrong - fewSum north cols east svs lofts), q2 north east a b F = sqI north east (f a).1 (f a).2 (g b).1 (g b).2 := fun F hF => by
    obtain ⟨x, hx, ex⟩ := truths_one (l := a) (by simp) hF
    obtain ⟨y, hy, ey⟩ := truths_one (l := b) (by simp) hF
    rw [hA] at hx
    rw [hB] at hy
    obtain rfl : x = f := by simpa using hx
    obtain rfl : y = g := by simpa using hy
    unfold q2
    rw [ex, ey]
  exact ⟨lo_const _ _ hall (.inl hne) h0.2, hi_const _ _ hall (.inl hne) h0.1⟩
/-- the surveys change nothing in a map's being valid, if there are none -/
theorem check_bare {north wrong : Int} {cols lofts : Nat} {east : List Int} {svs : List Sv} (hk : checkE north cols east lofts svs wrong = 0) : checkE north cols east lofts [] wrong = 0 := by
  have hv := checkE_ok hk
  unfold checkE
  rw [hv]
  simp
theorem truth_in {north : Int} {cols : Nat} {east : List Int} {svs : List Sv} {l : Nat} {sp : Int} {f : At} (h : f ∈ truthsOf (spotsOf north cols east svs) [l] sp) : (f l).1 < cols ∧ (f l).2 < east.length := by
  obtain ⟨s, hs, _, e⟩ := settleL_more _ _ _ _ f h l (namesOf_mem' (by simp))
  rw [e]
  exact spotsOf_mem hs
end Go.Proofs.Ytdneehbhncekaaa
