import Derived.Test.YtpjfdfddcnocpaaKd
set_option linter.unusedSimpArgs false
set_option linter.unusedVariables false
namespace Go.Proofs.Ytpjfdfddcnocpaa
open Go.RowKit

def PtsAt (W : World) (g : Nat) (P : List (Nat × Nat)) : Prop := ∀ i, i < P.length → W.cell? ⟨g, i * 2, none⟩ = some (.int .i64 (P.getD i (0, 0)).1) ∧ W.cell? ⟨g, i * 2 + 1, none⟩ = some (.int .i64 (P.getD i (0, 0)).2)
theorem PtsAt.keep {W W' : World} {g : Nat} {P : List (Nat × Nat)} (h : PtsAt W g P) (hg : g < W.heap.size) (k : G W W') : PtsAt W' g P := fun i hi =>
  ⟨((bcellB k).1 _ _ hg).trans (h i hi).1, ((bcellB k).1 _ _ hg).trans (h i hi).2⟩
theorem pts_get : ∀ (P : List (Nat × Nat)) (i : Nat), i < P.length → (P.flatMap fun p => [Value.int .i64 p.1, .int .i64 p.2])[i * 2]? = some (.int .i64 (P.getD i (0, 0)).1) ∧ (P.flatMap fun p => [Value.int .i64 p.1, .int .i64 p.2])[i * 2 + 1]? = some (.int .i64 (P.getD i (0, 0)).2)
  | [], i, h => by simp at h
  | p :: P, 0, _ => by simp
  | p :: P, i + 1, h => by
    have ih := pts_get P i (by simpa using h)
    rw [List.flatMap_cons, show (i + 1) * 2 = i * 2 + 2 by omega, show i * 2 + 2 + 1 = (i * 2 + 1) + 2 by omega]
    simpa using ih
theorem pts_of {W : World} {base : Nat} {v : Value} {l : Nat} {L : List At} (hL : L ≠ []) (h : W.ownsRow base 27 2 v L.length (ptCells l L)) : ∃ g cap, v = .slice (some ⟨g, 0, none⟩) L.length cap ∧ g < W.heap.size ∧ PtsAt W g (L.map fun f => f l) := by
  rcases h.2 with ⟨_, h0⟩ | ⟨g, cap, cur, rfl, _, hb, _, _, _, r4⟩
  · exact absurd (List.length_eq_zero_iff.1 h0) hL
  · have hB : Blk W g 27 cur := hb
    refine ⟨g, cap, rfl, hB.lt, fun i hi => ?_⟩
    have hi' : i < L.length := by simpa using hi
    have e : ptCells l L = (L.map fun f => f l).flatMap fun p => [Value.int .i64 p.1, .int .i64 p.2] := by simp [ptCells, List.flatMap_map]
    obtain ⟨p1, p2⟩ := pts_get (L.map fun f => f l) i hi
    rw [← e, ← r4] at p1 p2
    rw [List.getElem?_take_of_lt (by omega)] at p1 p2
    exact ⟨by rw [hB.cell]; simpa using p1, by rw [hB.cell]; simpa using p2⟩

def lenPQ (north : Int) (east : List Int) (r : Int) (p q : Nat × Nat) : Nat := rnd r (sqI north east p.1 p.2 q.1 q.2).toNat
def endF (north : Int) (east : List Int) (r : Int) (P Q : List (Nat × Nat)) (lo : Nat) : Bool := P.any fun p => Q.any fun q => ((lenPQ north east r p q : Nat) : Int) == lo
theorem any_take_succ {α : Type} (f : α → Bool) (l : List α) (d : α) (k : Nat) (h : k < l.length) : (l.take (k + 1)).any f = ((l.take k).any f || f (l.getD k d)) := by
  rw [List.take_succ_eq_append_getElem h, List.any_append]
  simp [h]
/-- both ends are among the lengths of the places -/
theorem end_reached {north wrong r : Int} {cols lofts a b : Nat} {east : List Int} {svs : List Sv} (hk : checkE north cols east lofts svs wrong = 0) (hw : ¬ wrong < fewSum north cols east svs lofts) :
    endF north east r ((truthsOf (spotsOf north cols east svs) [a] (wrong - fewSum north cols east svs lofts)).map fun f => f a) ((truthsOf (spotsOf north cols east svs) [b] (wrong - fewSum north cols east svs lofts)).map fun f => f b)
      (rnd r (loQ north east a b (truthsOf (spotsOf north cols east svs) [a, b] (wrong - fewSum north cols east svs lofts))).toNat) = true ∧
    endF north east r ((truthsOf (spotsOf north cols east svs) [a] (wrong - fewSum north cols east svs lofts)).map fun f => f a) ((truthsOf (spotsOf north cols east svs) [b] (wrong - fewSum north cols east svs lofts)).map fun f => f b)
      (rnd r (hiQ north east a b (truthsOf (spotsOf north cols east svs) [a, b] (wrong - fewSum north cols east svs lofts))).toNat) = true ∧
    rnd r (loQ north east a b (truthsOf (spotsOf north cols east svs) [a, b] (wrong - fewSum north cols east svs lofts))).toNat ≤ rnd r (hiQ north east a b (truthsOf (spotsOf north cols east svs) [a, b] (wrong - fewSum north cols east svs lofts))).toNat := by
  have hv := checkE_ok hk
  have hne := truths_ne (ls := [a, b]) hk hw
  have hq : ∀ f ∈ truthsOf (spotsOf north cols east svs) [a, b] (wrong - fewSum north cols east svs lofts), 0 ≤ q2 north east a b f ∧ q2 north east a b f ≤ 2592000000000000 := fun f hf => by
    obtain ⟨⟨g1, g2⟩, ⟨g3, g4⟩⟩ := truths_good (rows := spotsOf north cols east svs) (cols := cols) (er := east.length) (fun l _ s hs => spotsOf_mem hs) hf
    exact sq_bd hv g2 g4 (by simp [isInB]; omega) (by simp [isInB]; omega)
  obtain ⟨⟨f, hf, e1⟩, ⟨g, hg, e2⟩, hlh⟩ := ends north east a b _ 2592000000000000 (by omega) hne hq
  have key : ∀ f, f ∈ truthsOf (spotsOf north cols east svs) [a, b] (wrong - fewSum north cols east svs lofts) → ∀ z : Int, z = q2 north east a b f → endF north east r ((truthsOf (spotsOf north cols east svs) [a] (wrong - fewSum north cols east svs lofts)).map fun f => f a) ((truthsOf (spotsOf north cols east svs) [b] (wrong - fewSum north cols east svs lofts)).map fun f => f b) (rnd r z.toNat) = true := fun f hf z hz => by
    obtain ⟨fa, ha, ea⟩ := truths_one (l := a) (by simp) hf
    obtain ⟨fb, hb, eb⟩ := truths_one (l := b) (by simp) hf
    unfold endF
    refine List.any_eq_true.2 ⟨f a, List.mem_map.2 ⟨fa, ha, ea⟩, List.any_eq_true.2 ⟨f b, List.mem_map.2 ⟨fb, hb, eb⟩, ?_⟩⟩
    unfold lenPQ
    rw [hz]
    simp [q2]
  refine ⟨key f hf _ e1, key g hg _ e2, ?_⟩
  have h2 := hq g hg
  have h1 := hq f hf
  refine rnd_mono r (by omega) (by omega)
end Go.Proofs.Ytpjfdfddcnocpaa
