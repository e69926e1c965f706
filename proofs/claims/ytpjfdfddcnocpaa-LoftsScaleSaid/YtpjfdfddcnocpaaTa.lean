import Derived.Test.YtpjfdfddcnocpaaSf
import Derived.Test.YtpjfdfddcnocpaaVc
set_option linter.unusedSimpArgs false
set_option linter.unusedVariables false
namespace Go.Proofs.Ytpjfdfddcnocpaa
open Go.RowKit Go.Shelf

theorem Blk.setCells {g : Nat} {t : TypeId} : ∀ (vs : List Value) (o : Nat) {W : World} {cs : Array Value}, Blk W g t cs →
    ∃ cs', Blk (W.setCells g o vs) g t cs' ∧ cs'.size = cs.size ∧ (∀ k, o + k < cs.size → k < vs.length → cs'[o + k]? = vs[k]?) ∧ (∀ j, j < o → cs'[j]? = cs[j]?)
  | [], o, W, cs, h => ⟨cs, h, rfl, fun k _ hk => by simp at hk, fun _ _ => rfl⟩
  | v :: r, o, W, cs, h => by
    obtain ⟨cs', h1, h2, h3, h4⟩ := Blk.setCells r (o + 1) (h.set_ o v)
    refine ⟨cs', h1, by simpa using h2, fun k hk hv => ?_, fun j hj => ?_⟩
    · cases k with
      | zero =>
        rw [h4 (o + 0) (by omega)]
        have : o < cs.size := hk
        simp [this]
      | succ k =>
        have h5 := h3 k (by simp; omega) (by simpa using hv)
        rw [show o + (k + 1) = o + 1 + k by omega, h5]
        simp
    · rw [h4 j (by omega), Array.getElem?_setIfInBounds, if_neg (by omega)]
theorem Kt.setCells {T : TypeId → Prop} {B g : Nat} {t : TypeId} (hB : B ≤ g) (hT : T t) : ∀ (vs : List Value) (o : Nat) {W : World} {cs : Array Value}, Blk W g t cs → Kt T B W (W.setCells g o vs)
  | [], _, W, _, _ => Kt.rf _ _ _
  | v :: r, o, W, cs, h => (Kt.set h hB hT v).t (Kt.setCells hB hT r (o + 1) (h.set_ o v))
theorem Kt.imp {T T' : TypeId → Prop} {B : Nat} {X Y : World} (hT : ∀ t, T t → T' t) (h : Kt T B X Y) : Kt T' B X Y :=
  ⟨h.os, h.tape, h.output, h.size, fun i o hi hc => h.block i o hi (hc.imp id (fun hf c t f e ht => hf c t f e (hT t ht)))⟩

theorem compact_mem {zs : List Int} {x : Int} (h : x ∈ Lib.compact zs) : x ∈ zs := by
  unfold Lib.compact Lib.compactUpTo at h
  obtain ⟨j, hj, rfl⟩ := List.mem_map.1 h
  have hj2 := (List.mem_filter.1 hj).1
  simp at hj2
  simp [hj2]

/-- the lofts that are named, in order, each once -/
def namesOf (ls : List Nat) : List Nat := (Lib.compact (sortL (ls.map fun n : Nat => (n : Int)))).map Int.toNat
theorem namesZ_nat {ls : List Nat} {x : Int} (h : x ∈ Lib.compact (sortL (ls.map fun n : Nat => (n : Int)))) : ∃ n ∈ ls, x = (n : Int) := by
  have h1 := compact_mem h
  unfold sortL at h1
  rw [List.mem_mergeSort] at h1
  obtain ⟨n, hn, rfl⟩ := List.mem_map.1 h1
  exact ⟨n, hn, rfl⟩
theorem namesOf_mem {ls : List Nat} {x : Nat} (h : x ∈ namesOf ls) : x ∈ ls := by
  obtain ⟨y, hy, rfl⟩ := List.mem_map.1 h
  obtain ⟨n, hn, rfl⟩ := namesZ_nat hy
  simpa using hn
theorem namesOf_len (ls : List Nat) : (namesOf ls).length ≤ ls.length := by
  unfold namesOf
  rw [List.length_map]
  refine Nat.le_trans (Lib.compact_length_le _) ?_
  rw [sortL_len, List.length_map]
  exact Nat.le_refl _

/-- Compact at a block of ints that lies alone -/
theorem Compact_blk (w : World) (g cap : Nat) (zs : List Int) (cur : Array Value) (hb : Blk w g 3 cur) (hl : zs.length ≤ 1000000) (hc : zs.length ≤ cap) (hcs : cur.size = cap) (hcur : cur.toList.take zs.length = zs.map (Value.int .i64)) :
    Calls Try.prog 92 #[.slice (some ⟨g, 0, none⟩) zs.length cap] w fun e w' => ∃ gc q vs, e = .returned (.slice (some ⟨g, 0, none⟩) (Lib.compact zs).length cap) ∧ Blk w' g 3 gc ∧
      (∀ k, k < (Lib.compact zs).length → gc[0 + k]? = some (.int .i64 ((Lib.compact zs).getD k 0))) ∧ w' = (w.drewN q).setCells g 0 vs := by
  have hcell : ∀ j, j < zs.length → w.cell? ⟨g, 0 + j, none⟩ = some (.int .i64 (zs.getD j 0)) := fun j hj => by
    rw [hb.cell]
    have h1 : (cur.toList.take zs.length)[j]? = (zs.map (Value.int .i64))[j]? := by rw [hcur]
    rw [List.getElem?_take_of_lt hj] at h1
    rw [Nat.zero_add]
    simpa [hj] using h1
  refine (Try.slices_Compact_int_cells g 0 zs.length cap zs w (Nat.le_refl _) (by omega) hc hcell (fun j _ => hb.frozen _)).mono ?_
  rintro e w' ⟨rfl, q, rfl⟩
  rw [List.take_length]
  have hb2 : Blk (w.drewN q) g 3 cur := hb
  obtain ⟨gc, h1, h2, h3, _⟩ := Blk.setCells ((Lib.compact zs ++ List.replicate (zs.length - (Lib.compact zs).length) 0).map (Value.int .i64)) 0 hb2
  refine ⟨gc, q, _, rfl, h1, fun k hk => ?_, rfl⟩
  have hle := Lib.compact_length_le zs
  rw [h3 k (by omega) (by simp; omega), List.getElem?_map, List.getElem?_append_left hk]
  simp [hk]
end Go.Proofs.Ytpjfdfddcnocpaa
