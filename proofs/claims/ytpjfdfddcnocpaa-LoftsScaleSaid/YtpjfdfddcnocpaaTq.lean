import Derived.Test.YtpjfdfddcnocpaaTr
set_option linter.unusedSimpArgs false
set_option linter.unusedVariables false
namespace Go.Proofs.Ytpjfdfddcnocpaa
open Go.RowKit Go.Shelf

theorem compact_mem' {zs : List Int} {x : Int} (h : x ∈ zs) : x ∈ Lib.compact zs := by
  obtain ⟨j, hj, rfl⟩ := List.mem_iff_getElem.1 h
  have key : ∀ k, k < zs.length → zs.toArray[k]! ∈ Lib.compact zs := by
    intro k
    induction k with
    | zero =>
      intro hk
      exact List.mem_map.2 ⟨0, List.mem_filter.2 ⟨by simpa using hk, Lib.keeps_lt_one _ 0 (by omega)⟩, rfl⟩
    | succ k ih =>
      intro hk
      by_cases he : zs.toArray[k + 1]! = zs.toArray[k]!
      · rw [he]; exact ih (by omega)
      · exact List.mem_map.2 ⟨k + 1, List.mem_filter.2 ⟨by simpa using hk, Lib.keeps_pos (by simpa using he)⟩, rfl⟩
  have := key j hj
  simpa [hj] using this
theorem namesOf_mem' {ls : List Nat} {x : Nat} (h : x ∈ ls) : x ∈ namesOf ls := by
  refine List.mem_map.2 ⟨(x : Int), compact_mem' ?_, by simp⟩
  unfold sortL
  rw [List.mem_mergeSort]
  exact List.mem_map.2 ⟨x, h, rfl⟩

/-- in a truth each named loft has one of its spots, and what is not named stays -/
theorem settleL_spec (rows : Nat → List Sp) : ∀ (ls : List Nat) (f0 : At) (sp : Int) (f : At), f ∈ settleL rows ls f0 sp → ∀ l, (l ∈ ls → ∃ s ∈ rows l, f l = (s.x, s.y)) ∧ (l ∉ ls → f l = f0 l)
  | [], f0, sp, f, h, l => by
    simp [settleL] at h
    subst h
    exact ⟨fun h => by simp at h, fun _ => rfl⟩
  | k :: ls, f0, sp, f, h, l => by
    rw [settleL_cons] at h
    obtain ⟨s, hs, hf⟩ := List.mem_flatMap.1 h
    unfold stepL at hf
    split at hf
    · obtain ⟨h1, h2⟩ := settleL_spec rows ls _ _ f hf l
      by_cases hl : l ∈ ls
      · exact ⟨fun _ => h1 hl, fun hn => absurd (List.mem_cons_of_mem _ hl) hn⟩
      · have h3 := h2 hl
        by_cases hk : l = k
        · subst hk
          refine ⟨fun _ => ⟨s, hs, by rw [h3]; simp [upd]⟩, fun hn => absurd List.mem_cons_self hn⟩
        · refine ⟨fun h => ?_, fun _ => by rw [h3]; simp [upd, hk]⟩
          rcases List.mem_cons.1 h with h | h
          · exact absurd h hk
          · exact absurd h hl
    · simp at hf

/-- the square of twice the distance of two lofts -/
def q2 (north : Int) (east : List Int) (a b : Nat) (f : At) : Int := sqI north east (f a).1 (f a).2 (f b).1 (f b).2
def loQ (north : Int) (east : List Int) (a b : Nat) (L : List At) : Int := L.foldl (fun m f => min m (q2 north east a b f)) 9223372036854775807
def hiQ (north : Int) (east : List Int) (a b : Nat) (L : List At) : Int := L.foldl (fun m f => max m (q2 north east a b f)) 0
theorem loQ_snoc (north : Int) (east : List Int) (a b : Nat) (L : List At) (f : At) : loQ north east a b (L ++ [f]) = min (loQ north east a b L) (q2 north east a b f) := by simp [loQ]
theorem hiQ_snoc (north : Int) (east : List Int) (a b : Nat) (L : List At) (f : At) : hiQ north east a b (L ++ [f]) = max (hiQ north east a b L) (q2 north east a b f) := by simp [hiQ]
theorem loQ_bd {north : Int} {east : List Int} {a b : Nat} {B : Int} : ∀ (L : List At) (m : Int), (∀ f ∈ L, 0 ≤ q2 north east a b f ∧ q2 north east a b f ≤ B) → 0 ≤ m →
    0 ≤ L.foldl (fun m f => min m (q2 north east a b f)) m ∧ (m ≤ B ∨ L ≠ [] → L.foldl (fun m f => min m (q2 north east a b f)) m ≤ B)
  | [], m, _, hm => ⟨hm, fun h => h.elim id (fun h => absurd rfl h)⟩
  | f :: L, m, h, hm => by
    have h1 := h f List.mem_cons_self
    obtain ⟨h2, h3⟩ := loQ_bd L (min m (q2 north east a b f)) (fun g hg => h g (List.mem_cons_of_mem _ hg)) (by omega)
    exact ⟨h2, fun _ => h3 (.inl (by omega))⟩
theorem hiQ_bd {north : Int} {east : List Int} {a b : Nat} {B : Int} : ∀ (L : List At) (m : Int), (∀ f ∈ L, 0 ≤ q2 north east a b f ∧ q2 north east a b f ≤ B) → 0 ≤ m → m ≤ B →
    0 ≤ L.foldl (fun m f => max m (q2 north east a b f)) m ∧ L.foldl (fun m f => max m (q2 north east a b f)) m ≤ B
  | [], m, _, hm, hB => ⟨hm, hB⟩
  | f :: L, m, h, hm, hB => by
    have h1 := h f List.mem_cons_self
    exact hiQ_bd L (max m (q2 north east a b f)) (fun g hg => h g (List.mem_cons_of_mem _ hg)) (by omega) (by omega)

/-- what a truth says of two named lofts -/
theorem truths_good {rows : Nat → List Sp} {a b : Nat} {sp : Int} {cols er : Nat} (hr : ∀ l, l = a ∨ l = b → ∀ s ∈ rows l, s.x < cols ∧ s.y < er) {f : At} (h : f ∈ truthsOf rows [a, b] sp) : ((f a).1 < cols ∧ (f a).2 < er) ∧ ((f b).1 < cols ∧ (f b).2 < er) := by
  have key : ∀ l, l = a ∨ l = b → (f l).1 < cols ∧ (f l).2 < er := fun l hl => by
    obtain ⟨s, hs, he⟩ := (settleL_spec rows _ _ _ f h l).1 (namesOf_mem' (by rcases hl with rfl | rfl <;> simp))
    have := hr l hl s hs
    rw [he]
    exact this
  exact ⟨key a (.inl rfl), key b (.inr rfl)⟩

theorem Fr.kt {R : Nat → Prop} {T : TypeId → Prop} {A X Y : World} {B : Nat} (h : Fr R A X) (k : Kt T B X Y) (hB : A.heap.size ≤ B) : Fr R A Y :=
  ⟨k.os.trans h.os, k.tape.trans h.tape, k.output.trans h.output, Nat.le_trans h.size k.size, fun i hi hn => by
    have hx := h.block i hi hn
    have hlt : i < X.heap.size := Nat.lt_of_lt_of_le hi h.size
    have e : X.heap[i]? = some X.heap[i] := Array.getElem?_eq_getElem hlt
    exact (k.block i _ e (.inl (Nat.lt_of_lt_of_le hi hB))).trans (e.symm.trans hx)⟩
theorem KC.put {R : Nat → TypeId → Prop} (W : World) (l : Nat) (o o' : Obj) (ho : W.heap[l]? = some o) (hc : o.isCells = false) : KC R W (W.putObj l o') :=
  ⟨by simp [World.putObj], fun i c t f hi _ => by
    refine (World.putObj_heap_other (fun e => ?_)).trans hi
    rw [e, ho] at hi
    cases hi
    cases hc⟩

theorem truths_any (O : Nat) (a : Option Addr) (k c : Nat) (w : World) : Calls Try.prog 58 #[.pointer (some ⟨O, 0, none⟩), .slice a k c] w fun e w' =>
    e = .returned (.func (.func 88) #[] #[.pointer (some ⟨w.heap.size + 1, 0, none⟩), .pointer (some ⟨w.heap.size, 0, none⟩)]) ∧ w' = (w.alloc (.cells #[.pointer (some ⟨O, 0, none⟩)] 75)).alloc (.cells #[.slice a k c] 22) := by
  go_enter Try.func58, Try.ntmps58
  go_wp2
  go_ret
  exact ⟨rfl, rfl⟩
end Go.Proofs.Ytpjfdfddcnocpaa
