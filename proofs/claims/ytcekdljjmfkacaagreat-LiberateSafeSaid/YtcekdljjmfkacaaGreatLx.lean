import Derived.Test.YtcekdljjmfkacaaGreatKd
import Derived.Laws.AppendOwnNone
set_option linter.unusedSimpArgs false
set_option linter.unusedVariables false
namespace Go.Proofs.YtcekdljjmfkacaaGreat
open Go.RowKit
attribute [local go_sem] Oper.semAt_some

def PtsAt (W : World) (g : Nat) (P : List (Nat × Nat)) : Prop := ∀ i, i < P.length → W.cell? ⟨g, i * 2, none⟩ = some (.int .i64 (P.getD i (0, 0)).1) ∧ W.cell? ⟨g, i * 2 + 1, none⟩ = some (.int .i64 (P.getD i (0, 0)).2)
theorem PtsAt.keep {W W' : World} {g : Nat} {P : List (Nat × Nat)} (h : PtsAt W g P) (hg : g < W.heap.size) (k : G W W') : PtsAt W' g P := fun i hi =>
  ⟨((bcellB k).1 _ _ hg).trans (h i hi).1, ((bcellB k).1 _ _ hg).trans (h i hi).2⟩
theorem pts_get : ∀ (P : List (Nat × Nat)) (i : Nat), i < P.length → (P.flatMap fun p => [Value.int .i64 p.1, .int .i64 p.2])[i * 2]? = some (.int .i64 (P.getD i (0, 0)).1) ∧ (P.flatMap fun p => [Value.int .i64 p.1, .int .i64 p.2])[i * 2 + 1]? = some (.int .i64 (P.getD i (0, 0)).2)
  | [], i, h => by simp at h
  | p :: P, 0, _ => by simp
  | p :: P, i + 1, h => by
    have ih := pts_get P i (by simpa using h)
    rw [List.flatMap_cons, show (i + 1) * 2 = i * 2 + 2 by omega, show i * 2 + 2 + 1 = (i * 2 + 1) + 2 by omega]
    simpa using ih
theorem own_G {X Y : World} {base : Nat} {e : TypeId} {size k : Nat} {v : Value} {xs : List Value} (h : X.ownsRow base e size v k xs) (hk : G X Y) : Y.ownsRow base e size v k xs :=
  ownsRow_kt h (G.kt (T := fun _ => False) (B := 0) hk) (fun h => h)
def natV (l : List Nat) : List Value := l.map fun n : Nat => Value.int .i64 (n : Int)
def ptsV (P : List (Nat × Nat)) : List Value := P.flatMap fun p => [Value.int .i64 p.1, Value.int .i64 p.2]
theorem ptsV_snoc (P : List (Nat × Nat)) (p : Nat × Nat) : ptsV (P ++ [p]) = ptsV P ++ [Value.int .i64 p.1, Value.int .i64 p.2] := by
  unfold ptsV
  rw [List.flatMap_append]
  rfl
theorem grow_own {wb WX w4 : World} {base : Nat} {e : TypeId} {size n : Nat} {v : Value} {xs : List Value} (hG : G wb WX) (h : WX.ownsRow base e size v n xs) (hb : wb.heap.size ≤ base) (hg : WX.grownBy w4 v.ownBlock) : G wb w4 :=
  (Fr.grown (G.fr (R := fun _ => False) hG) hg (fun g e => .inr (Nat.le_trans hb (own_base h e)))).toG (fun _ _ h => h)
theorem own_own {W : World} {b1 b2 s1 s2 n1 n2 : Nat} {e1 e2 : TypeId} {v1 v2 : Value} {xs1 xs2 : List Value} (h1 : W.ownsRow b1 e1 s1 v1 n1 xs1) (h2 : W.ownsRow b2 e2 s2 v2 n2 xs2) (hne : e1 ≠ e2) : v1.ownBlock = none ∨ v1.ownBlock ≠ v2.ownBlock := by
  rcases h1.2 with ⟨rfl, _⟩ | ⟨g, cap, cur, rfl, _, hb, _⟩
  · exact .inl rfl
  · exact .inr (own_ne h2 (show Blk W g e1 cur from hb) hne)
theorem own_some {W : World} {b s n : Nat} {e : TypeId} {v : Value} {xs : List Value} (h : W.ownsRow b e s v n xs) (hn : 0 < n) : ∃ g cap cur, v = .slice (some ⟨g, 0, none⟩) n cap ∧ Blk W g e cur ∧ g < W.heap.size ∧ cur.toList.take (n * s) = xs := by
  rcases h.2 with ⟨_, h0⟩ | ⟨g, cap, cur, rfl, _, hb, _, _, _, ht⟩
  · omega
  · exact ⟨g, cap, cur, rfl, hb, (Array.getElem?_eq_some_iff.1 hb).1, ht⟩
theorem take_cell {W : World} {g : Nat} {e : TypeId} {cur : Array Value} {n : Nat} {xs : List Value} (h : Blk W g e cur) (ht : cur.toList.take n = xs) {k : Nat} (hk : k < n) {v : Value} (hx : xs[k]? = some v) : W.cell? ⟨g, k, none⟩ = some v := by
  rw [h.cell k]
  rw [← ht, List.getElem?_take_of_lt hk] at hx
  simpa using hx
theorem pts_own {W : World} {b n : Nat} {v : Value} {P : List (Nat × Nat)} (hn : n = P.length) (h : W.ownsRow b 27 2 v n (ptsV P)) (h0 : 0 < n) : ∃ g cap, v = .slice (some ⟨g, 0, none⟩) P.length cap ∧ g < W.heap.size ∧ PtsAt W g P := by
  subst hn
  obtain ⟨g, cap, cur, rfl, hb, hg, ht⟩ := own_some h h0
  refine ⟨g, cap, rfl, hg, fun i hi => ?_⟩
  obtain ⟨p1, p2⟩ := pts_get P i hi
  exact ⟨take_cell hb ht (by omega) p1, take_cell hb ht (by omega) p2⟩
def ZAt (w : World) (a : Option Addr) (l : List (Int × Int)) : Prop := l = [] ∨ ∃ b off, a = some ⟨b, off, none⟩ ∧ b < w.heap.size ∧ ∀ k, k < l.length →
  w.cell? ⟨b, off + k * 2, none⟩ = some (.int .i64 (l.getD k (0, 0)).1) ∧ w.cell? ⟨b, off + k * 2 + 1, none⟩ = some (.int .i64 (l.getD k (0, 0)).2)
theorem ZAt.below {w W : World} {a : Option Addr} {l : List (Int × Int)} (h : ZAt w a l) (hG : G w W) : ZAt W a l := by
  rcases h with rfl | ⟨b, off, rfl, hb, hc⟩
  · exact .inl rfl
  · refine .inr ⟨b, off, rfl, Nat.lt_of_lt_of_le hb hG.size, fun k hk => ?_⟩
    obtain ⟨h1, h2⟩ := hc k hk
    exact ⟨((bcellB hG).1 b _ hb).trans h1, ((bcellB hG).1 b _ hb).trans h2⟩
def zz (P : List (Nat × Nat)) : List (Int × Int) := P.map fun p => ((p.1 : Int), (p.2 : Int))
theorem ptCells_eq (l : Nat) (L : List At) : ptCells l L = ptsV (L.map fun f => f l) := by
  simp [ptCells, ptsV, List.flatMap_map]
section
variable {north wrong : Int} {cols lofts : Nat} {east : List Int} {svs : List Sv} {l : List (Int × Int)}
theorem settleL_len3 (rows : Nat → List Sp) (B : Nat) (hB : 1 ≤ B) : ∀ (ls : List Nat) (f : At) (sp : Int), (∀ l ∈ ls, (rows l).length ≤ B) → (settleL rows ls f sp).length ≤ B ^ ls.length
  | [], _, _, _ => by simp [settleL]
  | l :: ls, f, sp, h => by
    rw [settleL_cons, List.length_cons, Nat.pow_succ]
    have key : ∀ r : List Sp, (r.flatMap (stepL rows l ls f sp)).length ≤ r.length * B ^ ls.length := by
      intro r
      induction r with
      | nil => simp
      | cons s r ih =>
        rw [List.flatMap_cons, List.length_append, List.length_cons, Nat.add_mul, Nat.one_mul]
        have : (stepL rows l ls f sp s).length ≤ B ^ ls.length := by
          unfold stepL
          split
          · exact settleL_len3 rows B hB ls _ _ (fun x hx => h x (List.mem_cons_of_mem _ hx))
          · simp
        omega
    refine Nat.le_trans (key _) ?_
    rw [Nat.mul_comm]
    exact Nat.mul_le_mul_left _ (h l List.mem_cons_self)
end
section
variable {north wrong : Int} {cols lofts : Nat} {east : List Int} {svs : List Sv} {l : List (Int × Int)}
end
theorem ptsV_len2 (P : List (Nat × Nat)) : (ptsV P).length = P.length * 2 := by
  induction P with
  | nil => rfl
  | cons p P ih => simp only [ptsV, List.flatMap_cons, List.length_append, List.length_cons] at *; rw [ih]; simp; omega
theorem ptsV_one2 (P : List (Nat × Nat)) : ∀ u ∈ ptsV P, u.oneCell' = true := by
  intro u hu
  obtain ⟨p, _, hp⟩ := List.mem_flatMap.1 hu
  rcases List.mem_cons.1 hp with rfl | hp
  · rfl
  · rw [List.mem_singleton.1 hp]; rfl
theorem add0 (g j : Nat) : (⟨g, 0, none⟩ : Addr).add j = ⟨g, j, none⟩ := by
  unfold Addr.add
  by_cases h : j = 0
  · subst h; rfl
  · simp [h]
theorem pts_src {W : World} {g : Nat} {P : List (Nat × Nat)} (h : PtsAt W g P) : ∀ j u, (ptsV P)[j]? = some u → W.cell? ((⟨g, 0, none⟩ : Addr).add j) = some u := by
  intro j u hj
  have hlt : j < (ptsV P).length := (List.getElem?_eq_some_iff.1 hj).1
  rw [ptsV_len2] at hlt
  obtain ⟨i, hi⟩ : ∃ i, j = i * 2 ∨ j = i * 2 + 1 := ⟨j / 2, by omega⟩
  have hip : i < P.length := by omega
  obtain ⟨p1, p2⟩ := pts_get P i hip
  obtain ⟨c1, c2⟩ := h i hip
  rcases hi with rfl | rfl
  · have e : some u = some (Value.int .i64 (P.getD i (0, 0)).1) := hj.symm.trans p1
    rw [e, add0]
    exact c1
  · have e : some u = some (Value.int .i64 (P.getD i (0, 0)).2) := hj.symm.trans p2
    rw [e, add0]
    exact c2
theorem Blk.kept6 {W W' : World} {g : Nat} {t : TypeId} {cs : Array Value} (h : W'.heap[g]? = W.heap[g]?) (b : Blk W g t cs) : Blk W' g t cs := by
  unfold Blk at *
  rw [h]
  exact b
theorem cells_two {W : World} {g : Nat} {t : TypeId} {a b : Value} (h : Blk W g t #[a, b]) : ∀ j u, [a, b][j]? = some u → W.cell? ((⟨g, 0, none⟩ : Addr).add j) = some u := by
  intro j u hj
  rw [add0, h.cell j]
  simpa using hj
theorem own_one7 {W : World} {base n size : Nat} {e : TypeId} {v : Value} {xs : List Value} (h : W.ownsRow base e size v n xs) : ∀ u ∈ [v], u.oneCell' = true := by
  intro u hu
  rw [List.mem_singleton.1 hu]
  rcases h.2 with ⟨rfl, _⟩ | ⟨g, cap, cur, rfl, _⟩ <;> rfl
theorem own_one {W : World} {g : Nat} {e : TypeId} {x : Value} (b : Blk W g e #[x]) : W.ownsRow g e 1 (.slice (some ⟨g, 0, none⟩) 1 1) 1 [x] :=
  ⟨by simp, .inr ⟨g, 1, #[x], rfl, Nat.le_refl _, b, Nat.le_refl _, by decide, by simp, by simp⟩⟩
theorem own_slice {W : World} {base n size : Nat} {e : TypeId} {v : Value} {xs : List Value} (h : W.ownsRow base e size v n xs) : ∃ ra rc, v = .slice ra n rc := by
  rcases h.2 with ⟨rfl, h0⟩ | ⟨g, cap, cur, rfl, _⟩
  · subst h0; exact ⟨_, _, rfl⟩
  · exact ⟨_, _, rfl⟩
end Go.Proofs.YtcekdljjmfkacaaGreat
