import Derived.Test.YtnkmcoljijmgpaaGreatBt
set_option linter.unusedSimpArgs false
set_option linter.unusedVariables false
namespace Go.Proofs.YtnkmcoljijmgpaaGreat
open Go.RowKit Go.Shelf Go.Sort Go.Maps
attribute [local go_sem] Oper.semAt_some
theorem within_any (n lo hi : Int) (w : World) : Calls Tryz.prog 69 #[.int .i64 n, .int .i64 lo, .int .i64 hi] w fun e w' => e = .returned (.bool (isInB n lo hi)) ∧ G w w' := by
  by_cases h1 : lo ≤ n
  · by_cases h2 : n ≤ hi
    · have HH : Hid (isInB n lo hi = true) := by unfold isInB Hid; simp [h1, h2]
      go_enter Tryz.func69, Tryz.ntmps69
      go_wp2
      go_ret
      exact ⟨by rw [HH.out]; first | rfl | simp [h1, h2], G.rf _⟩
    · have HH : Hid (isInB n lo hi = false) := by unfold isInB Hid; simp [h1, h2]
      go_enter Tryz.func69, Tryz.ntmps69
      go_wp2
      go_ret
      exact ⟨by rw [HH.out]; first | rfl | simp [h1, h2], G.rf _⟩
  · have HH : Hid (isInB n lo hi = false) := by unfold isInB Hid; simp [h1]
    go_enter Tryz.func69, Tryz.ntmps69
    go_wp2
    go_ret
    exact ⟨by rw [HH.out]; first | rfl | simp [h1], G.rf _⟩
/-- the place of a bird, -1 if it is not there -/
def idxR (l : List Rc) (b : Int) : Int := match (List.range l.length).find? fun i => (l.getD i default).bird == b with | some i => i | none => -1
theorem find_range {p : Nat → Bool} {n k : Nat} (hk : k < n) (hp : p k = true) (hno : ∀ j, j < k → p j = false) : (List.range n).find? p = some k := by
  rw [List.find?_range_eq_some]
  exact ⟨hp, List.mem_range.2 hk, fun j hj => by simpa using hno j hj⟩
theorem idxR_some {l : List Rc} {b : Int} {k : Nat} (hk : k < l.length) (h : (l.getD k default).bird = b) (hno : ∀ j, j < k → ¬ (l.getD j default).bird = b) : idxR l b = k := by
  unfold idxR
  rw [find_range hk (by simpa using h) (fun j hj => by simpa using hno j hj)]
theorem idxR_none {l : List Rc} {b : Int} (hno : ∀ j, j < l.length → ¬ (l.getD j default).bird = b) : idxR l b = -1 := by
  unfold idxR
  rw [List.find?_eq_none.2 (fun j hj => by simpa using hno j (List.mem_range.1 hj))]
theorem first_or {p : Nat → Prop} [DecidablePred p] : ∀ n : Nat, (∀ j, j < n → ¬ p j) ∨ ∃ k, k < n ∧ p k ∧ ∀ j, j < k → ¬ p j
  | 0 => .inl fun j hj => by omega
  | n + 1 => by
    rcases first_or (p := p) n with h | ⟨k, h1, h2, h3⟩
    · by_cases hn : p n
      · exact .inr ⟨n, by omega, hn, h⟩
      · exact .inl fun j hj => by
          rcases Nat.lt_or_ge j n with h4 | h4
          · exact h j h4
          · obtain rfl : j = n := by omega
            exact hn
    · exact .inr ⟨k, by omega, h2, h3⟩
theorem racer_idx (l : List Rc) (a : Option Addr) (c : Nat) (v1 v2 : Value) (b : Int) (w : World) (h : RowE Rc.v 5 w a l) (hl : l.length ≤ 1000) : Calls Tryz.prog 43 #[.agg #[.slice a l.length c, v1, v2], .int .i64 b] w fun e w' => e = .returned (.int .i64 (idxR l b)) ∧ G w w' := by
  have g0 : G w (w.alloc (.cells #[.slice a l.length c, v1, v2] 26)) := (G.rf _).a _
  have b0 : Blk (w.alloc (.cells #[.slice a l.length c, v1, v2] 26)) w.heap.size 26 #[.slice a l.length c, v1, v2] := Blk.new _ _ _
  have h0 := h.below g0
  clear h
  go_enter Tryz.func43, Tryz.ntmps43
  go_upto_region 1 with fail
  change Code.wp _ _ _ _ (w.alloc (.cells #[.slice a l.length c, v1, v2] 26))
  generalize w.alloc (.cells #[.slice a l.length c, v1, v2] 26) = W1 at *
  have m0 := b0.cell 0
  have l0 := b0.lt
  have HF : Hid (∀ k, k < l.length → (l.getD k default).bird = b → (∀ j, j < k → ¬ (l.getD j default).bird = b) → idxR l b = (k : Nat)) := fun k hk e hno => idxR_some hk e hno
  have HNO : Hid ((∀ j, j < l.length → ¬ (l.getD j default).bird = b) → idxR l b = -1) := fun hno => idxR_none hno
  go_wp2_with fail
  clear m0 l0
  go_loopw [5] (fun i wr => ∃ k : Nat, k ≤ l.length ∧ i = .int .i64 k ∧ Hid (∀ j, j < k → ¬ (l.getD j default).bird = b) ∧ G W1 wr) (fun i _ => l.length - (intOf i).toNat)
  case atStart => exact ⟨0, Nat.zero_le _, rfl, fun j hj => by omega, G.rf _⟩
  case round =>
    obtain ⟨k, hk, rfl, HN, hG⟩ := hrel
    obtain ⟨wo, rfl⟩ : ∃ wo, wo = wr := ⟨_, rfl⟩
    have bo := b0.keep hG
    have m0 := bo.cell 0
    have l0 := bo.lt
    by_cases hlt : k < l.length
    · have hki : (k : Int) < l.length := by omega
      rcases h0 with h | ⟨g, off, rfl, hg, hcell⟩
      · omega
      have q0 : wo.cell? ⟨g, off + k * 5, none⟩ = some (.int .i64 (l.getD k default).bird) := ((bcellB hG).1 g _ hg).trans (hcell k hlt 0 (by omega))
      have lg := Nat.lt_of_lt_of_le hg hG.size
      have HF2 := Lib.hid (fun e => HF.out k hlt e HN.out)
      obtain ⟨y, hy⟩ : ∃ y, y = (l.getD k default).bird := ⟨_, rfl⟩
      have HY := Lib.hid hy
      rw [← hy] at q0 HF2
      clear hy hcell
      by_cases hb : y = b
      · have HR := Lib.hid (HF2.out hb)
        go_wp2_with fail
        go_ret
        exact ⟨by rw [HR.out]; rfl, g0.t hG⟩
      · have hbf : (y == b) = false := by simpa using hb
        go_wp2_with fail
        go_roundw
        case rel => exact ⟨k + 1, by omega, by go_num, fun j hj => by
          rcases Nat.lt_or_ge j k with h4 | h4
          · exact HN.out j h4
          · obtain rfl : j = k := by omega
            rw [← HY.out]; exact hb, hG⟩
        case measure => simp [intOf] <;> omega
    · obtain rfl : k = l.length := by omega
      have hki : ¬ ((l.length : Nat) : Int) < l.length := by omega
      have HR := Lib.hid (HNO.out HN.out)
      go_wp2_with fail
      go_ret
      exact ⟨by rw [HR.out]; rfl, g0.t hG⟩
end Go.Proofs.YtnkmcoljijmgpaaGreat
