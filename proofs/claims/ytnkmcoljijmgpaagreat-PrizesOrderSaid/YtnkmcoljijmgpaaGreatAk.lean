import Derived.Lib.SliceRun
import Derived.Test.YtnkmcoljijmgpaaGreatAj
set_option linter.unusedSimpArgs false
set_option linter.unusedVariables false
namespace Go.Proofs.YtnkmcoljijmgpaaGreat
open Go.RowKit Go.Shelf
attribute [local go_sem] Oper.semAt_some
theorem eql22 (w : World) (a : Option Addr) (n c n' c' : Nat) : (binOp .eql 22 (.slice a n c) (.slice none n' c')).run Tryz.prog w = .ok (.bool a.isNone) w := Lib.run_eql_slice_nil w 22 60 a n c n' c' Tryz.underlying22
attribute [local go_sem] eql22
theorem add_off (g off j : Nat) : (⟨g, off, none⟩ : Addr).add j = ⟨g, off + j, none⟩ := by
  unfold Addr.add
  by_cases h : j = 0
  · subst h; simp
  · simp [h]
theorem rcV_one (l : List Rc) : ∀ u ∈ rcV l, u.oneCell' = true := by
  intro u hu
  simp only [rcV, List.mem_flatMap] at hu
  obtain ⟨x, _, hx⟩ := hu
  simp [rcE, Rc.v] at hx
  rcases hx with rfl | rfl | rfl | rfl | rfl <;> rfl
theorem row_cells {W : World} {g off : Nat} {l : List Rc} (h : ∀ i, i < l.length → ∀ r, r < 5 → W.cell? ⟨g, off + i * 5 + r, none⟩ = (Rc.v (l.getD i default))[r]?) : ∀ j u, (rcV l)[j]? = some u → W.cell? ((⟨g, off, none⟩ : Addr).add j) = some u := by
  intro j u hu
  rw [add_off]
  have hj : j < l.length * 5 := by
    have := (List.getElem?_eq_some_iff.1 hu).1
    rw [rcV_len] at this
    exact this
  have e := rcV_get l (i := j / 5) (r := j % 5) (by omega) (by omega)
  rw [show j / 5 * 5 + j % 5 = j by omega, hu] at e
  have h2 := h (j / 5) (by omega) (j % 5) (by omega)
  rw [show off + j / 5 * 5 + j % 5 = off + j by omega] at h2
  rw [h2, e]
  simp [rcE]
theorem own_row {W : World} {B : Nat} {v : Value} {l : List Rc} (h : W.ownsRow B 60 5 v l.length (rcV l)) : ∃ a c, v = .slice a l.length c ∧ RowE Rc.v 5 W a l := by
  rcases h.2 with ⟨rfl, h0⟩ | ⟨g, cap, cur, rfl, hb, hg, h1, h2, h3, h4⟩
  · exact ⟨none, 0, by rw [h0], .inl h0⟩
  · refine ⟨_, _, rfl, .inr ⟨g, 0, rfl, (Array.getElem?_eq_some_iff.1 hg).1, fun i hi r hr => ?_⟩⟩
    have e := rcV_get l hi hr
    have hB : Blk W g 60 cur := hg
    have hlt : i * 5 + r < l.length * 5 := by omega
    rw [show 0 + i * 5 + r = i * 5 + r by omega, hB.cell, ← Array.getElem?_toList]
    have h5 : (cur.toList.take (l.length * 5))[i * 5 + r]? = (rcV l)[i * 5 + r]? := by rw [h4]
    rw [List.getElem?_take_of_lt hlt] at h5
    rw [h5, e]
    simp [rcE]
def RcPost (w : World) (l : List Rc) (e : Ending) (w' : World) : Prop := ∃ v, e = .returned v ∧ w'.ownsRow w.heap.size 60 5 v l.length (rcV l) ∧ G w w'
set_option maxRecDepth 100000 in
set_option maxHeartbeats 4000000 in
/-- slices.Clone -/
theorem clone_any (l : List Rc) (a : Option Addr) (cap : Nat) (w : World) (h : RowE Rc.v 5 w a l) (hl : l.length ≤ 1000) (hn : a ≠ none ∨ l = []) : Calls Tryz.prog 106 #[.slice a l.length cap] w (RcPost w l) := by
  have HP : Hid (∀ w' v, w'.ownsRow w.heap.size 60 5 v l.length (rcV l) → G w w' → RcPost w l (.returned v) w') := fun w' v a b => ⟨v, rfl, a, b⟩
  generalize RcPost w l = PP at *
  cases a with
  | none =>
    have hl0 : l = [] := hn.resolve_left (fun h => h rfl)
    subst hl0
    have HF := Lib.hid (HP.out w (.slice none 0 0) (World.ownsRow_nil _ _ _ _) (G.rf _))
    clear HP
    change Calls Tryz.prog 106 #[.slice none 0 cap] w PP
    go_enter Tryz.func106, Tryz.ntmps106
    go_wp2_with fail
    exact HF.out
  | some ad =>
    have hc : l = [] ∨ (∀ j u, (rcV l)[j]? = some u → w.cell? (ad.add j) = some u) := by
      rcases h with h | ⟨g, off, he, hg, hcell⟩
      · exact .inl (List.length_eq_zero_iff.1 h)
      · obtain rfl : ad = ⟨g, off, none⟩ := by simpa using he
        exact .inr (row_cells hcell)
    have hcell : ∀ j u, (rcV l)[j]? = some u → w.cell? (ad.add j) = some u := by
      rcases hc with rfl | hc
      · intro j u hu; simp [rcV] at hu
      · exact hc
    have HC := Lib.hid hcell
    have HO := Lib.hid (rcV_one l)
    have HL := Lib.hid (rcV_len l)
    clear hc h hn hcell
    obtain ⟨i0, hi0, hz0, hz1, hz2⟩ := info_parts info60
    go_enter Tryz.func106, Tryz.ntmps106
    go_wp2_with (at_builtin; refine wpList_append_own _ rfl _ _ 22 rfl w.heap.size 60 i0 (.agg #[.int .i64 0, .int .i64 0, .int .i64 0, .int .i64 0, .slice none 0 0]) 5 56 Tryz.underlying22 hi0 hz0 hz1 hz2 rfl (by decide) _ 0 [] rfl ?hown ad l.length cap (rcV l) rfl HL.out ?hnew HO.out (by unfold maxLen; omega) (by omega) ?hbase ?hrest)
    case hown => exact own_empty (Blk.new w 60 #[]) 5
    case hnew => exact fun j u hj => Lib.cell?_alloc_some _ (HC.out j u hj)
    case hbase => have := ((G.rf w).a (.cells #[] 60)).size; exact this
    case hrest =>
      intro v9 w9 hown9 hg9 _
      have gz : G w w9 := grow_own ((G.rf w).a (.cells #[] 60)) (own_empty (Blk.new w 60 #[]) 5) (Nat.le_refl _) hg9
      try rw [Nat.zero_add, List.nil_append] at hown9
      have HF := Lib.hid (HP.out w9 v9 hown9 gz)
      clear hown9 hg9 gz HP
      go_wp2
      exact HF.out
end Go.Proofs.YtnkmcoljijmgpaaGreat
