import Derived.Test.YtnkmcoljijmgpaaGreatEa
import Derived.Test.YtnkmcoljijmgpaaGreatBj
set_option linter.unusedSimpArgs false
set_option linter.unusedVariables false
namespace Go.Proofs.YtnkmcoljijmgpaaGreat
open Go.RowKit Go.Shelf Go.Sort Go.Maps
attribute [local go_sem] Oper.semAt_some
/-- the prize of a bird, as the law looks for it -/
def pzP (l : List Pz) (b : Int) : Pz := (l.find? fun x => x.bird == b).getD ⟨0, 0, 0⟩
theorem pzP_no {l : List Pz} {b : Int} (h : ∀ j, j < l.length → ¬ (l.getD j default).bird = b) : pzP l b = ⟨0, 0, 0⟩ ∧ (l.any fun x => x.bird == b) = false := by
  have h2 : ∀ x ∈ l, ¬ x.bird = b := fun x hx => by
    obtain ⟨j, hj, rfl⟩ := List.mem_iff_getElem.1 hx
    have := h j hj
    rw [List.getD_eq_getElem?_getD, List.getElem?_eq_getElem hj] at this
    exact this
  constructor
  · unfold pzP
    have e : l.find? (fun x => x.bird == b) = none := by
      rw [List.find?_eq_none]
      intro x hx
      simpa using h2 x hx
    rw [e]
    rfl
  · rw [List.any_eq_false]
    intro x hx
    simpa using h2 x hx
theorem pzP_yes {l : List Pz} {b : Int} {k : Nat} (hk : k < l.length) (h1 : (l.getD k default).bird = b) (h2 : ∀ j, j < k → ¬ (l.getD j default).bird = b) : pzP l b = l.getD k default ∧ (l.any fun x => x.bird == b) = true := by
  have hg : l.getD k default = l[k] := by simp [List.getD_eq_getElem?_getD, hk]
  constructor
  · unfold pzP
    have e : l.find? (fun x => x.bird == b) = some l[k] := by
      rw [List.find?_eq_some_iff_getElem]
      rw [hg] at h1
      refine ⟨by simpa using h1, k, hk, rfl, fun j hj => ?_⟩
      have := h2 j hj
      rw [List.getD_eq_getElem?_getD, List.getElem?_eq_getElem (by omega)] at this
      simpa using this
    rw [e, hg]
    rfl
  · rw [List.any_eq_true]
    exact ⟨l[k], List.getElem_mem hk, by rw [← hg]; simpa using h1⟩
/-- of a fund's prizes: a bird that is nominated -/
theorem pzP_fund {f : Fu} {b : Int} (h : ∃ x ∈ f.rs, x.bird = b) : ((prizesL f).any fun x => x.bird == b) = true ∧ (pzP (prizesL f) b).bird = b ∧ (pzP (prizesL f) b).won = wonAt (wonL f []) b := by
  have hall : ∀ p ∈ prizesL f, p.won = wonAt (wonL f []) p.bird := fun p hp => by
    unfold prizesL at hp
    obtain ⟨i, _, rfl⟩ := List.mem_map.1 hp
    rfl
  have hex : ∃ p ∈ prizesL f, p.bird = b := by
    obtain ⟨x, hx, e⟩ := h
    obtain ⟨i, hi, rfl⟩ := List.mem_iff_getElem.1 hx
    refine ⟨_, List.mem_map.2 ⟨i, List.mem_range.2 hi, rfl⟩, ?_⟩
    show (f.rs.getD i default).bird = b
    rw [List.getD_eq_getElem?_getD, List.getElem?_eq_getElem hi]
    exact e
  obtain ⟨p, hp, e⟩ := hex
  have ha : ((prizesL f).any fun x => x.bird == b) = true := List.any_eq_true.2 ⟨p, hp, by simpa using e⟩
  refine ⟨ha, ?_⟩
  unfold pzP
  cases hf : (prizesL f).find? fun x => x.bird == b with
  | none =>
    have := List.find?_eq_none.1 hf p hp
    simp [e] at this
  | some q =>
    have h1 := List.mem_of_find?_eq_some hf
    have h2 : q.bird = b := by simpa using List.find?_some hf
    show q.bird = b ∧ q.won = _
    exact ⟨h2, by rw [hall q h1, h2]⟩
set_option maxRecDepth 100000 in
set_option maxHeartbeats 4000000 in
theorem res23 (tmps : Array Value) (w : World) (g : Nat) (n : Bool) {REL : Array Value} (hR : Is3 REL) (h : tmps.getD 4 undef = .pointer (some ⟨g, 0, none⟩)) (h7 : tmps.getD 5 undef = .bool n) (hB : Blk w g 40 REL) :
    (results Tryz.f23 tmps).run Tryz.prog w = .ok (.tuple #[.agg REL, .bool n]) w := by
  obtain ⟨x0, x1, x2, rfl⟩ := hR
  have c0 := hB.cell 0
  have c1 := hB.cell 1
  have c2 := hB.cell 2
  clear hB
  have hr : Tryz.f23.results = #[.cell 4 40, .tmp 5] := rfl
  have h' : tmps[4]?.getD undef = .pointer (some ⟨g, 0, none⟩) := by simpa using h
  have h7' : tmps[5]?.getD undef = .bool n := by simpa using h7
  simp only [results, hr]
  go_simp
set_option maxRecDepth 100000 in
set_option maxHeartbeats 4000000 in
theorem find_any (l : List Pz) (a : Option Addr) (c : Nat) (b : Int) (w : World) (h : RowE Pz.v 3 w a l) (hl : l.length ≤ 1000) : Calls Tryz.prog 23 #[.slice a l.length c, .int .i64 b] w fun e w' => G w w' ∧ e = .returned (.tuple #[.agg (pzP l b).v, .bool (l.any fun x => x.bird == b)]) := by
  obtain ⟨W1, hW1⟩ : ∃ W1, W1 = w.alloc (.cells #[.int .i64 0, .int .i64 0, .int .i64 0] 40) := ⟨_, rfl⟩
  have g0 : G w W1 := by rw [hW1]; exact (G.rf _).a _
  have b0 : Blk W1 w.heap.size 40 #[.int .i64 0, .int .i64 0, .int .i64 0] := by rw [hW1]; exact Blk.new _ _ _
  go_enter Tryz.func23, Tryz.ntmps23
  go_upto_region 1 with fail
  change Code.wp _ _ _ _ (w.alloc (.cells #[.int .i64 0, .int .i64 0, .int .i64 0] 40))
  rw [← hW1]
  clear hW1
  go_wp2_with fail
  go_loopw [6] (fun i wr => ∃ k : Nat, k ≤ l.length ∧ i = .int .i64 k ∧ Hid (∀ j, j < k → ¬ (l.getD j default).bird = b) ∧ G W1 wr) (fun i _ => l.length - (intOf i).toNat)
  case atStart => exact ⟨0, Nat.zero_le _, rfl, fun j hj => by omega, G.rf _⟩
  case round =>
    obtain ⟨k, hk, rfl, hno, hG⟩ := hrel
    obtain ⟨wo, rfl⟩ : ∃ wo, wo = wr := ⟨_, rfl⟩
    have bo := b0.keep hG
    have HBO := Lib.hid bo
    have m0 := bo.cell 0
    have m1 := bo.cell 1
    have m2 := bo.cell 2
    have z0 := bo.frozen 0
    have z1 := bo.frozen 1
    have z2 := bo.frozen 2
    have l0 := bo.lt
    clear bo
    by_cases hlt : k < l.length
    · have hki : (k : Int) < l.length := by omega
      rcases h.below (g0.t hG) with hx | ⟨g, off, hae, hg, hcell⟩
      · omega
      subst hae
      have hcl := hcell k hlt
      obtain ⟨y, hy⟩ : ∃ y, y = l.getD k default := ⟨_, rfl⟩
      have HY := Lib.hid hy
      rw [← hy] at hcl
      clear hy hcell
      obtain ⟨x0, x1, x2⟩ := y
      unfold Pz.v at hcl
      have q0 : wo.cell? ⟨g, off + k * 3, none⟩ = some (.int .i64 x0) := hcl 0 (by omega)
      have q1 : wo.cell? ⟨g, off + k * 3 + 1, none⟩ = some (.int .i64 x1) := hcl 1 (by omega)
      have q2 : wo.cell? ⟨g, off + k * 3 + 2, none⟩ = some (.int .i64 x2) := hcl 2 (by omega)
      clear hcl
      by_cases hb : x0 = b
      · subst hb
        obtain ⟨e1, e2⟩ := pzP_yes hlt (b := x0) (by rw [← HY.out]) hno.out
        have E1 := Lib.hid e1
        have E2 := Lib.hid e2
        clear e1 e2
        go_wp2_with fail
        have bz := ((HBO.out.set_ 0 (.int .i64 x0)).set_ 1 (.int .i64 x1)).set_ 2 (.int .i64 x2)
        simp only [List.setIfInBounds_toArray, List.set_cons_zero, List.set_cons_succ] at bz
        have gz := (((g0.t hG).s (p := ⟨w.heap.size, 0, none⟩) (Nat.le_refl _) (.int .i64 x0)).s (p := ⟨w.heap.size, 1, none⟩) (Nat.le_refl _) (.int .i64 x1)).s (p := ⟨w.heap.size, 2, none⟩) (Nat.le_refl _) (.int .i64 x2)
        refine bodyPost_ret (res23 _ _ w.heap.size true (REL := #[.int .i64 x0, .int .i64 x1, .int .i64 x2]) ⟨_, _, _, rfl⟩ rfl rfl bz) rfl ⟨gz, ?_⟩
        rw [E1.out, E2.out, ← HY.out]
        rfl
      · have hne : ¬ x0 = b := hb
        have hnb : (x0 == b) = false := by simpa using hb
        go_wp2_with fail
        go_roundw
        case rel => exact ⟨k + 1, by omega, by go_num, fun j hj => by
          rcases Nat.lt_or_ge j k with h | h
          · exact hno.out j h
          · obtain rfl : j = k := by omega
            rw [← HY.out]; exact hne, hG⟩
        case measure => simp [intOf] <;> omega
    · obtain rfl : k = l.length := by omega
      have hki : ¬ ((l.length : Nat) : Int) < l.length := by omega
      obtain ⟨e1, e2⟩ := pzP_no hno.out
      have E1 := Lib.hid e1
      have E2 := Lib.hid e2
      clear e1 e2
      go_wp2_with fail
      have bz := ((HBO.out.set_ 0 (.int .i64 0)).set_ 1 (.int .i64 0)).set_ 2 (.int .i64 0)
      simp only [List.setIfInBounds_toArray, List.set_cons_zero, List.set_cons_succ] at bz
      have gz := (((g0.t hG).s (p := ⟨w.heap.size, 0, none⟩) (Nat.le_refl _) (.int .i64 0)).s (p := ⟨w.heap.size, 1, none⟩) (Nat.le_refl _) (.int .i64 0)).s (p := ⟨w.heap.size, 2, none⟩) (Nat.le_refl _) (.int .i64 0)
      refine bodyPost_ret (res23 _ _ w.heap.size false (REL := #[.int .i64 0, .int .i64 0, .int .i64 0]) ⟨_, _, _, rfl⟩ rfl rfl bz) rfl ⟨gz, ?_⟩
      rw [E1.out, E2.out]
      rfl
end Go.Proofs.YtnkmcoljijmgpaaGreat
