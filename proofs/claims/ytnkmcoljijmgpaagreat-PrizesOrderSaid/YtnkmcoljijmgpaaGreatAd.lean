import Derived.Test.YtnkmcoljijmgpaaGreatAc
set_option linter.unusedSimpArgs false
set_option linter.unusedVariables false
namespace Go.Proofs.YtnkmcoljijmgpaaGreat
open Go.RowKit Go.Shelf
attribute [local go_sem] Oper.semAt_some
def raceB (r : Ra) : Bool := decide (r.pools.length ≤ 6) && (allU (fun i => poolB (r.pools.getD i default)) r.pools.length && (racersB r && (decide (r.protests.length ≤ 4) && (ascB r.protests && allU (fun i => hasB r.racers (r.protests.getD i 0)) r.protests.length))))
set_option maxRecDepth 100000 in
set_option maxHeartbeats 8000000 in
theorem race_any (r : Ra) (w : World) (h : r.At w) : Calls Tryz.prog 68 #[.agg r.v] w fun e w' => e = .returned (.bool (raceB r)) ∧ G w w' := by
  have HP := Lib.hid (fun (W : World) (hW : G w W) => eachPo_any 90 (enters_of Tryz.func90 (by kernel_rfl) rfl) #[] W r.pa r.pc r.pools (fun i => poolB (r.pools.getD i default)) h.np (h.ps.row.below hW) (fun W' hW' i hi => pool_any _ W' (((h.ps.below hW).below hW').tables i hi) (h.nb i hi)))
  have HR := Lib.hid (fun (W : World) (hW : G w W) => racers_any r W (h.keep hW))
  have HA := Lib.hid (fun (W : World) (hW : G w W) => asc_any r.protests r.ta r.tc W (h.ts.below hW) h.nt)
  have HE := Lib.hid (fun (W : World) (hW : G w W) (hB : Blk W w.heap.size 26 r.v) => eachInt_any 93 (enters_of Tryz.func93 (by kernel_rfl) rfl) #[.pointer (some ⟨w.heap.size, 0, none⟩)] W r.ta r.tc r.protests (fun i => hasB r.racers (r.protests.getD i 0)) h.nt (h.ts.below hW) (fun W' hW' i hi => has93 r _ w.heap.size W' ((h.rs.below hW).below hW').row h.nr (hB.keep hW')))
  clear h
  unfold raceB
  generalize allU (fun i => poolB (r.pools.getD i default)) r.pools.length = B at *
  generalize racersB r = C at *
  generalize ascB r.protests = E at *
  generalize allU (fun i => hasB r.racers (r.protests.getD i 0)) r.protests.length = F at *
  obtain ⟨ra, rc, racers, pa, pc, pools, ta, tc, protests⟩ := r
  unfold Ra.v at *
  dsimp only at *
  have g0 : G w (w.alloc (.cells #[.slice ra racers.length rc, .slice pa pools.length pc, .slice ta protests.length tc] 26)) := (G.rf _).a _
  have b0 : Blk (w.alloc (.cells #[.slice ra racers.length rc, .slice pa pools.length pc, .slice ta protests.length tc] 26)) w.heap.size 26 #[.slice ra racers.length rc, .slice pa pools.length pc, .slice ta protests.length tc] := Blk.new _ _ _
  by_cases h6 : pools.length ≤ 6
  · have t6 : (pools.length : Int) ≤ 6 := by omega
    rw [decide_eq_true h6]
    by_cases h4 : protests.length ≤ 4
    · have t4 : (protests.length : Int) ≤ 4 := by omega
      rw [decide_eq_true h4]
      have key : B = false ∨ (B = true ∧ C = false) ∨ (B = true ∧ C = true ∧ E = false) ∨ (B = true ∧ C = true ∧ E = true) := by
        cases B <;> cases C <;> cases E <;> simp
      rcases key with rfl | ⟨rfl, rfl⟩ | ⟨rfl, rfl, rfl⟩ | ⟨rfl, rfl, rfl⟩
      all_goals
        go_enter Tryz.func68, Tryz.ntmps68
        go_wp2_with (first | (go_at_call 89; refine (HP.out _ g0).mono ?_; rintro e w1 ⟨rfl, hG1⟩; replace b0 := b0.keep hG1; replace g0 := g0.t hG1; clear hG1; have m0 := b0.cell 0; have m1 := b0.cell 1; have m2 := b0.cell 2; have l0 := b0.lt) | (go_at_call 91; refine (HR.out _ g0).mono ?_; rintro e w2 ⟨rfl, hG1⟩; clear m0 m1 m2 l0; replace b0 := b0.keep hG1; replace g0 := g0.t hG1; clear hG1; have m0 := b0.cell 0; have m1 := b0.cell 1; have m2 := b0.cell 2; have l0 := b0.lt) | (go_at_call 92; refine (HA.out _ g0).mono ?_; rintro e w3 ⟨rfl, hG1⟩; clear m0 m1 m2 l0; replace b0 := b0.keep hG1; replace g0 := g0.t hG1; clear hG1; have m0 := b0.cell 0; have m1 := b0.cell 1; have m2 := b0.cell 2; have l0 := b0.lt) | (go_at_call 71; refine (HE.out _ g0 b0).mono ?_; rintro e w4 ⟨rfl, hG1⟩; clear m0 m1 m2 l0; replace b0 := b0.keep hG1; replace g0 := g0.t hG1; clear hG1; have m0 := b0.cell 0; have m1 := b0.cell 1; have m2 := b0.cell 2; have l0 := b0.lt))
        go_ret
        exact ⟨rfl, g0⟩
    · have t4 : ¬ (protests.length : Int) ≤ 4 := by omega
      rw [decide_eq_false h4]
      have key : B = false ∨ (B = true ∧ C = false) ∨ (B = true ∧ C = true) := by
        cases B <;> cases C <;> simp
      rcases key with rfl | ⟨rfl, rfl⟩ | ⟨rfl, rfl⟩
      all_goals
        go_enter Tryz.func68, Tryz.ntmps68
        go_wp2_with (first | (go_at_call 89; refine (HP.out _ g0).mono ?_; rintro e w1 ⟨rfl, hG1⟩; replace b0 := b0.keep hG1; replace g0 := g0.t hG1; clear hG1; have m0 := b0.cell 0; have m1 := b0.cell 1; have m2 := b0.cell 2; have l0 := b0.lt) | (go_at_call 91; refine (HR.out _ g0).mono ?_; rintro e w2 ⟨rfl, hG1⟩; clear m0 m1 m2 l0; replace b0 := b0.keep hG1; replace g0 := g0.t hG1; clear hG1; have m0 := b0.cell 0; have m1 := b0.cell 1; have m2 := b0.cell 2; have l0 := b0.lt))
        go_ret
        exact ⟨rfl, g0⟩
  · have t6 : ¬ (pools.length : Int) ≤ 6 := by omega
    rw [decide_eq_false h6]
    go_enter Tryz.func68, Tryz.ntmps68
    go_wp2_with fail
    go_ret
    exact ⟨rfl, g0⟩
def chk8 (r : Ra) : Int := if raceB r = true then 0 else 80
theorem Check_any (r : Ra) (w : World) (h : r.At w) : Calls Tryz.prog 34 #[.agg r.v] w fun e w' => e = .returned (.int .i64 (chk8 r)) ∧ G w w' := by
  have HR := Lib.hid (fun (W : World) (hW : G w W) => race_any r W (h.keep hW))
  clear h
  unfold chk8
  generalize raceB r = B at *
  obtain ⟨ra, rc, racers, pa, pc, pools, ta, tc, protests⟩ := r
  unfold Ra.v at *
  have g0 : G w (w.alloc (.cells #[.slice ra racers.length rc, .slice pa pools.length pc, .slice ta protests.length tc] 26)) := (G.rf _).a _
  cases B
  all_goals
    go_enter Tryz.func34, Tryz.ntmps34
    go_wp2_with (go_at_call 68; refine (HR.out _ g0).mono ?_; rintro e w1 ⟨rfl, hG1⟩)
    go_ret
    exact ⟨rfl, g0.t hG1⟩
end Go.Proofs.YtnkmcoljijmgpaaGreat
