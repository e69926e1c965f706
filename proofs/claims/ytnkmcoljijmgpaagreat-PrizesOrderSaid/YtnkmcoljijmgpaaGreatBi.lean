import Derived.Test.YtnkmcoljijmgpaaGreatBh
set_option linter.unusedSimpArgs false
set_option linter.unusedVariables false
namespace Go.Proofs.YtnkmcoljijmgpaaGreat
open Go.RowKit Go.Shelf Go.Sort Go.Maps
attribute [local go_sem] Oper.semAt_some
def PrPost (r : Ra) (p : Int) (w : World) (e : Ending) (w' : World) : Prop := G w w' ∧ ((qE r p [] ≠ 0 ∧ e = .returned (.tuple #[.slice none 0 0, .int .i64 (qE r p [])])) ∨ (qE r p [] = 0 ∧ ∃ v, e = .returned (.tuple #[v, .int .i64 0]) ∧ w'.ownsRow w.heap.size 40 3 v (prizesL (fuOf r p none 0)).length (cv Pz.v (prizesL (fuOf r p none 0)))))
set_option maxRecDepth 100000 in
set_option maxHeartbeats 4000000 in
theorem Prizes_any (r : Ra) (p : Int) (w : World) (h : r.At w) : Calls Tryz.prog 18 #[.agg r.v, .int .i64 p] w (PrPost r p w) := by
  have HQ := Lib.hid (fun (W : World) (hW : G w W) => question_any r p [] none 0 W (h.keep hW) (.inl rfl) (by simp))
  have HE : Hid (qE r p [] ≠ 0 → ∀ W', G w W' → PrPost r p w (.returned (.tuple #[.slice none 0 0, .int .i64 (qE r p [])])) W') := fun a W' b => ⟨b, .inl ⟨a, rfl⟩⟩
  have HS : Hid (qE r p [] = 0 → ∀ W' v, G w W' → W'.ownsRow w.heap.size 40 3 v (prizesL (fuOf r p none 0)).length (cv Pz.v (prizesL (fuOf r p none 0))) → PrPost r p w (.returned (.tuple #[v, .int .i64 0])) W') := fun a W' v b c => ⟨b, .inr ⟨a, v, rfl, c⟩⟩
  have HC := Lib.hid (fun (hq : qE r p [] = 0) (W : World) (hW : G w W) (B : Nat) (fa : Option Addr) (fc : Nat) (ho : W.ownsRow B 60 5 (.slice fa (runners r p).length fc) (runners r p).length (rcV (runners r p))) => prizes_any (fuOf r p fa fc) W (gf_of (qE_parts hq).1 (qE_parts hq).2 (h.keep hW) ho))
  have HPL : Hid (∀ fa fc, prizesL (fuOf r p fa fc) = prizesL (fuOf r p none 0)) := fun _ _ => rfl
  unfold QPost at HQ
  have hv : ∀ fa fc, (fuOf r p fa fc).v = #[.int .i64 (poolAt r p).stake, .int .i64 (poolAt r p).cut, .int .i64 (poolAt r p).kind, .slice (poolAt r p).ta (poolAt r p).table.length (poolAt r p).tc, .int .i64 (poolAt r p).quota, .bool (poolAt r p).first, .slice fa (runners r p).length fc, .slice r.ta r.protests.length r.tc] := fun _ _ => rfl
  generalize PrPost r p w = PP at *
  clear h
  have g0 : G w (w.alloc (.cells r.v 26)) := (G.rf _).a _
  have b0 : Blk (w.alloc (.cells r.v 26)) w.heap.size 26 r.v := Blk.new _ _ _
  have m0 : (w.alloc (.cells r.v 26)).cell? ⟨w.heap.size, 0, none⟩ = some (.slice r.ra r.racers.length r.rc) := b0.cell 0
  have m1 : (w.alloc (.cells r.v 26)).cell? ⟨w.heap.size, 1, none⟩ = some (.slice r.pa r.pools.length r.pc) := b0.cell 1
  have m2 : (w.alloc (.cells r.v 26)).cell? ⟨w.heap.size, 2, none⟩ = some (.slice r.ta r.protests.length r.tc) := b0.cell 2
  have l0 := b0.lt
  have hrv : r.v = #[.slice r.ra r.racers.length r.rc, .slice r.pa r.pools.length r.pc, .slice r.ta r.protests.length r.tc] := rfl
  rw [hrv] at HQ g0 m0 m1 m2 l0 ⊢
  clear hrv b0
  generalize hQE : qE r p [] = QE at *
  go_enter Tryz.func18, Tryz.ntmps18
  go_upto_region 1 with fail
  change Code.wp _ _ _ _ (w.alloc (.cells #[.slice r.ra r.racers.length r.rc, .slice r.pa r.pools.length r.pc, .slice r.ta r.protests.length r.tc] 26))
  generalize w.alloc (.cells #[.slice r.ra r.racers.length r.rc, .slice r.pa r.pools.length r.pc, .slice r.ta r.protests.length r.tc] 26) = W1 at *
  by_cases hq : QE = 0
  · have HQ1 : Hid (Calls Tryz.prog 46 #[.agg #[.slice r.ra r.racers.length r.rc, .slice r.pa r.pools.length r.pc, .slice r.ta r.protests.length r.tc], .int .i64 p, .slice none 0 0] W1 fun e w' => ∃ fa fc, e = .returned (.tuple #[.agg (fuOf r p fa fc).v, .int .i64 0]) ∧ w'.ownsRow W1.heap.size 60 5 (.slice fa (runners r p).length fc) (runners r p).length (rcV (runners r p)) ∧ G W1 w') := by
      refine (HQ.out W1 g0).mono ?_
      rintro e w' ⟨hG, hh⟩
      rcases hh with ⟨a, _⟩ | ⟨_, fa, fc, a, b⟩
      · exact absurd hq a
      · exact ⟨fa, fc, a, b, hG⟩
    simp only [hv] at HQ1
    clear HQ HE
    have HC2 := Lib.hid (HC.out hq)
    clear HC
    simp only [hv] at HC2
    go_upto_region 2 with (go_at_call 46; refine (HQ1.out).mono ?_; rintro e w2 ⟨fa, fc, rfl, ho2, hG2⟩)
    have ga := (G.rf w2).a (.cells #[.int .i64 (poolAt r p).stake, .int .i64 (poolAt r p).cut, .int .i64 (poolAt r p).kind, .slice (poolAt r p).ta (poolAt r p).table.length (poolAt r p).tc, .int .i64 (poolAt r p).quota, .bool (poolAt r p).first, .slice fa (runners r p).length fc, .slice r.ta r.protests.length r.tc] 85)
    have HC3 := Lib.hid (HC2.out _ ((g0.t hG2).t ga) _ fa fc (own_G ho2 ga))
    clear ho2 HC2
    go_wp2_with (go_at_call 52; refine (HC3.out).mono ?_; rintro e w3 ⟨v, rfl, ho3, hG3⟩)
    have gz := ((g0.t hG2).t ga).t hG3
    rw [HPL.out] at ho3
    exact HS.out hq _ _ gz (own_weaken ho3 ((g0.t hG2).t ga).size)
  · have HQ0 : Hid (Calls Tryz.prog 46 #[.agg #[.slice r.ra r.racers.length r.rc, .slice r.pa r.pools.length r.pc, .slice r.ta r.protests.length r.tc], .int .i64 p, .slice none 0 0] W1 fun e w' => e = .returned (.tuple #[.agg #[.int .i64 0, .int .i64 0, .int .i64 0, .slice none 0 0, .int .i64 0, .bool false, .slice none 0 0, .slice none 0 0], .int .i64 QE]) ∧ G W1 w') := by
      refine (HQ.out W1 g0).mono ?_
      rintro e w' ⟨hG, hh⟩
      rcases hh with ⟨_, a⟩ | ⟨a, _⟩
      · exact ⟨a, hG⟩
      · exact absurd a hq
    have e0 : (QE == 0) = false := by simpa using hq
    have HE2 := Lib.hid (HE.out hq)
    clear HQ HE HC HS hv
    go_wp2_with (go_at_call 46; refine (HQ0.out).mono ?_; rintro e w2 ⟨rfl, hG2⟩)
    first | exact HE2.out _ (g0.t hG2) | exact HE2.out _ ((g0.t hG2).a _) | trace_state
end Go.Proofs.YtnkmcoljijmgpaaGreat
