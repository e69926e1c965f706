import Derived.Test.YtnkmcoljijmgpaaGreatBw
set_option linter.unusedSimpArgs false
set_option linter.unusedVariables false
namespace Go.Proofs.YtnkmcoljijmgpaaGreat
open Go.RowKit Go.Shelf Go.Sort Go.Maps
attribute [local go_sem] Oper.semAt_some
/-- a race as it lies, of any size -/
structure Ra.Laid (r : Ra) (W : World) : Prop where
  rs : RcsAt W r.ra r.racers
  ps : PosAt W r.pa r.pools
  ts : IntsAt W r.ta r.protests
  cr : r.racers.length ≤ r.rc
  ct : r.protests.length ≤ r.tc
theorem Ra.Laid.keep {r : Ra} {W W' : World} (h : r.Laid W) (hG : G W W') : r.Laid W' := ⟨h.rs.below hG, h.ps.below hG, h.ts.below hG, h.cr, h.ct⟩
def bigR (l : List Rc) : Bool := anyU (fun i => decide (20 < (l.getD i default).pools.length)) l.length
def bigP (l : List Po) : Bool := anyU (fun i => decide (20 < (l.getD i default).table.length)) l.length
def farR (r : Ra) : Bool := decide (40 < r.racers.length) || decide (20 < r.pools.length) || decide (20 < r.protests.length) || bigR r.racers || bigP r.pools
theorem anyU_false {p : Nat → Bool} {n : Nat} (h : anyU p n = false) {i : Nat} (hi : i < n) : p i = false := by
  unfold anyU at h
  have := List.any_eq_false.1 h i (List.mem_range.2 hi)
  simpa using this
theorem Ra.Laid.at {r : Ra} {W : World} (h : r.Laid W) (hf : farR r = false) : r.At W := by
  unfold farR at hf
  simp only [Bool.or_eq_false_iff, decide_eq_false_iff_not] at hf
  obtain ⟨⟨⟨⟨h1, h2⟩, h3⟩, h4⟩, h5⟩ := hf
  refine ⟨h.rs, h.ps, h.ts, by omega, h.cr, h.ct, by omega, by omega, fun i hi => ?_, fun i hi => ?_⟩
  · have := anyU_false h4 hi
    simp only [decide_eq_false_iff_not] at this
    omega
  · have := anyU_false h5 hi
    simp only [decide_eq_false_iff_not] at this
    omega
set_option maxRecDepth 100000 in
set_option maxHeartbeats 8000000 in
theorem Far8_any (r : Ra) (w : World) (h : r.Laid w) : Calls Tryz.prog 13 #[.agg r.v] w fun e w' => e = .returned (.bool (farR r)) ∧ G w w' := by
  have hpr := h.rs.row
  have hpp := h.ps.row
  have HT : Hid (∀ W', farR r = true → G w W' → ((Ending.returned (.bool true) = .returned (.bool (farR r))) ∧ G w W')) := fun W' a b => ⟨by rw [a], b⟩
  have HF : Hid (∀ W', farR r = false → G w W' → ((Ending.returned (.bool false) = .returned (.bool (farR r))) ∧ G w W')) := fun W' a b => ⟨by rw [a], b⟩
  have HE : Hid (farR r = (decide (40 < r.racers.length) || decide (20 < r.pools.length) || decide (20 < r.protests.length) || bigR r.racers || bigP r.pools)) := rfl
  have HBR : Hid (∀ k, k < r.racers.length → 20 < (r.racers.getD k default).pools.length → bigR r.racers = true) := fun k hk hh => anyU_yes hk (by simpa using hh)
  have HBN : Hid ((∀ k, k < r.racers.length → ¬ 20 < (r.racers.getD k default).pools.length) → bigR r.racers = false) := fun hh => anyU_no (fun k hk => by simpa using hh k hk)
  have HPR : Hid (∀ k, k < r.pools.length → 20 < (r.pools.getD k default).table.length → bigP r.pools = true) := fun k hk hh => anyU_yes hk (by simpa using hh)
  have HPN : Hid ((∀ k, k < r.pools.length → ¬ 20 < (r.pools.getD k default).table.length) → bigP r.pools = false) := fun hh => anyU_no (fun k hk => by simpa using hh k hk)
  generalize farR r = FB at *
  clear h
  obtain ⟨ra, rc, racers, pa, pc, pools, ta, tc, protests⟩ := r
  unfold Ra.v
  dsimp only at *
  generalize bigR racers = BR at *
  generalize bigP pools = BP at *
  have g0 : G w (w.alloc (.cells #[.slice ra racers.length rc, .slice pa pools.length pc, .slice ta protests.length tc] 26)) := (G.rf _).a _
  have b0 : Blk (w.alloc (.cells #[.slice ra racers.length rc, .slice pa pools.length pc, .slice ta protests.length tc] 26)) w.heap.size 26 #[.slice ra racers.length rc, .slice pa pools.length pc, .slice ta protests.length tc] := Blk.new _ _ _
  have hr0 := hpr.below g0
  have hp0 := hpp.below g0
  clear hpr hpp
  go_enter Tryz.func13, Tryz.ntmps13
  go_upto_region 1 with fail
  change Code.wp _ _ _ _ (w.alloc (.cells #[.slice ra racers.length rc, .slice pa pools.length pc, .slice ta protests.length tc] 26))
  generalize w.alloc (.cells #[.slice ra racers.length rc, .slice pa pools.length pc, .slice ta protests.length tc] 26) = W1 at *
  have m0 := b0.cell 0
  have m1 := b0.cell 1
  have m2 := b0.cell 2
  have l0 := b0.lt
  by_cases h1 : 40 < racers.length
  · have h1i : (40 : Int) < racers.length := by omega
    have HZ := Lib.hid (HT.out W1 (by rw [HE.out]; simp [h1]) g0)
    go_wp2_with fail
    first | exact HZ.out | (go_ret; exact HZ.out)
  · have h1i : ¬ (40 : Int) < racers.length := by omega
    by_cases h2 : 20 < pools.length
    · have h2i : (20 : Int) < pools.length := by omega
      have HZ := Lib.hid (HT.out W1 (by rw [HE.out]; simp [h2]) g0)
      go_wp2_with fail
      first | exact HZ.out | (go_ret; exact HZ.out)
    · have h2i : ¬ (20 : Int) < pools.length := by omega
      by_cases h3 : 20 < protests.length
      · have h3i : (20 : Int) < protests.length := by omega
        have HZ := Lib.hid (HT.out W1 (by rw [HE.out]; simp [h3]) g0)
        go_wp2_with fail
        first | exact HZ.out | (go_ret; exact HZ.out)
      · have h3i : ¬ (20 : Int) < protests.length := by omega
        go_wp2_with fail
        clear m0 m1 m2 l0
        go_loopw [3] (fun i wr => ∃ k : Nat, k ≤ racers.length ∧ i = .int .i64 k ∧ Hid (∀ j, j < k → ¬ 20 < (racers.getD j default).pools.length) ∧ G W1 wr) (fun i _ => racers.length - (intOf i).toNat)
        case atStart => exact ⟨0, Nat.zero_le _, rfl, fun j hj => by omega, G.rf _⟩
        case round =>
          obtain ⟨k, hk, rfl, HN, hG⟩ := hrel
          obtain ⟨wo, rfl⟩ : ∃ wo, wo = wr := ⟨_, rfl⟩
          have bo := b0.keep hG
          have m0 := bo.cell 0
          have l0 := bo.lt
          by_cases hlt : k < racers.length
          · have hki : (k : Int) < racers.length := by omega
            rcases hr0 with h | ⟨g, off, rfl, hg, hcell⟩
            · omega
            have q4 : wo.cell? ⟨g, off + k * 5 + 4, none⟩ = some (.slice (racers.getD k default).pa (racers.getD k default).pools.length (racers.getD k default).pc) := ((bcellB hG).1 g _ hg).trans (hcell k hlt 4 (by omega))
            have lg := Nat.lt_of_lt_of_le hg hG.size
            have HB := Lib.hid (HBR.out k hlt)
            obtain ⟨y, hy⟩ : ∃ y, y = racers.getD k default := ⟨_, rfl⟩
            have HY := Lib.hid hy
            rw [← hy] at q4 HB
            clear hy hcell
            obtain ⟨zbird, zowner, zrank, zday, zpa, zpc, zpools⟩ := y
            dsimp only at q4 HB
            by_cases hb : 20 < zpools.length
            · have hbi : (20 : Int) < zpools.length := by omega
              have HZ := Lib.hid (HT.out wo (by rw [HE.out, HB.out hb]; simp) (g0.t hG))
              go_wp2_with fail
              first | exact HZ.out | (go_ret; exact HZ.out)
            · have hbi : ¬ (20 : Int) < zpools.length := by omega
              go_wp2_with fail
              go_roundw
              case rel => exact ⟨k + 1, by omega, by go_num, fun j hj => by
                rcases Nat.lt_or_ge j k with h4 | h4
                · exact HN.out j h4
                · obtain rfl : j = k := by omega
                  rw [← HY.out]; exact hb, hG⟩
              case measure => simp [intOf] <;> omega
          · obtain rfl : k = racers.length := by omega
            have hki : ¬ ((racers.length : Nat) : Int) < racers.length := by omega
            have m1 := bo.cell 1
            have HBF := Lib.hid (HBN.out HN.out)
            go_wp2_with fail
            clear m0 m1 l0
            go_loopw [4] (fun i wr => ∃ k : Nat, k ≤ pools.length ∧ i = .int .i64 k ∧ Hid (∀ j, j < k → ¬ 20 < (pools.getD j default).table.length) ∧ G W1 wr) (fun i _ => pools.length - (intOf i).toNat)
            case atStart => exact ⟨0, Nat.zero_le _, rfl, fun j hj => by omega, hG⟩
            case round =>
              clear hG bo
              obtain ⟨k, hk, rfl, HN, hG⟩ := hrel
              obtain ⟨wo, rfl⟩ : ∃ wo, wo = wr := ⟨_, rfl⟩
              have bo := b0.keep hG
              have m1 := bo.cell 1
              have l0 := bo.lt
              by_cases hlt : k < pools.length
              · have hki : (k : Int) < pools.length := by omega
                rcases hp0 with h | ⟨g, off, rfl, hg, hcell⟩
                · omega
                have q3 : wo.cell? ⟨g, off + k * 6 + 3, none⟩ = some (.slice (pools.getD k default).ta (pools.getD k default).table.length (pools.getD k default).tc) := ((bcellB hG).1 g _ hg).trans (hcell k hlt 3 (by omega))
                have lg := Nat.lt_of_lt_of_le hg hG.size
                have HB := Lib.hid (HPR.out k hlt)
                obtain ⟨y, hy⟩ : ∃ y, y = pools.getD k default := ⟨_, rfl⟩
                have HY := Lib.hid hy
                rw [← hy] at q3 HB
                clear hy hcell
                obtain ⟨ystake, ycut, ykind, yta, ytc, ytable, yquota, yfirst⟩ := y
                dsimp only at q3 HB
                by_cases hb : 20 < ytable.length
                · have hbi : (20 : Int) < ytable.length := by omega
                  have HZ := Lib.hid (HT.out wo (by rw [HE.out, HB.out hb]; simp) (g0.t hG))
                  go_wp2_with fail
                  first | exact HZ.out | (go_ret; exact HZ.out)
                · have hbi : ¬ (20 : Int) < ytable.length := by omega
                  go_wp2_with fail
                  go_roundw
                  case rel => exact ⟨k + 1, by omega, by go_num, fun j hj => by
                    rcases Nat.lt_or_ge j k with h4 | h4
                    · exact HN.out j h4
                    · obtain rfl : j = k := by omega
                      rw [← HY.out]; exact hb, hG⟩
                  case measure => simp [intOf] <;> omega
              · obtain rfl : k = pools.length := by omega
                have hki : ¬ ((pools.length : Nat) : Int) < pools.length := by omega
                have HZ := Lib.hid (HF.out wo (by rw [HE.out, HBF.out, HPN.out HN.out]; simp [h1, h2, h3]) (g0.t hG))
                go_wp2_with fail
                first | exact HZ.out | (go_ret; exact HZ.out)
end Go.Proofs.YtnkmcoljijmgpaaGreat
