import Derived.Below
import Derived.BigQuiet
import Derived.ChangeOld
import Derived.Deep.AppendLies
import Derived.Deep.Draws
import Derived.Deep.QuietTactic
import Derived.Deep.RegionHeld
import Derived.Deep.Slices
import Derived.Ground.Names2Prog
import Derived.Ground.SlsfProg
import Derived.Ground.SlsoProg
import Derived.IntWalk
import Derived.Laws.AppendOwn
import Derived.Laws.AppendOwnNone
import Derived.Laws.Bits128
import Derived.Laws.OwnMore
import Derived.Laws.Rows
import Derived.Laws.StructEq
import Derived.Lib.Hide
import Derived.Lib.SlKeysI
import Derived.Lib.SliceRun
import Derived.Lib.SmallJoins
import Derived.LoopIn
import Derived.LoopNIn
import Derived.Maps.OwnIn
import Derived.Maps.RangeWalk
import Derived.OpenShut
import Derived.OrdersHeld
import Derived.OrdersIn
import Derived.Outline
import Derived.OwnWalkIn
import Derived.ProofKit
import Derived.RangeFuncBound
import Derived.RangeFuncCalls
import Derived.RangeFuncLeaves
import Derived.RangeFuncNested
import Derived.Shelf.Abstract
import Derived.Shelf.GgSortFunc.InsertionK
import Derived.Shelf.RegionOpen
import Derived.Shelf.SlSortCmp.NoneTotal
import Derived.Shelf.SlSortCmp.WholeK
import Derived.Shelf.SlSorted.Search
import Derived.Shelf.Slices.Cells
import Derived.Shelf.Slices.CompactI
import Derived.Shelf.Slices.In.SortNone
import Derived.Shelf.Slices.SearchI
import Derived.Shelf.Small.Bits
import Derived.Shelf.Sort.Plain
import Derived.Shelf.Strconv.Itoa0
import Derived.Sort.Grow
import Derived.Sort.MapsRangeIn
import Derived.TacticsIn
import Derived.TacticsInMore
import Derived.Test.YtnkmcoljijmgpaaGreatProg
import Derived.WalkKit
import Derived.WalkSpells
import Derived.Test.YtnkmcoljijmgpaaGreatS4
set_option linter.unusedSimpArgs false
set_option linter.unusedVariables false
namespace Go.Proofs.YtnkmcoljijmgpaaGreat
open Go.RowKit Go.Shelf Go.Sort Go.Maps
attribute [local go_sem] Oper.semAt_some
theorem hasB_iff {l : List Rc} {b : Int} : hasB l b = true ↔ ∃ j, j < l.length ∧ (l.getD j default).bird = b := by
  unfold hasB anyU
  rw [List.any_eq_true]
  exact ⟨fun ⟨j, hj, e⟩ => ⟨j, List.mem_range.1 hj, by simpa using e⟩, fun ⟨j, hj, e⟩ => ⟨j, List.mem_range.2 hj, by simpa using e⟩⟩
theorem idxR_lt {l : List Rc} {b : Int} : (idxR l b < 0) ↔ hasB l b = false := by
  rcases first_or (p := fun j => (l.getD j default).bird = b) l.length with h | ⟨k, h1, h2, h3⟩
  · rw [idxR_none h]
    refine ⟨fun _ => ?_, fun _ => by decide⟩
    cases hh : hasB l b
    · rfl
    · obtain ⟨j, hj, e⟩ := hasB_iff.1 hh
      exact absurd e (h j hj)
  · rw [idxR_some h1 h2 h3, hasB_iff.2 ⟨k, h1, h2⟩]
    refine ⟨fun h => by omega, fun h => by cases h⟩
theorem takeD {α : Type} [Inhabited α] {l : List α} {k j : Nat} (hj : j < k) : (l.take k).getD j default = l.getD j default := by
  rw [List.getD_eq_getElem?_getD, List.getD_eq_getElem?_getD, List.getElem?_take_of_lt hj]
theorem idxR_self {l : List Rc} {k : Nat} (hk : k < l.length) : (idxR l (l.getD k default).bird = k) ↔ hasB (l.take k) (l.getD k default).bird = false := by
  rcases first_or (p := fun j => (l.getD j default).bird = (l.getD k default).bird) l.length with h | ⟨q, h1, h2, h3⟩
  · exact absurd rfl (h k hk)
  · have hqk : q ≤ k := by
      rcases Nat.lt_or_ge k q with h4 | h4
      · exact absurd rfl (h3 k h4)
      · exact h4
    rw [idxR_some h1 h2 h3]
    constructor
    · intro e
      have e2 : q = k := by omega
      subst e2
      cases hh : hasB (l.take q) (l.getD q default).bird
      · rfl
      · obtain ⟨j, hj, e⟩ := hasB_iff.1 hh
        rw [List.length_take] at hj
        rw [takeD (by omega)] at e
        exact absurd e (h3 j (by omega))
    · intro hh
      rcases Nat.lt_or_ge q k with h4 | h4
      · have : hasB (l.take k) (l.getD k default).bird = true := hasB_iff.2 ⟨q, by rw [List.length_take]; omega, by rw [takeD h4]; exact h2⟩
        rw [hh] at this
        cases this
      · omega
theorem race_no1 {r : Ra} (h : 12 < r.racers.length ∨ 6 < r.pools.length ∨ 4 < r.protests.length) : raceB r = false := by
  cases hr : raceB r
  · rfl
  · have h1 := (uniq_of (race_parts hr)).1
    have h2 := race_pools hr
    have h3 := race_np hr
    omega
theorem race_no2 {r : Ra} {k : Nat} (hk : k < r.racers.length) (h : racerB r.pools.length (r.racers.getD k default) = false ∨ ¬ idxR r.racers (r.racers.getD k default).bird = k) : raceB r = false := by
  cases hr : raceB r
  · rfl
  · have h1 := race_parts hr
    unfold racersB at h1
    simp only [Bool.and_eq_true] at h1
    have h2 := allU_iff.1 h1.2 k hk
    simp only [Bool.and_eq_true, Bool.not_eq_true'] at h2
    rcases h with h | h
    · rw [h] at h2; cases h2.2
    · exact absurd ((idxR_self hk).2 h2.1) h
theorem race_no3 {r : Ra} {k : Nat} (hk : k < r.pools.length) (h : poolB (r.pools.getD k default) = false) : raceB r = false := by
  cases hr : raceB r
  · rfl
  · unfold raceB at hr
    simp only [Bool.and_eq_true] at hr
    have h2 := allU_iff.1 hr.2.1 k hk
    rw [h] at h2
    cases h2
theorem race_no4 {r : Ra} {k : Nat} (hk : k < r.protests.length) (h : idxR r.racers (r.protests.getD k 0) < 0 ∨ (0 < k ∧ r.protests.getD k 0 ≤ r.protests.getD (k - 1) 0)) : raceB r = false := by
  cases hr : raceB r
  · rfl
  · unfold raceB at hr
    simp only [Bool.and_eq_true] at hr
    rcases h with h | h
    · have h2 := allU_iff.1 hr.2.2.2.2.2 k hk
      rw [idxR_lt.1 h] at h2
      cases h2
    · have h2 := allU_iff.1 hr.2.2.2.2.1 k hk
      simp only [Bool.or_eq_true, decide_eq_true_eq] at h2
      omega
theorem race_yes {r : Ra} (h1 : r.racers.length ≤ 12) (h2 : r.pools.length ≤ 6) (h3 : r.protests.length ≤ 4) (h4 : ∀ k, k < r.racers.length → racerB r.pools.length (r.racers.getD k default) = true ∧ idxR r.racers (r.racers.getD k default).bird = k) (h5 : ∀ k, k < r.pools.length → poolB (r.pools.getD k default) = true) (h6 : ∀ k, k < r.protests.length → ¬ idxR r.racers (r.protests.getD k 0) < 0 ∧ ¬ (0 < k ∧ r.protests.getD k 0 ≤ r.protests.getD (k - 1) 0)) : raceB r = true := by
  unfold raceB racersB
  rw [decide_eq_true h1, decide_eq_true h2, decide_eq_true h3, allU_iff.2 h5]
  have a : allU (fun i => !hasB (r.racers.take i) (r.racers.getD i default).bird && racerB r.pools.length (r.racers.getD i default)) r.racers.length = true := allU_iff.2 fun k hk => by
    obtain ⟨b, c⟩ := h4 k hk
    rw [b, (idxR_self hk).1 c]
    rfl
  have b : ascB r.protests = true := allU_iff.2 fun k hk => by
    have := (h6 k hk).2
    simp only [Bool.or_eq_true, decide_eq_true_eq]
    omega
  have c : allU (fun i => hasB r.racers (r.protests.getD i 0)) r.protests.length = true := allU_iff.2 fun k hk => by
    cases hh : hasB r.racers (r.protests.getD k 0)
    · exact absurd (idxR_lt.2 hh) (h6 k hk).1
    · rfl
  rw [a, b, c]
  rfl
set_option maxRecDepth 100000 in
set_option maxHeartbeats 8000000 in
theorem refCheck8_any (r : Ra) (w : World) (h : r.At w) : Calls Tryz.prog 14 #[.agg r.v] w fun e w' => e = .returned (.int .i64 (chk8 r)) ∧ G w w' := by
  have HF : Hid (∀ W', raceB r = false → G w W' → ((Ending.returned (.int .i64 80) = .returned (.int .i64 (chk8 r))) ∧ G w W')) := fun W' a b => ⟨by unfold chk8; rw [a]; rfl, b⟩
  have HT : Hid (∀ W', raceB r = true → G w W' → ((Ending.returned (.int .i64 0) = .returned (.int .i64 (chk8 r))) ∧ G w W')) := fun W' a b => ⟨by unfold chk8; rw [a]; rfl, b⟩
  have HN1 := Lib.hid (fun hh => race_no1 (r := r) hh)
  have HN2 := Lib.hid (fun k hk hh => race_no2 (r := r) (k := k) hk hh)
  have HN3 := Lib.hid (fun k hk hh => race_no3 (r := r) (k := k) hk hh)
  have HN4 := Lib.hid (fun k hk hh => race_no4 (r := r) (k := k) hk hh)
  have HY := Lib.hid (fun h1 h2 h3 h4 h5 h6 => race_yes (r := r) h1 h2 h3 h4 h5 h6)
  have HIR0 := Lib.hid (fun (k : Nat) (hk : k < r.racers.length) (W : World) (hW : G w W) => isRacer_any (r.racers.getD k default) r.pools.length W ((h.rs.below hW).pools k hk) (h.nq k hk) h.np)
  have HIX0 := Lib.hid (fun (b : Int) (W : World) (hW : G w W) => racer_idx r.racers r.ra r.rc (.slice r.pa r.pools.length r.pc) (.slice r.ta r.protests.length r.tc) b W (h.rs.below hW).row h.nr)
  have HIP0 := Lib.hid (fun (k : Nat) (hk : k < r.pools.length) (W : World) (hW : G w W) => isPool8_any (r.pools.getD k default) W ((h.ps.below hW).tables k hk) (h.nb k hk))
  have hpr := h.rs.row
  have hpp := h.ps.row
  have hpt := h.ts
  generalize chk8 r = CK at *
  generalize raceB r = RB at *
  clear h
  obtain ⟨ra, rc, racers, pa, pc, pools, ta, tc, protests⟩ := r
  unfold Ra.v
  dsimp only at *
  obtain ⟨IX, hIX⟩ : ∃ IX : Int → Int, IX = idxR racers := ⟨_, rfl⟩
  rw [← hIX] at HN2 HN4 HY HIX0
  clear hIX
  have g0 : G w (w.alloc (.cells #[.slice ra racers.length rc, .slice pa pools.length pc, .slice ta protests.length tc] 26)) := (G.rf _).a _
  have b0 : Blk (w.alloc (.cells #[.slice ra racers.length rc, .slice pa pools.length pc, .slice ta protests.length tc] 26)) w.heap.size 26 #[.slice ra racers.length rc, .slice pa pools.length pc, .slice ta protests.length tc] := Blk.new _ _ _
  have hr0 := hpr.below g0
  have hp0 := hpp.below g0
  have ht0 := hpt.below g0
  clear hpr hpp hpt
  go_enter Tryz.func14, Tryz.ntmps14
  go_upto_region 1 with fail
  change Code.wp _ _ _ _ (w.alloc (.cells #[.slice ra racers.length rc, .slice pa pools.length pc, .slice ta protests.length tc] 26))
  generalize w.alloc (.cells #[.slice ra racers.length rc, .slice pa pools.length pc, .slice ta protests.length tc] 26) = W1 at *
  have m0 := b0.cell 0
  have m1 := b0.cell 1
  have m2 := b0.cell 2
  have l0 := b0.lt
  by_cases h1 : 12 < racers.length
  · have h1i : (12 : Int) < racers.length := by omega
    have HZ := Lib.hid (HF.out W1 (HN1.out (.inl h1)) g0)
    go_wp2_with fail
    first | exact HZ.out | (go_ret; exact HZ.out)
  · have h1i : ¬ (12 : Int) < racers.length := by omega
    by_cases h2 : 6 < pools.length
    · have h2i : (6 : Int) < pools.length := by omega
      have HZ := Lib.hid (HF.out W1 (HN1.out (.inr (.inl h2))) g0)
      go_wp2_with fail
      first | exact HZ.out | (go_ret; exact HZ.out)
    · have h2i : ¬ (6 : Int) < pools.length := by omega
      by_cases h3 : 4 < protests.length
      · have h3i : (4 : Int) < protests.length := by omega
        have HZ := Lib.hid (HF.out W1 (HN1.out (.inr (.inr h3))) g0)
        go_wp2_with fail
        first | exact HZ.out | (go_ret; exact HZ.out)
      · have h3i : ¬ (4 : Int) < protests.length := by omega
        go_wp2_with fail
        clear m0 m1 m2 l0
        go_loopw [3] (fun i wr => ∃ k : Nat, k ≤ racers.length ∧ i = .int .i64 k ∧ Hid (∀ j, j < k → racerB pools.length (racers.getD j default) = true ∧ IX (racers.getD j default).bird = (j : Nat)) ∧ G W1 wr) (fun i _ => racers.length - (intOf i).toNat)
        case atStart => exact ⟨0, Nat.zero_le _, rfl, fun j hj => by omega, G.rf _⟩
        case round =>
          obtain ⟨k, hk, rfl, HN, hG⟩ := hrel
          obtain ⟨wo, rfl⟩ : ∃ wo, wo = wr := ⟨_, rfl⟩
          have bo := b0.keep hG
          have m0 := bo.cell 0
          have l0 := bo.lt
          by_cases hlt : k < racers.length
          · have hki : (k : Int) < racers.length := by omega
            have HIR1 := Lib.hid (fun W (hW : G wo W) => HIR0.out k hlt W (g0.t (hG.t hW)))
            have HBAD := Lib.hid (HN2.out k hlt)
            have HIX1 := Lib.hid (fun b W (hW : G wo W) => HIX0.out b W (g0.t (hG.t hW)))
            rcases hr0 with h | ⟨gr, ofr, rfl, hgr, hcell⟩
            · omega
            have hcl := fun W (hW : G wo W) r hr => ((bcellB (hG.t hW)).1 gr _ hgr).trans (hcell k hlt r hr)
            have hgl := fun W (hW : G wo W) => Nat.lt_of_lt_of_le hgr (hG.t hW).size
            obtain ⟨y, hy⟩ : ∃ y, y = racers.getD k default := ⟨_, rfl⟩
            have HYY := Lib.hid hy
            rw [← hy] at hcl HIR1 HBAD
            clear hy hcell
            obtain ⟨zbird, zowner, zrank, zday, zpa, zpc, zpools⟩ := y
            unfold Rc.v at hcl HIR1
            have hSk : ∀ W', G wo W' → Blk W' w.heap.size 26 #[.slice (some ⟨gr, ofr, none⟩) racers.length rc, .slice pa pools.length pc, .slice ta protests.length tc] ∧ W'.cell? ⟨gr, ofr + k * 5, none⟩ = some (.int .i64 zbird) ∧ W'.cell? ⟨gr, ofr + k * 5 + 1, none⟩ = some (.int .i64 zowner) ∧ W'.cell? ⟨gr, ofr + k * 5 + 2, none⟩ = some (.int .i64 zrank) ∧ W'.cell? ⟨gr, ofr + k * 5 + 3, none⟩ = some (.int .i64 zday) ∧ W'.cell? ⟨gr, ofr + k * 5 + 4, none⟩ = some (.slice zpa zpools.length zpc) ∧ gr < W'.heap.size := fun W' hW => ⟨bo.keep hW, hcl W' hW 0 (by omega), hcl W' hW 1 (by omega), hcl W' hW 2 (by omega), hcl W' hW 3 (by omega), hcl W' hW 4 (by omega), hgl W' hW⟩
            have HIR := HIR1
            have HIX := Lib.hid (HIX1.out zbird)
            clear hcl hgl HIR1 HIX1
            obtain ⟨RK, hRK⟩ : ∃ RK, RK = racerB pools.length ⟨zbird, zowner, zrank, zday, zpa, zpc, zpools⟩ := ⟨_, rfl⟩
            rw [← hRK] at HIR HBAD
            have HRK := Lib.hid hRK
            clear hRK
            cases RK
            · have HBADK := Lib.hid (HBAD.out (.inl rfl))
              clear HBAD
              go_upto_region 6 with fail
              refine wp_region_Y (S := fun W' => Blk W' w.heap.size 26 #[.slice (some ⟨gr, ofr, none⟩) racers.length rc, .slice pa pools.length pc, .slice ta protests.length tc] ∧ W'.cell? ⟨gr, ofr + k * 5, none⟩ = some (.int .i64 zbird) ∧ W'.cell? ⟨gr, ofr + k * 5 + 1, none⟩ = some (.int .i64 zowner) ∧ W'.cell? ⟨gr, ofr + k * 5 + 2, none⟩ = some (.int .i64 zrank) ∧ W'.cell? ⟨gr, ofr + k * 5 + 3, none⟩ = some (.int .i64 zday) ∧ W'.cell? ⟨gr, ofr + k * 5 + 4, none⟩ = some (.slice zpa zpools.length zpc) ∧ gr < W'.heap.size) 21 22 rfl (by kernel_rfl) (hSk _ (G.rf _).d) (fun hS => ?_)
              have ga := (G.rf wo).d
              change wpAnyY _ _ opsB6 _ _ 21 22 #[false, false, false, false, false, false, false, false, false, false, false, false, false, false, false, false, false, false, false, false, false, false] _ _
              refine wpAnyY_takeC (v := ?_) [10, 8, 4, 3, 1] rB6_0 rB6o_0 (fun _ _ _ h => h) (Or.inl ⟨by kernel_rfl, ?_⟩) hS ?_
              rotate_left
              · intro w' hSw; have l0 := hSw.1.lt; go_simp; with_reducible rfl
              try simp only [Act.put, List.getElem_toArray, List.getElem_cons_zero, List.getElem_cons_succ, List.setIfInBounds_toArray, List.set_cons_zero, List.set_cons_succ]
              refine wpAnyY_takeC (v := ?_) [10, 8, 4, 3] rB6_1 rB6o_1 (fun _ _ _ h => h) (Or.inl ⟨by kernel_rfl, ?_⟩) hS ?_
              rotate_left
              · intro w' hSw; have m0 := hSw.1.cell 0; have l0 := hSw.1.lt; go_simp; with_reducible rfl
              try simp only [Act.put, List.getElem_toArray, List.getElem_cons_zero, List.getElem_cons_succ, List.setIfInBounds_toArray, List.set_cons_zero, List.set_cons_succ]
              refine wpAnyY_takeC (v := ?_) [10, 8, 4, 3] rB6_2 rB6o_2 (fun _ _ _ h => h) (Or.inl ⟨by kernel_rfl, ?_⟩) hS ?_
              rotate_left
              · intro w' hSw; go_simp; with_reducible rfl
              try simp only [Act.put, List.getElem_toArray, List.getElem_cons_zero, List.getElem_cons_succ, List.setIfInBounds_toArray, List.set_cons_zero, List.set_cons_succ]
              refine wpAnyY_takeC (v := ?_) [10, 8, 4] rB6_3 rB6o_3 (fun _ _ _ h => h) (Or.inl ⟨by kernel_rfl, ?_⟩) hS ?_
              rotate_left
              · intro w' hSw; go_simp; with_reducible rfl
              try simp only [Act.put, List.getElem_toArray, List.getElem_cons_zero, List.getElem_cons_succ, List.setIfInBounds_toArray, List.set_cons_zero, List.set_cons_succ]
              refine wpAnyY_takeC (v := ?_) [10, 8] rB6_4 rB6o_4 (fun _ _ _ h => h) (Or.inl ⟨by kernel_rfl, ?_⟩) hS ?_
              rotate_left
              · intro w' hSw; obtain ⟨_, q0, q1, q2, q3, q4, lg⟩ := hSw; go_simp; with_reducible rfl
              try simp only [Act.put, List.getElem_toArray, List.getElem_cons_zero, List.getElem_cons_succ, List.setIfInBounds_toArray, List.set_cons_zero, List.set_cons_succ]
              refine wpAnyY_takeC (v := ?_) [10, 8, 7, 6] rB6_5 rB6o_5 (fun _ _ _ h => h) (Or.inl ⟨by kernel_rfl, ?_⟩) hS ?_
              rotate_left
              · intro w' hSw; have l0 := hSw.1.lt; go_simp; with_reducible rfl
              try simp only [Act.put, List.getElem_toArray, List.getElem_cons_zero, List.getElem_cons_succ, List.setIfInBounds_toArray, List.set_cons_zero, List.set_cons_succ]
              refine wpAnyY_takeC (v := ?_) [10, 8, 7] rB6_6 rB6o_6 (fun _ _ _ h => h) (Or.inl ⟨by kernel_rfl, ?_⟩) hS ?_
              rotate_left
              · intro w' hSw; have m1 := hSw.1.cell 1; have l0 := hSw.1.lt; go_simp; with_reducible rfl
              try simp only [Act.put, List.getElem_toArray, List.getElem_cons_zero, List.getElem_cons_succ, List.setIfInBounds_toArray, List.set_cons_zero, List.set_cons_succ]
              refine wpAnyY_takeC (v := ?_) [10, 8] rB6_7 rB6o_7 (fun _ _ _ h => h) (Or.inl ⟨by kernel_rfl, ?_⟩) hS ?_
              rotate_left
              · intro w' hSw; go_simp; with_reducible rfl
              try simp only [Act.put, List.getElem_toArray, List.getElem_cons_zero, List.getElem_cons_succ, List.setIfInBounds_toArray, List.set_cons_zero, List.set_cons_succ]
              refine wpAnyY_oneSWC rB6_8 rB6o_8 (by kernel_rfl) (fun K8 hK8 => ?_)
              go_simp
              refine (HIR.out _ ga).mono ?_
              rintro e w5 ⟨rfl, hG5⟩
              replace ga := ga.t hG5
              refine hK8.out _ _ (hSk _ ga) (fun hS => ?_)
              clear hK8
              try simp only [Act.put, List.getElem_toArray, List.getElem_cons_zero, List.getElem_cons_succ, List.setIfInBounds_toArray, List.set_cons_zero, List.set_cons_succ]
              refine wpAnyY_takeC (v := ?_) [10] rB6_9 rB6o_9 (fun _ _ _ h => h) (Or.inl ⟨by kernel_rfl, ?_⟩) hS ?_
              rotate_left
              · intro w' hSw; go_simp; with_reducible rfl
              try simp only [Act.put, List.getElem_toArray, List.getElem_cons_zero, List.getElem_cons_succ, List.setIfInBounds_toArray, List.set_cons_zero, List.set_cons_succ]
              refine wpAnyY_takeC (v := ?_) [] rB6_10 rB6o_10 (fun _ _ _ h => h) (Or.inl ⟨by kernel_rfl, ?_⟩) hS ?_
              rotate_left
              · intro w' hSw; go_simp; with_reducible rfl
              try simp only [Act.put, List.getElem_toArray, List.getElem_cons_zero, List.getElem_cons_succ, List.setIfInBounds_toArray, List.set_cons_zero, List.set_cons_succ]
              refine wpAnyY_takeC (v := undef) [20, 18] rB6_11 rB6o_11 (fun _ _ _ h => h) (Or.inr ⟨by kernel_rfl, rfl⟩) hS ?_
              try simp only [Act.put, List.getElem_toArray, List.getElem_cons_zero, List.getElem_cons_succ, List.setIfInBounds_toArray, List.set_cons_zero, List.set_cons_succ]
              refine wpAnyY_takeC (v := undef) [20, 18, 17, 16, 15, 13] rB6_12 rB6o_12 (fun _ _ _ h => h) (Or.inr ⟨by kernel_rfl, rfl⟩) hS ?_
              try simp only [Act.put, List.getElem_toArray, List.getElem_cons_zero, List.getElem_cons_succ, List.setIfInBounds_toArray, List.set_cons_zero, List.set_cons_succ]
              refine wpAnyY_takeC (v := undef) [20, 18, 17, 16, 15] rB6_13 rB6o_13 (fun _ _ _ h => h) (Or.inr ⟨by kernel_rfl, rfl⟩) hS ?_
              try simp only [Act.put, List.getElem_toArray, List.getElem_cons_zero, List.getElem_cons_succ, List.setIfInBounds_toArray, List.set_cons_zero, List.set_cons_succ]
              refine wpAnyY_takeC (v := undef) [20, 18, 17, 16, 15] rB6_14 rB6o_14 (fun _ _ _ h => h) (Or.inr ⟨by kernel_rfl, rfl⟩) hS ?_
              try simp only [Act.put, List.getElem_toArray, List.getElem_cons_zero, List.getElem_cons_succ, List.setIfInBounds_toArray, List.set_cons_zero, List.set_cons_succ]
              refine wpAnyY_takeC (v := undef) [20, 18, 17, 16] rB6_15 rB6o_15 (fun _ _ _ h => h) (Or.inr ⟨by kernel_rfl, rfl⟩) hS ?_
              try simp only [Act.put, List.getElem_toArray, List.getElem_cons_zero, List.getElem_cons_succ, List.setIfInBounds_toArray, List.set_cons_zero, List.set_cons_succ]
              refine wpAnyY_takeC (v := undef) [20, 18, 17] rB6_16 rB6o_16 (fun _ _ _ h => h) (Or.inr ⟨by kernel_rfl, rfl⟩) hS ?_
              try simp only [Act.put, List.getElem_toArray, List.getElem_cons_zero, List.getElem_cons_succ, List.setIfInBounds_toArray, List.set_cons_zero, List.set_cons_succ]
              refine wpAnyY_takeC (v := undef) [20, 18] rB6_17 rB6o_17 (fun _ _ _ h => h) (Or.inr ⟨by kernel_rfl, rfl⟩) hS ?_
              try simp only [Act.put, List.getElem_toArray, List.getElem_cons_zero, List.getElem_cons_succ, List.setIfInBounds_toArray, List.set_cons_zero, List.set_cons_succ]
              refine wpAnyY_takeC (v := undef) [20] rB6_19 rB6o_19 (fun _ _ _ h => h) (Or.inr ⟨by kernel_rfl, rfl⟩) hS ?_
              try simp only [Act.put, List.getElem_toArray, List.getElem_cons_zero, List.getElem_cons_succ, List.setIfInBounds_toArray, List.set_cons_zero, List.set_cons_succ]
              refine wpAnyY_oneSUC rB6_18 rB6o_18 (by kernel_rfl) hS ?_
              try simp only [Act.put, List.getElem_toArray, List.getElem_cons_zero, List.getElem_cons_succ, List.setIfInBounds_toArray, List.set_cons_zero, List.set_cons_succ]
              refine wpAnyY_takeC (v := undef) [] rB6_20 rB6o_20 (fun _ _ _ h => h) (Or.inr ⟨by kernel_rfl, rfl⟩) hS ?_
              try simp only [Act.put, List.getElem_toArray, List.getElem_cons_zero, List.getElem_cons_succ, List.setIfInBounds_toArray, List.set_cons_zero, List.set_cons_succ]
              refine wpAnyY_oneW (i := 21) (by kernel_rfl) rB6o_21 (by kernel_rfl) (by kernel_rfl) (fun K21 hK21 => ?_)
              go_simp
              refine hK21.out _ _ ?_
              clear hK21
              try simp only [Act.put, List.getElem_toArray, List.getElem_cons_zero, List.getElem_cons_succ, List.setIfInBounds_toArray, List.set_cons_zero, List.set_cons_succ]
              refine wpAnyY_done (by kernel_rfl) ?_ _
              clear hS hSk
              have hGz := hG.t ga
              have HZ := Lib.hid (HF.out _ HBADK.out (g0.t hGz))
              go_wp2_with fail
              first | exact HZ.out | (go_ret; exact HZ.out)
            · obtain ⟨z, hz⟩ : ∃ z, z = IX zbird := ⟨_, rfl⟩
              have HZZ := Lib.hid hz
              rw [← hz] at HIX
              by_cases hzk : z = k
              · have hzb : (z != (k : Int)) = false := by simpa using hzk
                clear HBAD hz
                have HZK := Lib.hid hzk
                clear hzk
                go_upto_region 6 with fail
                refine wp_region_Y (S := fun W' => Blk W' w.heap.size 26 #[.slice (some ⟨gr, ofr, none⟩) racers.length rc, .slice pa pools.length pc, .slice ta protests.length tc] ∧ W'.cell? ⟨gr, ofr + k * 5, none⟩ = some (.int .i64 zbird) ∧ W'.cell? ⟨gr, ofr + k * 5 + 1, none⟩ = some (.int .i64 zowner) ∧ W'.cell? ⟨gr, ofr + k * 5 + 2, none⟩ = some (.int .i64 zrank) ∧ W'.cell? ⟨gr, ofr + k * 5 + 3, none⟩ = some (.int .i64 zday) ∧ W'.cell? ⟨gr, ofr + k * 5 + 4, none⟩ = some (.slice zpa zpools.length zpc) ∧ gr < W'.heap.size) 21 22 rfl (by kernel_rfl) (hSk _ (G.rf _).d) (fun hS => ?_)
                have ga := (G.rf wo).d
                change wpAnyY _ _ opsB6 _ _ 21 22 #[false, false, false, false, false, false, false, false, false, false, false, false, false, false, false, false, false, false, false, false, false, false] _ _
                refine wpAnyY_takeC (v := ?_) [10, 8, 4, 3, 1] rB6_0 rB6o_0 (fun _ _ _ h => h) (Or.inl ⟨by kernel_rfl, ?_⟩) hS ?_
                rotate_left
                · intro w' hSw; have l0 := hSw.1.lt; go_simp; with_reducible rfl
                try simp only [Act.put, List.getElem_toArray, List.getElem_cons_zero, List.getElem_cons_succ, List.setIfInBounds_toArray, List.set_cons_zero, List.set_cons_succ]
                refine wpAnyY_takeC (v := ?_) [10, 8, 4, 3] rB6_1 rB6o_1 (fun _ _ _ h => h) (Or.inl ⟨by kernel_rfl, ?_⟩) hS ?_
                rotate_left
                · intro w' hSw; have m0 := hSw.1.cell 0; have l0 := hSw.1.lt; go_simp; with_reducible rfl
                try simp only [Act.put, List.getElem_toArray, List.getElem_cons_zero, List.getElem_cons_succ, List.setIfInBounds_toArray, List.set_cons_zero, List.set_cons_succ]
                refine wpAnyY_takeC (v := ?_) [10, 8, 4, 3] rB6_2 rB6o_2 (fun _ _ _ h => h) (Or.inl ⟨by kernel_rfl, ?_⟩) hS ?_
                rotate_left
                · intro w' hSw; go_simp; with_reducible rfl
                try simp only [Act.put, List.getElem_toArray, List.getElem_cons_zero, List.getElem_cons_succ, List.setIfInBounds_toArray, List.set_cons_zero, List.set_cons_succ]
                refine wpAnyY_takeC (v := ?_) [10, 8, 4] rB6_3 rB6o_3 (fun _ _ _ h => h) (Or.inl ⟨by kernel_rfl, ?_⟩) hS ?_
                rotate_left
                · intro w' hSw; go_simp; with_reducible rfl
                try simp only [Act.put, List.getElem_toArray, List.getElem_cons_zero, List.getElem_cons_succ, List.setIfInBounds_toArray, List.set_cons_zero, List.set_cons_succ]
                refine wpAnyY_takeC (v := ?_) [10, 8] rB6_4 rB6o_4 (fun _ _ _ h => h) (Or.inl ⟨by kernel_rfl, ?_⟩) hS ?_
                rotate_left
                · intro w' hSw; obtain ⟨_, q0, q1, q2, q3, q4, lg⟩ := hSw; go_simp; with_reducible rfl
                try simp only [Act.put, List.getElem_toArray, List.getElem_cons_zero, List.getElem_cons_succ, List.setIfInBounds_toArray, List.set_cons_zero, List.set_cons_succ]
                refine wpAnyY_takeC (v := ?_) [10, 8, 7, 6] rB6_5 rB6o_5 (fun _ _ _ h => h) (Or.inl ⟨by kernel_rfl, ?_⟩) hS ?_
                rotate_left
                · intro w' hSw; have l0 := hSw.1.lt; go_simp; with_reducible rfl
                try simp only [Act.put, List.getElem_toArray, List.getElem_cons_zero, List.getElem_cons_succ, List.setIfInBounds_toArray, List.set_cons_zero, List.set_cons_succ]
                refine wpAnyY_takeC (v := ?_) [10, 8, 7] rB6_6 rB6o_6 (fun _ _ _ h => h) (Or.inl ⟨by kernel_rfl, ?_⟩) hS ?_
                rotate_left
                · intro w' hSw; have m1 := hSw.1.cell 1; have l0 := hSw.1.lt; go_simp; with_reducible rfl
                try simp only [Act.put, List.getElem_toArray, List.getElem_cons_zero, List.getElem_cons_succ, List.setIfInBounds_toArray, List.set_cons_zero, List.set_cons_succ]
                refine wpAnyY_takeC (v := ?_) [10, 8] rB6_7 rB6o_7 (fun _ _ _ h => h) (Or.inl ⟨by kernel_rfl, ?_⟩) hS ?_
                rotate_left
                · intro w' hSw; go_simp; with_reducible rfl
                try simp only [Act.put, List.getElem_toArray, List.getElem_cons_zero, List.getElem_cons_succ, List.setIfInBounds_toArray, List.set_cons_zero, List.set_cons_succ]
                refine wpAnyY_oneSWC rB6_8 rB6o_8 (by kernel_rfl) (fun K8 hK8 => ?_)
                go_simp
                refine (HIR.out _ ga).mono ?_
                rintro e w5 ⟨rfl, hG5⟩
                replace ga := ga.t hG5
                refine hK8.out _ _ (hSk _ ga) (fun hS => ?_)
                clear hK8
                try simp only [Act.put, List.getElem_toArray, List.getElem_cons_zero, List.getElem_cons_succ, List.setIfInBounds_toArray, List.set_cons_zero, List.set_cons_succ]
                refine wpAnyY_takeC (v := ?_) [10] rB6_9 rB6o_9 (fun _ _ _ h => h) (Or.inl ⟨by kernel_rfl, ?_⟩) hS ?_
                rotate_left
                · intro w' hSw; go_simp; with_reducible rfl
                try simp only [Act.put, List.getElem_toArray, List.getElem_cons_zero, List.getElem_cons_succ, List.setIfInBounds_toArray, List.set_cons_zero, List.set_cons_succ]
                refine wpAnyY_takeC (v := ?_) [] rB6_10 rB6o_10 (fun _ _ _ h => h) (Or.inl ⟨by kernel_rfl, ?_⟩) hS ?_
                rotate_left
                · intro w' hSw; go_simp; with_reducible rfl
                try simp only [Act.put, List.getElem_toArray, List.getElem_cons_zero, List.getElem_cons_succ, List.setIfInBounds_toArray, List.set_cons_zero, List.set_cons_succ]
                refine wpAnyY_takeC (v := ?_) [20, 18] rB6_11 rB6o_11 (fun _ _ _ h => h) (Or.inl ⟨by kernel_rfl, ?_⟩) hS ?_
                rotate_left
                · intro w' hSw; have m0 := hSw.1.cell 0; have m1 := hSw.1.cell 1; have m2 := hSw.1.cell 2; have l0 := hSw.1.lt; go_simp; with_reducible rfl
                try simp only [Act.put, List.getElem_toArray, List.getElem_cons_zero, List.getElem_cons_succ, List.setIfInBounds_toArray, List.set_cons_zero, List.set_cons_succ]
                refine wpAnyY_takeC (v := ?_) [20, 18, 17, 16, 15, 13] rB6_12 rB6o_12 (fun _ _ _ h => h) (Or.inl ⟨by kernel_rfl, ?_⟩) hS ?_
                rotate_left
                · intro w' hSw; have l0 := hSw.1.lt; go_simp; with_reducible rfl
                try simp only [Act.put, List.getElem_toArray, List.getElem_cons_zero, List.getElem_cons_succ, List.setIfInBounds_toArray, List.set_cons_zero, List.set_cons_succ]
                refine wpAnyY_takeC (v := ?_) [20, 18, 17, 16, 15] rB6_13 rB6o_13 (fun _ _ _ h => h) (Or.inl ⟨by kernel_rfl, ?_⟩) hS ?_
                rotate_left
                · intro w' hSw; have m0 := hSw.1.cell 0; have l0 := hSw.1.lt; go_simp; with_reducible rfl
                try simp only [Act.put, List.getElem_toArray, List.getElem_cons_zero, List.getElem_cons_succ, List.setIfInBounds_toArray, List.set_cons_zero, List.set_cons_succ]
                refine wpAnyY_takeC (v := ?_) [20, 18, 17, 16, 15] rB6_14 rB6o_14 (fun _ _ _ h => h) (Or.inl ⟨by kernel_rfl, ?_⟩) hS ?_
                rotate_left
                · intro w' hSw; go_simp; with_reducible rfl
                try simp only [Act.put, List.getElem_toArray, List.getElem_cons_zero, List.getElem_cons_succ, List.setIfInBounds_toArray, List.set_cons_zero, List.set_cons_succ]
                refine wpAnyY_takeC (v := ?_) [20, 18, 17, 16] rB6_15 rB6o_15 (fun _ _ _ h => h) (Or.inl ⟨by kernel_rfl, ?_⟩) hS ?_
                rotate_left
                · intro w' hSw; go_simp; with_reducible rfl
                try simp only [Act.put, List.getElem_toArray, List.getElem_cons_zero, List.getElem_cons_succ, List.setIfInBounds_toArray, List.set_cons_zero, List.set_cons_succ]
                refine wpAnyY_takeC (v := ?_) [20, 18, 17] rB6_16 rB6o_16 (fun _ _ _ h => h) (Or.inl ⟨by kernel_rfl, ?_⟩) hS ?_
                rotate_left
                · intro w' hSw; go_simp; with_reducible rfl
                try simp only [Act.put, List.getElem_toArray, List.getElem_cons_zero, List.getElem_cons_succ, List.setIfInBounds_toArray, List.set_cons_zero, List.set_cons_succ]
                refine wpAnyY_takeC (v := ?_) [20, 18] rB6_17 rB6o_17 (fun _ _ _ h => h) (Or.inl ⟨by kernel_rfl, ?_⟩) hS ?_
                rotate_left
                · intro w' hSw; obtain ⟨_, q0, q1, q2, q3, q4, lg⟩ := hSw; go_simp; with_reducible rfl
                try simp only [Act.put, List.getElem_toArray, List.getElem_cons_zero, List.getElem_cons_succ, List.setIfInBounds_toArray, List.set_cons_zero, List.set_cons_succ]
                refine wpAnyY_takeC (v := ?_) [20] rB6_19 rB6o_19 (fun _ _ _ h => h) (Or.inl ⟨by kernel_rfl, ?_⟩) hS ?_
                rotate_left
                · intro w' hSw; go_simp; with_reducible rfl
                try simp only [Act.put, List.getElem_toArray, List.getElem_cons_zero, List.getElem_cons_succ, List.setIfInBounds_toArray, List.set_cons_zero, List.set_cons_succ]
                refine wpAnyY_oneSWC rB6_18 rB6o_18 (by kernel_rfl) (fun K18 hK18 => ?_)
                go_simp
                refine (HIX.out _ ga).mono ?_
                rintro e w6 ⟨rfl, hG6⟩
                replace ga := ga.t hG6
                refine hK18.out _ _ (hSk _ ga) (fun hS => ?_)
                clear hK18
                try simp only [Act.put, List.getElem_toArray, List.getElem_cons_zero, List.getElem_cons_succ, List.setIfInBounds_toArray, List.set_cons_zero, List.set_cons_succ]
                refine wpAnyY_takeC (v := ?_) [] rB6_20 rB6o_20 (fun _ _ _ h => h) (Or.inl ⟨by kernel_rfl, ?_⟩) hS ?_
                rotate_left
                · intro w' hSw; go_simp; with_reducible rfl
                try simp only [Act.put, List.getElem_toArray, List.getElem_cons_zero, List.getElem_cons_succ, List.setIfInBounds_toArray, List.set_cons_zero, List.set_cons_succ]
                refine wpAnyY_oneW (i := 21) (by kernel_rfl) rB6o_21 (by kernel_rfl) (by kernel_rfl) (fun K21 hK21 => ?_)
                go_simp
                refine hK21.out _ _ ?_
                clear hK21
                try simp only [Act.put, List.getElem_toArray, List.getElem_cons_zero, List.getElem_cons_succ, List.setIfInBounds_toArray, List.set_cons_zero, List.set_cons_succ]
                refine wpAnyY_done (by kernel_rfl) ?_ _
                clear hS hSk
                have hGz := hG.t ga
                go_wp2_with fail
                go_roundw
                case rel => exact ⟨k + 1, by omega, by go_num, fun j hj => by
                  rcases Nat.lt_or_ge j k with h4 | h4
                  · exact HN.out j h4
                  · obtain rfl : j = k := by omega
                    rw [← HYY.out]
                    exact ⟨HRK.out.symm, HZZ.out.symm.trans HZK.out⟩, hGz⟩
                case measure => simp [intOf] <;> omega
              · have hzb : (z != (k : Int)) = true := by simpa using hzk
                have HBADK := Lib.hid (HBAD.out (.inr (by show ¬ IX zbird = _; rw [← hz]; exact hzk)))
                clear HBAD hz hzk
                go_upto_region 6 with fail
                refine wp_region_Y (S := fun W' => Blk W' w.heap.size 26 #[.slice (some ⟨gr, ofr, none⟩) racers.length rc, .slice pa pools.length pc, .slice ta protests.length tc] ∧ W'.cell? ⟨gr, ofr + k * 5, none⟩ = some (.int .i64 zbird) ∧ W'.cell? ⟨gr, ofr + k * 5 + 1, none⟩ = some (.int .i64 zowner) ∧ W'.cell? ⟨gr, ofr + k * 5 + 2, none⟩ = some (.int .i64 zrank) ∧ W'.cell? ⟨gr, ofr + k * 5 + 3, none⟩ = some (.int .i64 zday) ∧ W'.cell? ⟨gr, ofr + k * 5 + 4, none⟩ = some (.slice zpa zpools.length zpc) ∧ gr < W'.heap.size) 21 22 rfl (by kernel_rfl) (hSk _ (G.rf _).d) (fun hS => ?_)
                have ga := (G.rf wo).d
                change wpAnyY _ _ opsB6 _ _ 21 22 #[false, false, false, false, false, false, false, false, false, false, false, false, false, false, false, false, false, false, false, false, false, false] _ _
                refine wpAnyY_takeC (v := ?_) [10, 8, 4, 3, 1] rB6_0 rB6o_0 (fun _ _ _ h => h) (Or.inl ⟨by kernel_rfl, ?_⟩) hS ?_
                rotate_left
                · intro w' hSw; have l0 := hSw.1.lt; go_simp; with_reducible rfl
                try simp only [Act.put, List.getElem_toArray, List.getElem_cons_zero, List.getElem_cons_succ, List.setIfInBounds_toArray, List.set_cons_zero, List.set_cons_succ]
                refine wpAnyY_takeC (v := ?_) [10, 8, 4, 3] rB6_1 rB6o_1 (fun _ _ _ h => h) (Or.inl ⟨by kernel_rfl, ?_⟩) hS ?_
                rotate_left
                · intro w' hSw; have m0 := hSw.1.cell 0; have l0 := hSw.1.lt; go_simp; with_reducible rfl
                try simp only [Act.put, List.getElem_toArray, List.getElem_cons_zero, List.getElem_cons_succ, List.setIfInBounds_toArray, List.set_cons_zero, List.set_cons_succ]
                refine wpAnyY_takeC (v := ?_) [10, 8, 4, 3] rB6_2 rB6o_2 (fun _ _ _ h => h) (Or.inl ⟨by kernel_rfl, ?_⟩) hS ?_
                rotate_left
                · intro w' hSw; go_simp; with_reducible rfl
                try simp only [Act.put, List.getElem_toArray, List.getElem_cons_zero, List.getElem_cons_succ, List.setIfInBounds_toArray, List.set_cons_zero, List.set_cons_succ]
                refine wpAnyY_takeC (v := ?_) [10, 8, 4] rB6_3 rB6o_3 (fun _ _ _ h => h) (Or.inl ⟨by kernel_rfl, ?_⟩) hS ?_
                rotate_left
                · intro w' hSw; go_simp; with_reducible rfl
                try simp only [Act.put, List.getElem_toArray, List.getElem_cons_zero, List.getElem_cons_succ, List.setIfInBounds_toArray, List.set_cons_zero, List.set_cons_succ]
                refine wpAnyY_takeC (v := ?_) [10, 8] rB6_4 rB6o_4 (fun _ _ _ h => h) (Or.inl ⟨by kernel_rfl, ?_⟩) hS ?_
                rotate_left
                · intro w' hSw; obtain ⟨_, q0, q1, q2, q3, q4, lg⟩ := hSw; go_simp; with_reducible rfl
                try simp only [Act.put, List.getElem_toArray, List.getElem_cons_zero, List.getElem_cons_succ, List.setIfInBounds_toArray, List.set_cons_zero, List.set_cons_succ]
                refine wpAnyY_takeC (v := ?_) [10, 8, 7, 6] rB6_5 rB6o_5 (fun _ _ _ h => h) (Or.inl ⟨by kernel_rfl, ?_⟩) hS ?_
                rotate_left
                · intro w' hSw; have l0 := hSw.1.lt; go_simp; with_reducible rfl
                try simp only [Act.put, List.getElem_toArray, List.getElem_cons_zero, List.getElem_cons_succ, List.setIfInBounds_toArray, List.set_cons_zero, List.set_cons_succ]
                refine wpAnyY_takeC (v := ?_) [10, 8, 7] rB6_6 rB6o_6 (fun _ _ _ h => h) (Or.inl ⟨by kernel_rfl, ?_⟩) hS ?_
                rotate_left
                · intro w' hSw; have m1 := hSw.1.cell 1; have l0 := hSw.1.lt; go_simp; with_reducible rfl
                try simp only [Act.put, List.getElem_toArray, List.getElem_cons_zero, List.getElem_cons_succ, List.setIfInBounds_toArray, List.set_cons_zero, List.set_cons_succ]
                refine wpAnyY_takeC (v := ?_) [10, 8] rB6_7 rB6o_7 (fun _ _ _ h => h) (Or.inl ⟨by kernel_rfl, ?_⟩) hS ?_
                rotate_left
                · intro w' hSw; go_simp; with_reducible rfl
                try simp only [Act.put, List.getElem_toArray, List.getElem_cons_zero, List.getElem_cons_succ, List.setIfInBounds_toArray, List.set_cons_zero, List.set_cons_succ]
                refine wpAnyY_oneSWC rB6_8 rB6o_8 (by kernel_rfl) (fun K8 hK8 => ?_)
                go_simp
                refine (HIR.out _ ga).mono ?_
                rintro e w5 ⟨rfl, hG5⟩
                replace ga := ga.t hG5
                refine hK8.out _ _ (hSk _ ga) (fun hS => ?_)
                clear hK8
                try simp only [Act.put, List.getElem_toArray, List.getElem_cons_zero, List.getElem_cons_succ, List.setIfInBounds_toArray, List.set_cons_zero, List.set_cons_succ]
                refine wpAnyY_takeC (v := ?_) [10] rB6_9 rB6o_9 (fun _ _ _ h => h) (Or.inl ⟨by kernel_rfl, ?_⟩) hS ?_
                rotate_left
                · intro w' hSw; go_simp; with_reducible rfl
                try simp only [Act.put, List.getElem_toArray, List.getElem_cons_zero, List.getElem_cons_succ, List.setIfInBounds_toArray, List.set_cons_zero, List.set_cons_succ]
                refine wpAnyY_takeC (v := ?_) [] rB6_10 rB6o_10 (fun _ _ _ h => h) (Or.inl ⟨by kernel_rfl, ?_⟩) hS ?_
                rotate_left
                · intro w' hSw; go_simp; with_reducible rfl
                try simp only [Act.put, List.getElem_toArray, List.getElem_cons_zero, List.getElem_cons_succ, List.setIfInBounds_toArray, List.set_cons_zero, List.set_cons_succ]
                refine wpAnyY_takeC (v := ?_) [20, 18] rB6_11 rB6o_11 (fun _ _ _ h => h) (Or.inl ⟨by kernel_rfl, ?_⟩) hS ?_
                rotate_left
                · intro w' hSw; have m0 := hSw.1.cell 0; have m1 := hSw.1.cell 1; have m2 := hSw.1.cell 2; have l0 := hSw.1.lt; go_simp; with_reducible rfl
                try simp only [Act.put, List.getElem_toArray, List.getElem_cons_zero, List.getElem_cons_succ, List.setIfInBounds_toArray, List.set_cons_zero, List.set_cons_succ]
                refine wpAnyY_takeC (v := ?_) [20, 18, 17, 16, 15, 13] rB6_12 rB6o_12 (fun _ _ _ h => h) (Or.inl ⟨by kernel_rfl, ?_⟩) hS ?_
                rotate_left
                · intro w' hSw; have l0 := hSw.1.lt; go_simp; with_reducible rfl
                try simp only [Act.put, List.getElem_toArray, List.getElem_cons_zero, List.getElem_cons_succ, List.setIfInBounds_toArray, List.set_cons_zero, List.set_cons_succ]
                refine wpAnyY_takeC (v := ?_) [20, 18, 17, 16, 15] rB6_13 rB6o_13 (fun _ _ _ h => h) (Or.inl ⟨by kernel_rfl, ?_⟩) hS ?_
                rotate_left
                · intro w' hSw; have m0 := hSw.1.cell 0; have l0 := hSw.1.lt; go_simp; with_reducible rfl
                try simp only [Act.put, List.getElem_toArray, List.getElem_cons_zero, List.getElem_cons_succ, List.setIfInBounds_toArray, List.set_cons_zero, List.set_cons_succ]
                refine wpAnyY_takeC (v := ?_) [20, 18, 17, 16, 15] rB6_14 rB6o_14 (fun _ _ _ h => h) (Or.inl ⟨by kernel_rfl, ?_⟩) hS ?_
                rotate_left
                · intro w' hSw; go_simp; with_reducible rfl
                try simp only [Act.put, List.getElem_toArray, List.getElem_cons_zero, List.getElem_cons_succ, List.setIfInBounds_toArray, List.set_cons_zero, List.set_cons_succ]
                refine wpAnyY_takeC (v := ?_) [20, 18, 17, 16] rB6_15 rB6o_15 (fun _ _ _ h => h) (Or.inl ⟨by kernel_rfl, ?_⟩) hS ?_
                rotate_left
                · intro w' hSw; go_simp; with_reducible rfl
                try simp only [Act.put, List.getElem_toArray, List.getElem_cons_zero, List.getElem_cons_succ, List.setIfInBounds_toArray, List.set_cons_zero, List.set_cons_succ]
                refine wpAnyY_takeC (v := ?_) [20, 18, 17] rB6_16 rB6o_16 (fun _ _ _ h => h) (Or.inl ⟨by kernel_rfl, ?_⟩) hS ?_
                rotate_left
                · intro w' hSw; go_simp; with_reducible rfl
                try simp only [Act.put, List.getElem_toArray, List.getElem_cons_zero, List.getElem_cons_succ, List.setIfInBounds_toArray, List.set_cons_zero, List.set_cons_succ]
                refine wpAnyY_takeC (v := ?_) [20, 18] rB6_17 rB6o_17 (fun _ _ _ h => h) (Or.inl ⟨by kernel_rfl, ?_⟩) hS ?_
                rotate_left
                · intro w' hSw; obtain ⟨_, q0, q1, q2, q3, q4, lg⟩ := hSw; go_simp; with_reducible rfl
                try simp only [Act.put, List.getElem_toArray, List.getElem_cons_zero, List.getElem_cons_succ, List.setIfInBounds_toArray, List.set_cons_zero, List.set_cons_succ]
                refine wpAnyY_takeC (v := ?_) [20] rB6_19 rB6o_19 (fun _ _ _ h => h) (Or.inl ⟨by kernel_rfl, ?_⟩) hS ?_
                rotate_left
                · intro w' hSw; go_simp; with_reducible rfl
                try simp only [Act.put, List.getElem_toArray, List.getElem_cons_zero, List.getElem_cons_succ, List.setIfInBounds_toArray, List.set_cons_zero, List.set_cons_succ]
                refine wpAnyY_oneSWC rB6_18 rB6o_18 (by kernel_rfl) (fun K18 hK18 => ?_)
                go_simp
                refine (HIX.out _ ga).mono ?_
                rintro e w6 ⟨rfl, hG6⟩
                replace ga := ga.t hG6
                refine hK18.out _ _ (hSk _ ga) (fun hS => ?_)
                clear hK18
                try simp only [Act.put, List.getElem_toArray, List.getElem_cons_zero, List.getElem_cons_succ, List.setIfInBounds_toArray, List.set_cons_zero, List.set_cons_succ]
                refine wpAnyY_takeC (v := ?_) [] rB6_20 rB6o_20 (fun _ _ _ h => h) (Or.inl ⟨by kernel_rfl, ?_⟩) hS ?_
                rotate_left
                · intro w' hSw; go_simp; with_reducible rfl
                try simp only [Act.put, List.getElem_toArray, List.getElem_cons_zero, List.getElem_cons_succ, List.setIfInBounds_toArray, List.set_cons_zero, List.set_cons_succ]
                refine wpAnyY_oneW (i := 21) (by kernel_rfl) rB6o_21 (by kernel_rfl) (by kernel_rfl) (fun K21 hK21 => ?_)
                go_simp
                refine hK21.out _ _ ?_
                clear hK21
                try simp only [Act.put, List.getElem_toArray, List.getElem_cons_zero, List.getElem_cons_succ, List.setIfInBounds_toArray, List.set_cons_zero, List.set_cons_succ]
                refine wpAnyY_done (by kernel_rfl) ?_ _
                clear hS hSk
                have hGz := hG.t ga
                have HZ := Lib.hid (HF.out _ HBADK.out (g0.t hGz))
                go_wp2_with fail
                first | exact HZ.out | (go_ret; exact HZ.out)
          · obtain rfl : k = racers.length := by omega
            have hki : ¬ ((racers.length : Nat) : Int) < racers.length := by omega
            have m1 := bo.cell 1
            have HRA := HN
            clear HN HIR0 hr0
            go_wp2_with fail
            clear m0 m1 l0
            go_loopw [4] (fun i wr => ∃ k : Nat, k ≤ pools.length ∧ i = .int .i64 k ∧ Hid (∀ j, j < k → poolB (pools.getD j default) = true) ∧ G W1 wr) (fun i _ => pools.length - (intOf i).toNat)
            case atStart => exact ⟨0, Nat.zero_le _, rfl, fun j hj => by omega, hG⟩
            case round =>
              clear hG bo
              obtain ⟨k, hk, rfl, HN, hG⟩ := hrel
              obtain ⟨wo, rfl⟩ : ∃ wo, wo = wr := ⟨_, rfl⟩
              have bo := b0.keep hG
              have m1 := bo.cell 1
              have l0 := bo.lt
              by_cases hlt : k < pools.length
              · have hki : (k : Int) < pools.length := by omega
                have HIP := Lib.hid (fun W (hW : G wo W) => HIP0.out k hlt W (g0.t (hG.t hW)))
                have HBAD := Lib.hid (HN3.out k hlt)
                rcases hp0 with h | ⟨g, off, rfl, hg, hcell⟩
                · omega
                have hcl := fun r hr => ((bcellB hG).1 g _ hg).trans (hcell k hlt r hr)
                have lg := Nat.lt_of_lt_of_le hg hG.size
                obtain ⟨y, hy⟩ : ∃ y, y = pools.getD k default := ⟨_, rfl⟩
                have HYY := Lib.hid hy
                rw [← hy] at hcl HIP HBAD
                clear hy hcell
                obtain ⟨ystake, ycut, ykind, yta, ytc, ytable, yquota, yfirst⟩ := y
                unfold Po.v at hcl HIP
                have q0 : wo.cell? ⟨g, off + k * 6, none⟩ = some (.int .i64 ystake) := hcl 0 (by omega)
                have q1 : wo.cell? ⟨g, off + k * 6 + 1, none⟩ = some (.int .i64 ycut) := hcl 1 (by omega)
                have q2 : wo.cell? ⟨g, off + k * 6 + 2, none⟩ = some (.int .i64 ykind) := hcl 2 (by omega)
                have q3 : wo.cell? ⟨g, off + k * 6 + 3, none⟩ = some (.slice yta ytable.length ytc) := hcl 3 (by omega)
                have q4 : wo.cell? ⟨g, off + k * 6 + 4, none⟩ = some (.int .i64 yquota) := hcl 4 (by omega)
                have q5 : wo.cell? ⟨g, off + k * 6 + 5, none⟩ = some (.bool yfirst) := hcl 5 (by omega)
                clear hcl
                obtain ⟨PK, hPK⟩ : ∃ PK, PK = poolB ⟨ystake, ycut, ykind, yta, ytc, ytable, yquota, yfirst⟩ := ⟨_, rfl⟩
                rw [← hPK] at HIP HBAD
                have HPK := Lib.hid hPK
                clear hPK
                cases PK
                · go_wp2_with (go_at_call 44; refine (HIP.out _ (G.rf _)).mono ?_; rintro e w5 ⟨rfl, hG5⟩)
                  have HZ := Lib.hid (HF.out _ (HBAD.out (by first | trivial | rfl)) (g0.t (hG.t hG5)))
                  first | exact HZ.out | (go_ret; exact HZ.out)
                · go_wp2_with (go_at_call 44; refine (HIP.out _ (G.rf _)).mono ?_; rintro e w5 ⟨rfl, hG5⟩)
                  go_roundw
                  case rel => exact ⟨k + 1, by omega, by go_num, fun j hj => by
                    rcases Nat.lt_or_ge j k with h4 | h4
                    · exact HN.out j h4
                    · obtain rfl : j = k := by omega
                      rw [← HYY.out]; exact HPK.out.symm, hG.t hG5⟩
                  case measure => simp [intOf] <;> omega
              · obtain rfl : k = pools.length := by omega
                have hki : ¬ ((pools.length : Nat) : Int) < pools.length := by omega
                have m2 := bo.cell 2
                have HPA := HN
                clear HN HIP0 hp0
                go_wp2_with fail
                clear m1 m2 l0
                go_loopw [5] (fun i wr => ∃ k : Nat, k ≤ protests.length ∧ i = .int .i64 k ∧ Hid (∀ j, j < k → ¬ IX (protests.getD j 0) < 0 ∧ ¬ (0 < j ∧ protests.getD j 0 ≤ protests.getD (j - 1) 0)) ∧ G W1 wr) (fun i _ => protests.length - (intOf i).toNat)
                case atStart => exact ⟨0, Nat.zero_le _, rfl, fun j hj => by omega, hG⟩
                case round =>
                  clear hG bo
                  obtain ⟨k, hk, rfl, HN, hG⟩ := hrel
                  obtain ⟨wo, rfl⟩ : ∃ wo, wo = wr := ⟨_, rfl⟩
                  have bo := b0.keep hG
                  have m2 := bo.cell 2
                  have l0 := bo.lt
                  by_cases hlt : k < protests.length
                  · have hki : (k : Int) < protests.length := by omega
                    have HBAD := Lib.hid (HN4.out k hlt)
                    have HIX1 := Lib.hid (fun b W (hW : G wo W) => HIX0.out b W (g0.t (hG.t hW)))
                    rcases ht0 with rfl | ⟨gt, oft, rfl, hgt, hcell⟩
                    · simp at hlt
                    obtain ⟨q, hq⟩ : ∃ q, q = k - 1 := ⟨_, rfl⟩
                    have hck := hcell k hlt
                    have hcq := hcell q (by omega)
                    have HQQ := Lib.hid hq
                    rw [← hq] at HBAD
                    obtain ⟨x, hx⟩ : ∃ x, x = protests.getD k 0 := ⟨_, rfl⟩
                    obtain ⟨y, hy⟩ : ∃ y, y = protests.getD q 0 := ⟨_, rfl⟩
                    have HX := Lib.hid hx
                    have HY2 := Lib.hid hy
                    rw [← hx] at hck HBAD
                    rw [← hy] at hcq HBAD
                    have hSk : ∀ W', G wo W' → Blk W' w.heap.size 26 #[.slice ra racers.length rc, .slice pa pools.length pc, .slice (some ⟨gt, oft, none⟩) protests.length tc] ∧ W'.cell? ⟨gt, oft + k, none⟩ = some (.int .i64 x) ∧ W'.cell? ⟨gt, oft + q, none⟩ = some (.int .i64 y) := fun W' hW => ⟨bo.keep hW, ((bcellB (hG.t hW)).1 gt _ hgt).trans hck, ((bcellB (hG.t hW)).1 gt _ hgt).trans hcq⟩
                    have HIX := Lib.hid (HIX1.out x)
                    obtain ⟨z, hz⟩ : ∃ z, z = IX x := ⟨_, rfl⟩
                    have HZZ := Lib.hid hz
                    rw [← hz] at HIX HBAD
                    clear hck hcq hcell hx hy hz HIX1
                    by_cases hzn : z < 0
                    · have hzb : decide (z < 0) = true := decide_eq_true hzn
                      have HBADK := Lib.hid (HBAD.out (.inl hzn))
                      clear HBAD hq
                      go_upto_region 16 with fail
                      refine wp_region_Y (S := fun W' => Blk W' w.heap.size 26 #[.slice ra racers.length rc, .slice pa pools.length pc, .slice (some ⟨gt, oft, none⟩) protests.length tc] ∧ W'.cell? ⟨gt, oft + k, none⟩ = some (.int .i64 x) ∧ W'.cell? ⟨gt, oft + q, none⟩ = some (.int .i64 y)) 25 26 rfl (by kernel_rfl) (hSk _ (G.rf _).d) (fun hS => ?_)
                      have ga := (G.rf wo).d
                      change wpAnyY _ _ opsB16 _ _ 25 26 #[false, false, false, false, false, false, false, false, false, false, false, false, false, false, false, false, false, false, false, false, false, false, false, false, false, false] _ _
                      refine wpAnyY_takeC (v := ?_) [8, 6] rB16_0 rB16o_0 (fun _ _ _ h => h) (Or.inl ⟨by kernel_rfl, ?_⟩) hS ?_
                      rotate_left
                      · intro w' hSw; have m0 := hSw.1.cell 0; have m1 := hSw.1.cell 1; have m2 := hSw.1.cell 2; have l0 := hSw.1.lt; go_simp; with_reducible rfl
                      try simp only [Act.put, List.getElem_toArray, List.getElem_cons_zero, List.getElem_cons_succ, List.setIfInBounds_toArray, List.set_cons_zero, List.set_cons_succ]
                      refine wpAnyY_takeC (v := ?_) [8, 6, 5, 4, 2] rB16_1 rB16o_1 (fun _ _ _ h => h) (Or.inl ⟨by kernel_rfl, ?_⟩) hS ?_
                      rotate_left
                      · intro w' hSw; have l0 := hSw.1.lt; go_simp; with_reducible rfl
                      try simp only [Act.put, List.getElem_toArray, List.getElem_cons_zero, List.getElem_cons_succ, List.setIfInBounds_toArray, List.set_cons_zero, List.set_cons_succ]
                      refine wpAnyY_takeC (v := ?_) [8, 6, 5, 4] rB16_2 rB16o_2 (fun _ _ _ h => h) (Or.inl ⟨by kernel_rfl, ?_⟩) hS ?_
                      rotate_left
                      · intro w' hSw; have m2 := hSw.1.cell 2; have l0 := hSw.1.lt; go_simp; with_reducible rfl
                      try simp only [Act.put, List.getElem_toArray, List.getElem_cons_zero, List.getElem_cons_succ, List.setIfInBounds_toArray, List.set_cons_zero, List.set_cons_succ]
                      refine wpAnyY_takeC (v := ?_) [8, 6, 5, 4] rB16_3 rB16o_3 (fun _ _ _ h => h) (Or.inl ⟨by kernel_rfl, ?_⟩) hS ?_
                      rotate_left
                      · intro w' hSw; go_simp; with_reducible rfl
                      try simp only [Act.put, List.getElem_toArray, List.getElem_cons_zero, List.getElem_cons_succ, List.setIfInBounds_toArray, List.set_cons_zero, List.set_cons_succ]
                      refine wpAnyY_takeC (v := ?_) [8, 6, 5] rB16_4 rB16o_4 (fun _ _ _ h => h) (Or.inl ⟨by kernel_rfl, ?_⟩) hS ?_
                      rotate_left
                      · intro w' hSw; go_simp; with_reducible rfl
                      try simp only [Act.put, List.getElem_toArray, List.getElem_cons_zero, List.getElem_cons_succ, List.setIfInBounds_toArray, List.set_cons_zero, List.set_cons_succ]
                      refine wpAnyY_takeC (v := ?_) [8, 6] rB16_5 rB16o_5 (fun _ _ _ h => h) (Or.inl ⟨by kernel_rfl, ?_⟩) hS ?_
                      rotate_left
                      · intro w' hSw; have q1 := hSw.2.1; go_simp; with_reducible rfl
                      try simp only [Act.put, List.getElem_toArray, List.getElem_cons_zero, List.getElem_cons_succ, List.setIfInBounds_toArray, List.set_cons_zero, List.set_cons_succ]
                      refine wpAnyY_oneSWC rB16_6 rB16o_6 (by kernel_rfl) (fun K6 hK6 => ?_)
                      go_simp
                      refine (HIX.out _ ga).mono ?_
                      rintro e w5 ⟨rfl, hG5⟩
                      replace ga := ga.t hG5
                      refine hK6.out _ _ (hSk _ ga) (fun hS => ?_)
                      clear hK6
                      try simp only [Act.put, List.getElem_toArray, List.getElem_cons_zero, List.getElem_cons_succ, List.setIfInBounds_toArray, List.set_cons_zero, List.set_cons_succ]
                      refine wpAnyY_takeC (v := ?_) [8] rB16_7 rB16o_7 (fun _ _ _ h => h) (Or.inl ⟨by kernel_rfl, ?_⟩) hS ?_
                      rotate_left
                      · intro w' hSw; go_simp; with_reducible rfl
                      try simp only [Act.put, List.getElem_toArray, List.getElem_cons_zero, List.getElem_cons_succ, List.setIfInBounds_toArray, List.set_cons_zero, List.set_cons_succ]
                      refine wpAnyY_takeC (v := ?_) [] rB16_8 rB16o_8 (fun _ _ _ h => h) (Or.inl ⟨by kernel_rfl, ?_⟩) hS ?_
                      rotate_left
                      · intro w' hSw; go_simp; with_reducible rfl
                      try simp only [Act.put, List.getElem_toArray, List.getElem_cons_zero, List.getElem_cons_succ, List.setIfInBounds_toArray, List.set_cons_zero, List.set_cons_succ]
                      refine wpAnyY_takeC (v := undef) [24, 11, 10] rB16_9 rB16o_9 (fun _ _ _ h => h) (Or.inr ⟨by kernel_rfl, rfl⟩) hS ?_
                      try simp only [Act.put, List.getElem_toArray, List.getElem_cons_zero, List.getElem_cons_succ, List.setIfInBounds_toArray, List.set_cons_zero, List.set_cons_succ]
                      refine wpAnyY_takeC (v := undef) [24, 11] rB16_10 rB16o_10 (fun _ _ _ h => h) (Or.inr ⟨by kernel_rfl, rfl⟩) hS ?_
                      try simp only [Act.put, List.getElem_toArray, List.getElem_cons_zero, List.getElem_cons_succ, List.setIfInBounds_toArray, List.set_cons_zero, List.set_cons_succ]
                      refine wpAnyY_takeC (v := undef) [24] rB16_11 rB16o_11 (fun _ _ _ h => h) (Or.inr ⟨by kernel_rfl, rfl⟩) hS ?_
                      try simp only [Act.put, List.getElem_toArray, List.getElem_cons_zero, List.getElem_cons_succ, List.setIfInBounds_toArray, List.set_cons_zero, List.set_cons_succ]
                      refine wpAnyY_takeC (v := undef) [24, 23, 16, 15, 13] rB16_12 rB16o_12 (fun _ _ _ h => h) (Or.inr ⟨by kernel_rfl, rfl⟩) hS ?_
                      try simp only [Act.put, List.getElem_toArray, List.getElem_cons_zero, List.getElem_cons_succ, List.setIfInBounds_toArray, List.set_cons_zero, List.set_cons_succ]
                      refine wpAnyY_takeC (v := undef) [24, 23, 16, 15] rB16_13 rB16o_13 (fun _ _ _ h => h) (Or.inr ⟨by kernel_rfl, rfl⟩) hS ?_
                      try simp only [Act.put, List.getElem_toArray, List.getElem_cons_zero, List.getElem_cons_succ, List.setIfInBounds_toArray, List.set_cons_zero, List.set_cons_succ]
                      refine wpAnyY_takeC (v := undef) [24, 23, 16, 15] rB16_14 rB16o_14 (fun _ _ _ h => h) (Or.inr ⟨by kernel_rfl, rfl⟩) hS ?_
                      try simp only [Act.put, List.getElem_toArray, List.getElem_cons_zero, List.getElem_cons_succ, List.setIfInBounds_toArray, List.set_cons_zero, List.set_cons_succ]
                      refine wpAnyY_takeC (v := undef) [24, 23, 16] rB16_15 rB16o_15 (fun _ _ _ h => h) (Or.inr ⟨by kernel_rfl, rfl⟩) hS ?_
                      try simp only [Act.put, List.getElem_toArray, List.getElem_cons_zero, List.getElem_cons_succ, List.setIfInBounds_toArray, List.set_cons_zero, List.set_cons_succ]
                      refine wpAnyY_takeC (v := undef) [24, 23] rB16_16 rB16o_16 (fun _ _ _ h => h) (Or.inr ⟨by kernel_rfl, rfl⟩) hS ?_
                      try simp only [Act.put, List.getElem_toArray, List.getElem_cons_zero, List.getElem_cons_succ, List.setIfInBounds_toArray, List.set_cons_zero, List.set_cons_succ]
                      refine wpAnyY_takeC (v := undef) [24, 23, 22, 21, 18] rB16_17 rB16o_17 (fun _ _ _ h => h) (Or.inr ⟨by kernel_rfl, rfl⟩) hS ?_
                      try simp only [Act.put, List.getElem_toArray, List.getElem_cons_zero, List.getElem_cons_succ, List.setIfInBounds_toArray, List.set_cons_zero, List.set_cons_succ]
                      refine wpAnyY_takeC (v := undef) [24, 23, 22, 21] rB16_18 rB16o_18 (fun _ _ _ h => h) (Or.inr ⟨by kernel_rfl, rfl⟩) hS ?_
                      try simp only [Act.put, List.getElem_toArray, List.getElem_cons_zero, List.getElem_cons_succ, List.setIfInBounds_toArray, List.set_cons_zero, List.set_cons_succ]
                      refine wpAnyY_takeC (v := undef) [24, 23, 22, 21, 20] rB16_19 rB16o_19 (fun _ _ _ h => h) (Or.inr ⟨by kernel_rfl, rfl⟩) hS ?_
                      try simp only [Act.put, List.getElem_toArray, List.getElem_cons_zero, List.getElem_cons_succ, List.setIfInBounds_toArray, List.set_cons_zero, List.set_cons_succ]
                      refine wpAnyY_takeC (v := undef) [24, 23, 22, 21] rB16_20 rB16o_20 (fun _ _ _ h => h) (Or.inr ⟨by kernel_rfl, rfl⟩) hS ?_
                      try simp only [Act.put, List.getElem_toArray, List.getElem_cons_zero, List.getElem_cons_succ, List.setIfInBounds_toArray, List.set_cons_zero, List.set_cons_succ]
                      refine wpAnyY_takeC (v := undef) [24, 23, 22] rB16_21 rB16o_21 (fun _ _ _ h => h) (Or.inr ⟨by kernel_rfl, rfl⟩) hS ?_
                      try simp only [Act.put, List.getElem_toArray, List.getElem_cons_zero, List.getElem_cons_succ, List.setIfInBounds_toArray, List.set_cons_zero, List.set_cons_succ]
                      refine wpAnyY_takeC (v := undef) [24, 23] rB16_22 rB16o_22 (fun _ _ _ h => h) (Or.inr ⟨by kernel_rfl, rfl⟩) hS ?_
                      try simp only [Act.put, List.getElem_toArray, List.getElem_cons_zero, List.getElem_cons_succ, List.setIfInBounds_toArray, List.set_cons_zero, List.set_cons_succ]
                      refine wpAnyY_takeC (v := undef) [24] rB16_23 rB16o_23 (fun _ _ _ h => h) (Or.inr ⟨by kernel_rfl, rfl⟩) hS ?_
                      try simp only [Act.put, List.getElem_toArray, List.getElem_cons_zero, List.getElem_cons_succ, List.setIfInBounds_toArray, List.set_cons_zero, List.set_cons_succ]
                      refine wpAnyY_takeC (v := undef) [] rB16_24 rB16o_24 (fun _ _ _ h => h) (Or.inr ⟨by kernel_rfl, rfl⟩) hS ?_
                      try simp only [Act.put, List.getElem_toArray, List.getElem_cons_zero, List.getElem_cons_succ, List.setIfInBounds_toArray, List.set_cons_zero, List.set_cons_succ]
                      refine wpAnyY_oneW (i := 25) (by kernel_rfl) rB16o_25 (by kernel_rfl) (by kernel_rfl) (fun K25 hK25 => ?_)
                      go_simp
                      refine hK25.out _ _ ?_
                      clear hK25
                      try simp only [Act.put, List.getElem_toArray, List.getElem_cons_zero, List.getElem_cons_succ, List.setIfInBounds_toArray, List.set_cons_zero, List.set_cons_succ]
                      refine wpAnyY_done (by kernel_rfl) ?_ _
                      clear hS hSk
                      have hGz := hG.t ga
                      have HZ := Lib.hid (HF.out _ HBADK.out (g0.t hGz))
                      go_wp2_with fail
                      first | exact HZ.out | (go_ret; exact HZ.out)
                    · have hzb : decide (z < 0) = false := decide_eq_false hzn
                      by_cases hk0 : k = 0
                      · have hkn : ¬ (0 : Int) < (k : Int) := by omega
                        have hd1 : decide ((0 : Int) < (k : Int)) = false := decide_eq_false hkn
                        have hd2 : decide (0 < k) = false := by simpa using hk0
                        have HK0 := Lib.hid hk0
                        have HZN := Lib.hid hzn
                        clear hk0 hq HBAD
                        go_upto_region 16 with fail
                        refine wp_region_Y (S := fun W' => Blk W' w.heap.size 26 #[.slice ra racers.length rc, .slice pa pools.length pc, .slice (some ⟨gt, oft, none⟩) protests.length tc] ∧ W'.cell? ⟨gt, oft + k, none⟩ = some (.int .i64 x) ∧ W'.cell? ⟨gt, oft + q, none⟩ = some (.int .i64 y)) 25 26 rfl (by kernel_rfl) (hSk _ (G.rf _).d) (fun hS => ?_)
                        have ga := (G.rf wo).d
                        change wpAnyY _ _ opsB16 _ _ 25 26 #[false, false, false, false, false, false, false, false, false, false, false, false, false, false, false, false, false, false, false, false, false, false, false, false, false, false] _ _
                        refine wpAnyY_takeC (v := ?_) [8, 6] rB16_0 rB16o_0 (fun _ _ _ h => h) (Or.inl ⟨by kernel_rfl, ?_⟩) hS ?_
                        rotate_left
                        · intro w' hSw; have m0 := hSw.1.cell 0; have m1 := hSw.1.cell 1; have m2 := hSw.1.cell 2; have l0 := hSw.1.lt; go_simp; with_reducible rfl
                        try simp only [Act.put, List.getElem_toArray, List.getElem_cons_zero, List.getElem_cons_succ, List.setIfInBounds_toArray, List.set_cons_zero, List.set_cons_succ]
                        refine wpAnyY_takeC (v := ?_) [8, 6, 5, 4, 2] rB16_1 rB16o_1 (fun _ _ _ h => h) (Or.inl ⟨by kernel_rfl, ?_⟩) hS ?_
                        rotate_left
                        · intro w' hSw; have l0 := hSw.1.lt; go_simp; with_reducible rfl
                        try simp only [Act.put, List.getElem_toArray, List.getElem_cons_zero, List.getElem_cons_succ, List.setIfInBounds_toArray, List.set_cons_zero, List.set_cons_succ]
                        refine wpAnyY_takeC (v := ?_) [8, 6, 5, 4] rB16_2 rB16o_2 (fun _ _ _ h => h) (Or.inl ⟨by kernel_rfl, ?_⟩) hS ?_
                        rotate_left
                        · intro w' hSw; have m2 := hSw.1.cell 2; have l0 := hSw.1.lt; go_simp; with_reducible rfl
                        try simp only [Act.put, List.getElem_toArray, List.getElem_cons_zero, List.getElem_cons_succ, List.setIfInBounds_toArray, List.set_cons_zero, List.set_cons_succ]
                        refine wpAnyY_takeC (v := ?_) [8, 6, 5, 4] rB16_3 rB16o_3 (fun _ _ _ h => h) (Or.inl ⟨by kernel_rfl, ?_⟩) hS ?_
                        rotate_left
                        · intro w' hSw; go_simp; with_reducible rfl
                        try simp only [Act.put, List.getElem_toArray, List.getElem_cons_zero, List.getElem_cons_succ, List.setIfInBounds_toArray, List.set_cons_zero, List.set_cons_succ]
                        refine wpAnyY_takeC (v := ?_) [8, 6, 5] rB16_4 rB16o_4 (fun _ _ _ h => h) (Or.inl ⟨by kernel_rfl, ?_⟩) hS ?_
                        rotate_left
                        · intro w' hSw; go_simp; with_reducible rfl
                        try simp only [Act.put, List.getElem_toArray, List.getElem_cons_zero, List.getElem_cons_succ, List.setIfInBounds_toArray, List.set_cons_zero, List.set_cons_succ]
                        refine wpAnyY_takeC (v := ?_) [8, 6] rB16_5 rB16o_5 (fun _ _ _ h => h) (Or.inl ⟨by kernel_rfl, ?_⟩) hS ?_
                        rotate_left
                        · intro w' hSw; have q1 := hSw.2.1; go_simp; with_reducible rfl
                        try simp only [Act.put, List.getElem_toArray, List.getElem_cons_zero, List.getElem_cons_succ, List.setIfInBounds_toArray, List.set_cons_zero, List.set_cons_succ]
                        refine wpAnyY_oneSWC rB16_6 rB16o_6 (by kernel_rfl) (fun K6 hK6 => ?_)
                        go_simp
                        refine (HIX.out _ ga).mono ?_
                        rintro e w5 ⟨rfl, hG5⟩
                        replace ga := ga.t hG5
                        refine hK6.out _ _ (hSk _ ga) (fun hS => ?_)
                        clear hK6
                        try simp only [Act.put, List.getElem_toArray, List.getElem_cons_zero, List.getElem_cons_succ, List.setIfInBounds_toArray, List.set_cons_zero, List.set_cons_succ]
                        refine wpAnyY_takeC (v := ?_) [8] rB16_7 rB16o_7 (fun _ _ _ h => h) (Or.inl ⟨by kernel_rfl, ?_⟩) hS ?_
                        rotate_left
                        · intro w' hSw; go_simp; with_reducible rfl
                        try simp only [Act.put, List.getElem_toArray, List.getElem_cons_zero, List.getElem_cons_succ, List.setIfInBounds_toArray, List.set_cons_zero, List.set_cons_succ]
                        refine wpAnyY_takeC (v := ?_) [] rB16_8 rB16o_8 (fun _ _ _ h => h) (Or.inl ⟨by kernel_rfl, ?_⟩) hS ?_
                        rotate_left
                        · intro w' hSw; go_simp; with_reducible rfl
                        try simp only [Act.put, List.getElem_toArray, List.getElem_cons_zero, List.getElem_cons_succ, List.setIfInBounds_toArray, List.set_cons_zero, List.set_cons_succ]
                        refine wpAnyY_takeC (v := ?_) [24, 11, 10] rB16_9 rB16o_9 (fun _ _ _ h => h) (Or.inl ⟨by kernel_rfl, ?_⟩) hS ?_
                        rotate_left
                        · intro w' hSw; go_simp; with_reducible rfl
                        try simp only [Act.put, List.getElem_toArray, List.getElem_cons_zero, List.getElem_cons_succ, List.setIfInBounds_toArray, List.set_cons_zero, List.set_cons_succ]
                        refine wpAnyY_takeC (v := ?_) [24, 11] rB16_10 rB16o_10 (fun _ _ _ h => h) (Or.inl ⟨by kernel_rfl, ?_⟩) hS ?_
                        rotate_left
                        · intro w' hSw; go_simp; with_reducible rfl
                        try simp only [Act.put, List.getElem_toArray, List.getElem_cons_zero, List.getElem_cons_succ, List.setIfInBounds_toArray, List.set_cons_zero, List.set_cons_succ]
                        refine wpAnyY_takeC (v := ?_) [24] rB16_11 rB16o_11 (fun _ _ _ h => h) (Or.inl ⟨by kernel_rfl, ?_⟩) hS ?_
                        rotate_left
                        · intro w' hSw; go_simp; with_reducible rfl
                        try simp only [Act.put, List.getElem_toArray, List.getElem_cons_zero, List.getElem_cons_succ, List.setIfInBounds_toArray, List.set_cons_zero, List.set_cons_succ]
                        refine wpAnyY_takeC (v := undef) [24, 23, 16, 15, 13] rB16_12 rB16o_12 (fun _ _ _ h => h) (Or.inr ⟨by kernel_rfl, rfl⟩) hS ?_
                        try simp only [Act.put, List.getElem_toArray, List.getElem_cons_zero, List.getElem_cons_succ, List.setIfInBounds_toArray, List.set_cons_zero, List.set_cons_succ]
                        refine wpAnyY_takeC (v := undef) [24, 23, 16, 15] rB16_13 rB16o_13 (fun _ _ _ h => h) (Or.inr ⟨by kernel_rfl, rfl⟩) hS ?_
                        try simp only [Act.put, List.getElem_toArray, List.getElem_cons_zero, List.getElem_cons_succ, List.setIfInBounds_toArray, List.set_cons_zero, List.set_cons_succ]
                        refine wpAnyY_takeC (v := undef) [24, 23, 16, 15] rB16_14 rB16o_14 (fun _ _ _ h => h) (Or.inr ⟨by kernel_rfl, rfl⟩) hS ?_
                        try simp only [Act.put, List.getElem_toArray, List.getElem_cons_zero, List.getElem_cons_succ, List.setIfInBounds_toArray, List.set_cons_zero, List.set_cons_succ]
                        refine wpAnyY_takeC (v := undef) [24, 23, 16] rB16_15 rB16o_15 (fun _ _ _ h => h) (Or.inr ⟨by kernel_rfl, rfl⟩) hS ?_
                        try simp only [Act.put, List.getElem_toArray, List.getElem_cons_zero, List.getElem_cons_succ, List.setIfInBounds_toArray, List.set_cons_zero, List.set_cons_succ]
                        refine wpAnyY_takeC (v := undef) [24, 23] rB16_16 rB16o_16 (fun _ _ _ h => h) (Or.inr ⟨by kernel_rfl, rfl⟩) hS ?_
                        try simp only [Act.put, List.getElem_toArray, List.getElem_cons_zero, List.getElem_cons_succ, List.setIfInBounds_toArray, List.set_cons_zero, List.set_cons_succ]
                        refine wpAnyY_takeC (v := undef) [24, 23, 22, 21, 18] rB16_17 rB16o_17 (fun _ _ _ h => h) (Or.inr ⟨by kernel_rfl, rfl⟩) hS ?_
                        try simp only [Act.put, List.getElem_toArray, List.getElem_cons_zero, List.getElem_cons_succ, List.setIfInBounds_toArray, List.set_cons_zero, List.set_cons_succ]
                        refine wpAnyY_takeC (v := undef) [24, 23, 22, 21] rB16_18 rB16o_18 (fun _ _ _ h => h) (Or.inr ⟨by kernel_rfl, rfl⟩) hS ?_
                        try simp only [Act.put, List.getElem_toArray, List.getElem_cons_zero, List.getElem_cons_succ, List.setIfInBounds_toArray, List.set_cons_zero, List.set_cons_succ]
                        refine wpAnyY_takeC (v := undef) [24, 23, 22, 21, 20] rB16_19 rB16o_19 (fun _ _ _ h => h) (Or.inr ⟨by kernel_rfl, rfl⟩) hS ?_
                        try simp only [Act.put, List.getElem_toArray, List.getElem_cons_zero, List.getElem_cons_succ, List.setIfInBounds_toArray, List.set_cons_zero, List.set_cons_succ]
                        refine wpAnyY_takeC (v := undef) [24, 23, 22, 21] rB16_20 rB16o_20 (fun _ _ _ h => h) (Or.inr ⟨by kernel_rfl, rfl⟩) hS ?_
                        try simp only [Act.put, List.getElem_toArray, List.getElem_cons_zero, List.getElem_cons_succ, List.setIfInBounds_toArray, List.set_cons_zero, List.set_cons_succ]
                        refine wpAnyY_takeC (v := undef) [24, 23, 22] rB16_21 rB16o_21 (fun _ _ _ h => h) (Or.inr ⟨by kernel_rfl, rfl⟩) hS ?_
                        try simp only [Act.put, List.getElem_toArray, List.getElem_cons_zero, List.getElem_cons_succ, List.setIfInBounds_toArray, List.set_cons_zero, List.set_cons_succ]
                        refine wpAnyY_takeC (v := undef) [24, 23] rB16_22 rB16o_22 (fun _ _ _ h => h) (Or.inr ⟨by kernel_rfl, rfl⟩) hS ?_
                        try simp only [Act.put, List.getElem_toArray, List.getElem_cons_zero, List.getElem_cons_succ, List.setIfInBounds_toArray, List.set_cons_zero, List.set_cons_succ]
                        refine wpAnyY_takeC (v := undef) [24] rB16_23 rB16o_23 (fun _ _ _ h => h) (Or.inr ⟨by kernel_rfl, rfl⟩) hS ?_
                        try simp only [Act.put, List.getElem_toArray, List.getElem_cons_zero, List.getElem_cons_succ, List.setIfInBounds_toArray, List.set_cons_zero, List.set_cons_succ]
                        refine wpAnyY_takeC (v := ?_) [] rB16_24 rB16o_24 (fun _ _ _ h => h) (Or.inl ⟨by kernel_rfl, ?_⟩) hS ?_
                        rotate_left
                        · intro w' hSw; go_simp; with_reducible rfl
                        try simp only [Act.put, List.getElem_toArray, List.getElem_cons_zero, List.getElem_cons_succ, List.setIfInBounds_toArray, List.set_cons_zero, List.set_cons_succ]
                        refine wpAnyY_oneW (i := 25) (by kernel_rfl) rB16o_25 (by kernel_rfl) (by kernel_rfl) (fun K25 hK25 => ?_)
                        go_simp
                        refine hK25.out _ _ ?_
                        clear hK25
                        try simp only [Act.put, List.getElem_toArray, List.getElem_cons_zero, List.getElem_cons_succ, List.setIfInBounds_toArray, List.set_cons_zero, List.set_cons_succ]
                        refine wpAnyY_done (by kernel_rfl) ?_ _
                        clear hS hSk
                        have hGz := hG.t ga
                        go_wp2_with fail
                        go_roundw
                        case rel => exact ⟨k + 1, by omega, by go_num, fun j hj => by
                          rcases Nat.lt_or_ge j k with h4 | h4
                          · exact HN.out j h4
                          · obtain rfl : j = k := by omega
                            rw [← HX.out, ← HZZ.out]
                            exact ⟨HZN.out, fun hh => by have := HK0.out; omega⟩, hGz⟩
                        case measure => simp [intOf] <;> omega
                      · have hkn : (0 : Int) < (k : Int) := by omega
                        have hd1 : decide ((0 : Int) < (k : Int)) = true := decide_eq_true hkn
                        have hk0n : 0 < k := by omega
                        have hd2 : decide (0 < k) = true := decide_eq_true hk0n
                        have x1 : IntKind.i64.wrap ((k : Int) - 1) = (q : Nat) := by rw [IntWalk.i64_in _ (by omega)]; omega
                        have hqi : (q : Int) < protests.length := by omega
                        have hqn : q < protests.length := by omega
                        clear hq hk0
                        by_cases hle : x ≤ y
                        · have hdl : decide (x ≤ y) = true := decide_eq_true hle
                          have HBADK := Lib.hid (HBAD.out (.inr ⟨hk0n, hle⟩))
                          clear HBAD
                          go_upto_region 16 with fail
                          refine wp_region_Y (S := fun W' => Blk W' w.heap.size 26 #[.slice ra racers.length rc, .slice pa pools.length pc, .slice (some ⟨gt, oft, none⟩) protests.length tc] ∧ W'.cell? ⟨gt, oft + k, none⟩ = some (.int .i64 x) ∧ W'.cell? ⟨gt, oft + q, none⟩ = some (.int .i64 y)) 25 26 rfl (by kernel_rfl) (hSk _ (G.rf _).d) (fun hS => ?_)
                          have ga := (G.rf wo).d
                          change wpAnyY _ _ opsB16 _ _ 25 26 #[false, false, false, false, false, false, false, false, false, false, false, false, false, false, false, false, false, false, false, false, false, false, false, false, false, false] _ _
                          refine wpAnyY_takeC (v := ?_) [8, 6] rB16_0 rB16o_0 (fun _ _ _ h => h) (Or.inl ⟨by kernel_rfl, ?_⟩) hS ?_
                          rotate_left
                          · intro w' hSw; have m0 := hSw.1.cell 0; have m1 := hSw.1.cell 1; have m2 := hSw.1.cell 2; have l0 := hSw.1.lt; go_simp; with_reducible rfl
                          try simp only [Act.put, List.getElem_toArray, List.getElem_cons_zero, List.getElem_cons_succ, List.setIfInBounds_toArray, List.set_cons_zero, List.set_cons_succ]
                          refine wpAnyY_takeC (v := ?_) [8, 6, 5, 4, 2] rB16_1 rB16o_1 (fun _ _ _ h => h) (Or.inl ⟨by kernel_rfl, ?_⟩) hS ?_
                          rotate_left
                          · intro w' hSw; have l0 := hSw.1.lt; go_simp; with_reducible rfl
                          try simp only [Act.put, List.getElem_toArray, List.getElem_cons_zero, List.getElem_cons_succ, List.setIfInBounds_toArray, List.set_cons_zero, List.set_cons_succ]
                          refine wpAnyY_takeC (v := ?_) [8, 6, 5, 4] rB16_2 rB16o_2 (fun _ _ _ h => h) (Or.inl ⟨by kernel_rfl, ?_⟩) hS ?_
                          rotate_left
                          · intro w' hSw; have m2 := hSw.1.cell 2; have l0 := hSw.1.lt; go_simp; with_reducible rfl
                          try simp only [Act.put, List.getElem_toArray, List.getElem_cons_zero, List.getElem_cons_succ, List.setIfInBounds_toArray, List.set_cons_zero, List.set_cons_succ]
                          refine wpAnyY_takeC (v := ?_) [8, 6, 5, 4] rB16_3 rB16o_3 (fun _ _ _ h => h) (Or.inl ⟨by kernel_rfl, ?_⟩) hS ?_
                          rotate_left
                          · intro w' hSw; go_simp; with_reducible rfl
                          try simp only [Act.put, List.getElem_toArray, List.getElem_cons_zero, List.getElem_cons_succ, List.setIfInBounds_toArray, List.set_cons_zero, List.set_cons_succ]
                          refine wpAnyY_takeC (v := ?_) [8, 6, 5] rB16_4 rB16o_4 (fun _ _ _ h => h) (Or.inl ⟨by kernel_rfl, ?_⟩) hS ?_
                          rotate_left
                          · intro w' hSw; go_simp; with_reducible rfl
                          try simp only [Act.put, List.getElem_toArray, List.getElem_cons_zero, List.getElem_cons_succ, List.setIfInBounds_toArray, List.set_cons_zero, List.set_cons_succ]
                          refine wpAnyY_takeC (v := ?_) [8, 6] rB16_5 rB16o_5 (fun _ _ _ h => h) (Or.inl ⟨by kernel_rfl, ?_⟩) hS ?_
                          rotate_left
                          · intro w' hSw; have q1 := hSw.2.1; go_simp; with_reducible rfl
                          try simp only [Act.put, List.getElem_toArray, List.getElem_cons_zero, List.getElem_cons_succ, List.setIfInBounds_toArray, List.set_cons_zero, List.set_cons_succ]
                          refine wpAnyY_oneSWC rB16_6 rB16o_6 (by kernel_rfl) (fun K6 hK6 => ?_)
                          go_simp
                          refine (HIX.out _ ga).mono ?_
                          rintro e w5 ⟨rfl, hG5⟩
                          replace ga := ga.t hG5
                          refine hK6.out _ _ (hSk _ ga) (fun hS => ?_)
                          clear hK6
                          try simp only [Act.put, List.getElem_toArray, List.getElem_cons_zero, List.getElem_cons_succ, List.setIfInBounds_toArray, List.set_cons_zero, List.set_cons_succ]
                          refine wpAnyY_takeC (v := ?_) [8] rB16_7 rB16o_7 (fun _ _ _ h => h) (Or.inl ⟨by kernel_rfl, ?_⟩) hS ?_
                          rotate_left
                          · intro w' hSw; go_simp; with_reducible rfl
                          try simp only [Act.put, List.getElem_toArray, List.getElem_cons_zero, List.getElem_cons_succ, List.setIfInBounds_toArray, List.set_cons_zero, List.set_cons_succ]
                          refine wpAnyY_takeC (v := ?_) [] rB16_8 rB16o_8 (fun _ _ _ h => h) (Or.inl ⟨by kernel_rfl, ?_⟩) hS ?_
                          rotate_left
                          · intro w' hSw; go_simp; with_reducible rfl
                          try simp only [Act.put, List.getElem_toArray, List.getElem_cons_zero, List.getElem_cons_succ, List.setIfInBounds_toArray, List.set_cons_zero, List.set_cons_succ]
                          refine wpAnyY_takeC (v := ?_) [24, 11, 10] rB16_9 rB16o_9 (fun _ _ _ h => h) (Or.inl ⟨by kernel_rfl, ?_⟩) hS ?_
                          rotate_left
                          · intro w' hSw; go_simp; with_reducible rfl
                          try simp only [Act.put, List.getElem_toArray, List.getElem_cons_zero, List.getElem_cons_succ, List.setIfInBounds_toArray, List.set_cons_zero, List.set_cons_succ]
                          refine wpAnyY_takeC (v := ?_) [24, 11] rB16_10 rB16o_10 (fun _ _ _ h => h) (Or.inl ⟨by kernel_rfl, ?_⟩) hS ?_
                          rotate_left
                          · intro w' hSw; go_simp; with_reducible rfl
                          try simp only [Act.put, List.getElem_toArray, List.getElem_cons_zero, List.getElem_cons_succ, List.setIfInBounds_toArray, List.set_cons_zero, List.set_cons_succ]
                          refine wpAnyY_takeC (v := ?_) [24] rB16_11 rB16o_11 (fun _ _ _ h => h) (Or.inl ⟨by kernel_rfl, ?_⟩) hS ?_
                          rotate_left
                          · intro w' hSw; go_simp; with_reducible rfl
                          try simp only [Act.put, List.getElem_toArray, List.getElem_cons_zero, List.getElem_cons_succ, List.setIfInBounds_toArray, List.set_cons_zero, List.set_cons_succ]
                          refine wpAnyY_takeC (v := ?_) [24, 23, 16, 15, 13] rB16_12 rB16o_12 (fun _ _ _ h => h) (Or.inl ⟨by kernel_rfl, ?_⟩) hS ?_
                          rotate_left
                          · intro w' hSw; have l0 := hSw.1.lt; go_simp; with_reducible rfl
                          try simp only [Act.put, List.getElem_toArray, List.getElem_cons_zero, List.getElem_cons_succ, List.setIfInBounds_toArray, List.set_cons_zero, List.set_cons_succ]
                          refine wpAnyY_takeC (v := ?_) [24, 23, 16, 15] rB16_13 rB16o_13 (fun _ _ _ h => h) (Or.inl ⟨by kernel_rfl, ?_⟩) hS ?_
                          rotate_left
                          · intro w' hSw; have m2 := hSw.1.cell 2; have l0 := hSw.1.lt; go_simp; with_reducible rfl
                          try simp only [Act.put, List.getElem_toArray, List.getElem_cons_zero, List.getElem_cons_succ, List.setIfInBounds_toArray, List.set_cons_zero, List.set_cons_succ]
                          refine wpAnyY_takeC (v := ?_) [24, 23, 16, 15] rB16_14 rB16o_14 (fun _ _ _ h => h) (Or.inl ⟨by kernel_rfl, ?_⟩) hS ?_
                          rotate_left
                          · intro w' hSw; go_simp; with_reducible rfl
                          try simp only [Act.put, List.getElem_toArray, List.getElem_cons_zero, List.getElem_cons_succ, List.setIfInBounds_toArray, List.set_cons_zero, List.set_cons_succ]
                          refine wpAnyY_takeC (v := ?_) [24, 23, 16] rB16_15 rB16o_15 (fun _ _ _ h => h) (Or.inl ⟨by kernel_rfl, ?_⟩) hS ?_
                          rotate_left
                          · intro w' hSw; go_simp; with_reducible rfl
                          try simp only [Act.put, List.getElem_toArray, List.getElem_cons_zero, List.getElem_cons_succ, List.setIfInBounds_toArray, List.set_cons_zero, List.set_cons_succ]
                          refine wpAnyY_takeC (v := ?_) [24, 23] rB16_16 rB16o_16 (fun _ _ _ h => h) (Or.inl ⟨by kernel_rfl, ?_⟩) hS ?_
                          rotate_left
                          · intro w' hSw; have q1 := hSw.2.1; go_simp; with_reducible rfl
                          try simp only [Act.put, List.getElem_toArray, List.getElem_cons_zero, List.getElem_cons_succ, List.setIfInBounds_toArray, List.set_cons_zero, List.set_cons_succ]
                          refine wpAnyY_takeC (v := ?_) [24, 23, 22, 21, 18] rB16_17 rB16o_17 (fun _ _ _ h => h) (Or.inl ⟨by kernel_rfl, ?_⟩) hS ?_
                          rotate_left
                          · intro w' hSw; have l0 := hSw.1.lt; go_simp; with_reducible rfl
                          try simp only [Act.put, List.getElem_toArray, List.getElem_cons_zero, List.getElem_cons_succ, List.setIfInBounds_toArray, List.set_cons_zero, List.set_cons_succ]
                          refine wpAnyY_takeC (v := ?_) [24, 23, 22, 21] rB16_18 rB16o_18 (fun _ _ _ h => h) (Or.inl ⟨by kernel_rfl, ?_⟩) hS ?_
                          rotate_left
                          · intro w' hSw; have m2 := hSw.1.cell 2; have l0 := hSw.1.lt; go_simp; with_reducible rfl
                          try simp only [Act.put, List.getElem_toArray, List.getElem_cons_zero, List.getElem_cons_succ, List.setIfInBounds_toArray, List.set_cons_zero, List.set_cons_succ]
                          refine wpAnyY_takeC (v := ?_) [24, 23, 22, 21, 20] rB16_19 rB16o_19 (fun _ _ _ h => h) (Or.inl ⟨by kernel_rfl, ?_⟩) hS ?_
                          rotate_left
                          · intro w' hSw; go_simp; with_reducible rfl
                          try simp only [Act.put, List.getElem_toArray, List.getElem_cons_zero, List.getElem_cons_succ, List.setIfInBounds_toArray, List.set_cons_zero, List.set_cons_succ]
                          refine wpAnyY_takeC (v := ?_) [24, 23, 22, 21] rB16_20 rB16o_20 (fun _ _ _ h => h) (Or.inl ⟨by kernel_rfl, ?_⟩) hS ?_
                          rotate_left
                          · intro w' hSw; go_simp; with_reducible rfl
                          try simp only [Act.put, List.getElem_toArray, List.getElem_cons_zero, List.getElem_cons_succ, List.setIfInBounds_toArray, List.set_cons_zero, List.set_cons_succ]
                          refine wpAnyY_takeC (v := ?_) [24, 23, 22] rB16_21 rB16o_21 (fun _ _ _ h => h) (Or.inl ⟨by kernel_rfl, ?_⟩) hS ?_
                          rotate_left
                          · intro w' hSw; go_simp; with_reducible rfl
                          try simp only [Act.put, List.getElem_toArray, List.getElem_cons_zero, List.getElem_cons_succ, List.setIfInBounds_toArray, List.set_cons_zero, List.set_cons_succ]
                          refine wpAnyY_takeC (v := ?_) [24, 23] rB16_22 rB16o_22 (fun _ _ _ h => h) (Or.inl ⟨by kernel_rfl, ?_⟩) hS ?_
                          rotate_left
                          · intro w' hSw; have q2 := hSw.2.2; go_simp; with_reducible rfl
                          try simp only [Act.put, List.getElem_toArray, List.getElem_cons_zero, List.getElem_cons_succ, List.setIfInBounds_toArray, List.set_cons_zero, List.set_cons_succ]
                          refine wpAnyY_takeC (v := ?_) [24] rB16_23 rB16o_23 (fun _ _ _ h => h) (Or.inl ⟨by kernel_rfl, ?_⟩) hS ?_
                          rotate_left
                          · intro w' hSw; go_simp; with_reducible rfl
                          try simp only [Act.put, List.getElem_toArray, List.getElem_cons_zero, List.getElem_cons_succ, List.setIfInBounds_toArray, List.set_cons_zero, List.set_cons_succ]
                          refine wpAnyY_takeC (v := ?_) [] rB16_24 rB16o_24 (fun _ _ _ h => h) (Or.inl ⟨by kernel_rfl, ?_⟩) hS ?_
                          rotate_left
                          · intro w' hSw; go_simp; with_reducible rfl
                          try simp only [Act.put, List.getElem_toArray, List.getElem_cons_zero, List.getElem_cons_succ, List.setIfInBounds_toArray, List.set_cons_zero, List.set_cons_succ]
                          refine wpAnyY_oneW (i := 25) (by kernel_rfl) rB16o_25 (by kernel_rfl) (by kernel_rfl) (fun K25 hK25 => ?_)
                          go_simp
                          refine hK25.out _ _ ?_
                          clear hK25
                          try simp only [Act.put, List.getElem_toArray, List.getElem_cons_zero, List.getElem_cons_succ, List.setIfInBounds_toArray, List.set_cons_zero, List.set_cons_succ]
                          refine wpAnyY_done (by kernel_rfl) ?_ _
                          clear hS hSk
                          have hGz := hG.t ga
                          have HZ := Lib.hid (HF.out _ HBADK.out (g0.t hGz))
                          go_wp2_with fail
                          first | exact HZ.out | (go_ret; exact HZ.out)
                        · have hdl : decide (x ≤ y) = false := decide_eq_false hle
                          have HZN := Lib.hid hzn
                          have HLE := Lib.hid hle
                          clear HBAD
                          go_upto_region 16 with fail
                          refine wp_region_Y (S := fun W' => Blk W' w.heap.size 26 #[.slice ra racers.length rc, .slice pa pools.length pc, .slice (some ⟨gt, oft, none⟩) protests.length tc] ∧ W'.cell? ⟨gt, oft + k, none⟩ = some (.int .i64 x) ∧ W'.cell? ⟨gt, oft + q, none⟩ = some (.int .i64 y)) 25 26 rfl (by kernel_rfl) (hSk _ (G.rf _).d) (fun hS => ?_)
                          have ga := (G.rf wo).d
                          change wpAnyY _ _ opsB16 _ _ 25 26 #[false, false, false, false, false, false, false, false, false, false, false, false, false, false, false, false, false, false, false, false, false, false, false, false, false, false] _ _
                          refine wpAnyY_takeC (v := ?_) [8, 6] rB16_0 rB16o_0 (fun _ _ _ h => h) (Or.inl ⟨by kernel_rfl, ?_⟩) hS ?_
                          rotate_left
                          · intro w' hSw; have m0 := hSw.1.cell 0; have m1 := hSw.1.cell 1; have m2 := hSw.1.cell 2; have l0 := hSw.1.lt; go_simp; with_reducible rfl
                          try simp only [Act.put, List.getElem_toArray, List.getElem_cons_zero, List.getElem_cons_succ, List.setIfInBounds_toArray, List.set_cons_zero, List.set_cons_succ]
                          refine wpAnyY_takeC (v := ?_) [8, 6, 5, 4, 2] rB16_1 rB16o_1 (fun _ _ _ h => h) (Or.inl ⟨by kernel_rfl, ?_⟩) hS ?_
                          rotate_left
                          · intro w' hSw; have l0 := hSw.1.lt; go_simp; with_reducible rfl
                          try simp only [Act.put, List.getElem_toArray, List.getElem_cons_zero, List.getElem_cons_succ, List.setIfInBounds_toArray, List.set_cons_zero, List.set_cons_succ]
                          refine wpAnyY_takeC (v := ?_) [8, 6, 5, 4] rB16_2 rB16o_2 (fun _ _ _ h => h) (Or.inl ⟨by kernel_rfl, ?_⟩) hS ?_
                          rotate_left
                          · intro w' hSw; have m2 := hSw.1.cell 2; have l0 := hSw.1.lt; go_simp; with_reducible rfl
                          try simp only [Act.put, List.getElem_toArray, List.getElem_cons_zero, List.getElem_cons_succ, List.setIfInBounds_toArray, List.set_cons_zero, List.set_cons_succ]
                          refine wpAnyY_takeC (v := ?_) [8, 6, 5, 4] rB16_3 rB16o_3 (fun _ _ _ h => h) (Or.inl ⟨by kernel_rfl, ?_⟩) hS ?_
                          rotate_left
                          · intro w' hSw; go_simp; with_reducible rfl
                          try simp only [Act.put, List.getElem_toArray, List.getElem_cons_zero, List.getElem_cons_succ, List.setIfInBounds_toArray, List.set_cons_zero, List.set_cons_succ]
                          refine wpAnyY_takeC (v := ?_) [8, 6, 5] rB16_4 rB16o_4 (fun _ _ _ h => h) (Or.inl ⟨by kernel_rfl, ?_⟩) hS ?_
                          rotate_left
                          · intro w' hSw; go_simp; with_reducible rfl
                          try simp only [Act.put, List.getElem_toArray, List.getElem_cons_zero, List.getElem_cons_succ, List.setIfInBounds_toArray, List.set_cons_zero, List.set_cons_succ]
                          refine wpAnyY_takeC (v := ?_) [8, 6] rB16_5 rB16o_5 (fun _ _ _ h => h) (Or.inl ⟨by kernel_rfl, ?_⟩) hS ?_
                          rotate_left
                          · intro w' hSw; have q1 := hSw.2.1; go_simp; with_reducible rfl
                          try simp only [Act.put, List.getElem_toArray, List.getElem_cons_zero, List.getElem_cons_succ, List.setIfInBounds_toArray, List.set_cons_zero, List.set_cons_succ]
                          refine wpAnyY_oneSWC rB16_6 rB16o_6 (by kernel_rfl) (fun K6 hK6 => ?_)
                          go_simp
                          refine (HIX.out _ ga).mono ?_
                          rintro e w5 ⟨rfl, hG5⟩
                          replace ga := ga.t hG5
                          refine hK6.out _ _ (hSk _ ga) (fun hS => ?_)
                          clear hK6
                          try simp only [Act.put, List.getElem_toArray, List.getElem_cons_zero, List.getElem_cons_succ, List.setIfInBounds_toArray, List.set_cons_zero, List.set_cons_succ]
                          refine wpAnyY_takeC (v := ?_) [8] rB16_7 rB16o_7 (fun _ _ _ h => h) (Or.inl ⟨by kernel_rfl, ?_⟩) hS ?_
                          rotate_left
                          · intro w' hSw; go_simp; with_reducible rfl
                          try simp only [Act.put, List.getElem_toArray, List.getElem_cons_zero, List.getElem_cons_succ, List.setIfInBounds_toArray, List.set_cons_zero, List.set_cons_succ]
                          refine wpAnyY_takeC (v := ?_) [] rB16_8 rB16o_8 (fun _ _ _ h => h) (Or.inl ⟨by kernel_rfl, ?_⟩) hS ?_
                          rotate_left
                          · intro w' hSw; go_simp; with_reducible rfl
                          try simp only [Act.put, List.getElem_toArray, List.getElem_cons_zero, List.getElem_cons_succ, List.setIfInBounds_toArray, List.set_cons_zero, List.set_cons_succ]
                          refine wpAnyY_takeC (v := ?_) [24, 11, 10] rB16_9 rB16o_9 (fun _ _ _ h => h) (Or.inl ⟨by kernel_rfl, ?_⟩) hS ?_
                          rotate_left
                          · intro w' hSw; go_simp; with_reducible rfl
                          try simp only [Act.put, List.getElem_toArray, List.getElem_cons_zero, List.getElem_cons_succ, List.setIfInBounds_toArray, List.set_cons_zero, List.set_cons_succ]
                          refine wpAnyY_takeC (v := ?_) [24, 11] rB16_10 rB16o_10 (fun _ _ _ h => h) (Or.inl ⟨by kernel_rfl, ?_⟩) hS ?_
                          rotate_left
                          · intro w' hSw; go_simp; with_reducible rfl
                          try simp only [Act.put, List.getElem_toArray, List.getElem_cons_zero, List.getElem_cons_succ, List.setIfInBounds_toArray, List.set_cons_zero, List.set_cons_succ]
                          refine wpAnyY_takeC (v := ?_) [24] rB16_11 rB16o_11 (fun _ _ _ h => h) (Or.inl ⟨by kernel_rfl, ?_⟩) hS ?_
                          rotate_left
                          · intro w' hSw; go_simp; with_reducible rfl
                          try simp only [Act.put, List.getElem_toArray, List.getElem_cons_zero, List.getElem_cons_succ, List.setIfInBounds_toArray, List.set_cons_zero, List.set_cons_succ]
                          refine wpAnyY_takeC (v := ?_) [24, 23, 16, 15, 13] rB16_12 rB16o_12 (fun _ _ _ h => h) (Or.inl ⟨by kernel_rfl, ?_⟩) hS ?_
                          rotate_left
                          · intro w' hSw; have l0 := hSw.1.lt; go_simp; with_reducible rfl
                          try simp only [Act.put, List.getElem_toArray, List.getElem_cons_zero, List.getElem_cons_succ, List.setIfInBounds_toArray, List.set_cons_zero, List.set_cons_succ]
                          refine wpAnyY_takeC (v := ?_) [24, 23, 16, 15] rB16_13 rB16o_13 (fun _ _ _ h => h) (Or.inl ⟨by kernel_rfl, ?_⟩) hS ?_
                          rotate_left
                          · intro w' hSw; have m2 := hSw.1.cell 2; have l0 := hSw.1.lt; go_simp; with_reducible rfl
                          try simp only [Act.put, List.getElem_toArray, List.getElem_cons_zero, List.getElem_cons_succ, List.setIfInBounds_toArray, List.set_cons_zero, List.set_cons_succ]
                          refine wpAnyY_takeC (v := ?_) [24, 23, 16, 15] rB16_14 rB16o_14 (fun _ _ _ h => h) (Or.inl ⟨by kernel_rfl, ?_⟩) hS ?_
                          rotate_left
                          · intro w' hSw; go_simp; with_reducible rfl
                          try simp only [Act.put, List.getElem_toArray, List.getElem_cons_zero, List.getElem_cons_succ, List.setIfInBounds_toArray, List.set_cons_zero, List.set_cons_succ]
                          refine wpAnyY_takeC (v := ?_) [24, 23, 16] rB16_15 rB16o_15 (fun _ _ _ h => h) (Or.inl ⟨by kernel_rfl, ?_⟩) hS ?_
                          rotate_left
                          · intro w' hSw; go_simp; with_reducible rfl
                          try simp only [Act.put, List.getElem_toArray, List.getElem_cons_zero, List.getElem_cons_succ, List.setIfInBounds_toArray, List.set_cons_zero, List.set_cons_succ]
                          refine wpAnyY_takeC (v := ?_) [24, 23] rB16_16 rB16o_16 (fun _ _ _ h => h) (Or.inl ⟨by kernel_rfl, ?_⟩) hS ?_
                          rotate_left
                          · intro w' hSw; have q1 := hSw.2.1; go_simp; with_reducible rfl
                          try simp only [Act.put, List.getElem_toArray, List.getElem_cons_zero, List.getElem_cons_succ, List.setIfInBounds_toArray, List.set_cons_zero, List.set_cons_succ]
                          refine wpAnyY_takeC (v := ?_) [24, 23, 22, 21, 18] rB16_17 rB16o_17 (fun _ _ _ h => h) (Or.inl ⟨by kernel_rfl, ?_⟩) hS ?_
                          rotate_left
                          · intro w' hSw; have l0 := hSw.1.lt; go_simp; with_reducible rfl
                          try simp only [Act.put, List.getElem_toArray, List.getElem_cons_zero, List.getElem_cons_succ, List.setIfInBounds_toArray, List.set_cons_zero, List.set_cons_succ]
                          refine wpAnyY_takeC (v := ?_) [24, 23, 22, 21] rB16_18 rB16o_18 (fun _ _ _ h => h) (Or.inl ⟨by kernel_rfl, ?_⟩) hS ?_
                          rotate_left
                          · intro w' hSw; have m2 := hSw.1.cell 2; have l0 := hSw.1.lt; go_simp; with_reducible rfl
                          try simp only [Act.put, List.getElem_toArray, List.getElem_cons_zero, List.getElem_cons_succ, List.setIfInBounds_toArray, List.set_cons_zero, List.set_cons_succ]
                          refine wpAnyY_takeC (v := ?_) [24, 23, 22, 21, 20] rB16_19 rB16o_19 (fun _ _ _ h => h) (Or.inl ⟨by kernel_rfl, ?_⟩) hS ?_
                          rotate_left
                          · intro w' hSw; go_simp; with_reducible rfl
                          try simp only [Act.put, List.getElem_toArray, List.getElem_cons_zero, List.getElem_cons_succ, List.setIfInBounds_toArray, List.set_cons_zero, List.set_cons_succ]
                          refine wpAnyY_takeC (v := ?_) [24, 23, 22, 21] rB16_20 rB16o_20 (fun _ _ _ h => h) (Or.inl ⟨by kernel_rfl, ?_⟩) hS ?_
                          rotate_left
                          · intro w' hSw; go_simp; with_reducible rfl
                          try simp only [Act.put, List.getElem_toArray, List.getElem_cons_zero, List.getElem_cons_succ, List.setIfInBounds_toArray, List.set_cons_zero, List.set_cons_succ]
                          refine wpAnyY_takeC (v := ?_) [24, 23, 22] rB16_21 rB16o_21 (fun _ _ _ h => h) (Or.inl ⟨by kernel_rfl, ?_⟩) hS ?_
                          rotate_left
                          · intro w' hSw; go_simp; with_reducible rfl
                          try simp only [Act.put, List.getElem_toArray, List.getElem_cons_zero, List.getElem_cons_succ, List.setIfInBounds_toArray, List.set_cons_zero, List.set_cons_succ]
                          refine wpAnyY_takeC (v := ?_) [24, 23] rB16_22 rB16o_22 (fun _ _ _ h => h) (Or.inl ⟨by kernel_rfl, ?_⟩) hS ?_
                          rotate_left
                          · intro w' hSw; have q2 := hSw.2.2; go_simp; with_reducible rfl
                          try simp only [Act.put, List.getElem_toArray, List.getElem_cons_zero, List.getElem_cons_succ, List.setIfInBounds_toArray, List.set_cons_zero, List.set_cons_succ]
                          refine wpAnyY_takeC (v := ?_) [24] rB16_23 rB16o_23 (fun _ _ _ h => h) (Or.inl ⟨by kernel_rfl, ?_⟩) hS ?_
                          rotate_left
                          · intro w' hSw; go_simp; with_reducible rfl
                          try simp only [Act.put, List.getElem_toArray, List.getElem_cons_zero, List.getElem_cons_succ, List.setIfInBounds_toArray, List.set_cons_zero, List.set_cons_succ]
                          refine wpAnyY_takeC (v := ?_) [] rB16_24 rB16o_24 (fun _ _ _ h => h) (Or.inl ⟨by kernel_rfl, ?_⟩) hS ?_
                          rotate_left
                          · intro w' hSw; go_simp; with_reducible rfl
                          try simp only [Act.put, List.getElem_toArray, List.getElem_cons_zero, List.getElem_cons_succ, List.setIfInBounds_toArray, List.set_cons_zero, List.set_cons_succ]
                          refine wpAnyY_oneW (i := 25) (by kernel_rfl) rB16o_25 (by kernel_rfl) (by kernel_rfl) (fun K25 hK25 => ?_)
                          go_simp
                          refine hK25.out _ _ ?_
                          clear hK25
                          try simp only [Act.put, List.getElem_toArray, List.getElem_cons_zero, List.getElem_cons_succ, List.setIfInBounds_toArray, List.set_cons_zero, List.set_cons_succ]
                          refine wpAnyY_done (by kernel_rfl) ?_ _
                          clear hS hSk
                          have hGz := hG.t ga
                          go_wp2_with fail
                          go_roundw
                          case rel => exact ⟨k + 1, by omega, by go_num, fun j hj => by
                            rcases Nat.lt_or_ge j k with h4 | h4
                            · exact HN.out j h4
                            · obtain rfl : j = k := by omega
                              rw [← HX.out, ← HZZ.out, ← HQQ.out, ← HY2.out]
                              exact ⟨HZN.out, fun hh => HLE.out hh.2⟩, hGz⟩
                          case measure => simp [intOf] <;> omega
                  · obtain rfl : k = protests.length := by omega
                    have hki : ¬ ((protests.length : Nat) : Int) < protests.length := by omega
                    have HZ := Lib.hid (HT.out wo (HY.out (by omega) (by omega) (by omega) HRA.out HPA.out (fun k hk => ⟨by have := (HN.out k hk).1; omega, (HN.out k hk).2⟩)) (g0.t hG))
                    go_wp2_with fail
                    first | exact HZ.out | (go_ret; exact HZ.out)
end Go.Proofs.YtnkmcoljijmgpaaGreat

set_option linter.unusedSimpArgs false
set_option linter.unusedVariables false
namespace Go.Proofs.YtnkmcoljijmgpaaGreat
open Go.RowKit Go.Shelf Go.Sort Go.Maps
attribute [local go_sem] Oper.semAt_some
/-- what of a racer the prizes look at -/
def rcK (x : Rc) : Int × Int × Int := (x.bird, x.rank, x.day)
theorem getK {l l' : List Rc} (h : l.map rcK = l'.map rcK) (i : Nat) : rcK (l.getD i default) = rcK (l'.getD i default) := by
  have e := congrArg (fun m => m[i]?) h
  simp only [List.getElem?_map] at e
  rw [List.getD_eq_getElem?_getD, List.getD_eq_getElem?_getD]
  cases h1 : l[i]? <;> cases h2 : l'[i]? <;> rw [h1, h2] at e <;> simp at e ⊢
  exact e
theorem lenK {l l' : List Rc} (h : l.map rcK = l'.map rcK) : l.length = l'.length := by
  have := congrArg List.length h
  simpa using this
theorem tksK {l l' : List Rc} (h : l.map rcK = l'.map rcK) : (tks l).map rcK = (tks l').map rcK := by
  unfold tks
  rw [List.map_mergeSort (f := rcK) (r := fun x y : Rc => !lexL y x) (s := fun a b : Int × Int × Int => !decide (b.2.2 < a.2.2 ∨ (b.2.2 = a.2.2 ∧ (b.2.1 < a.2.1 ∨ (b.2.1 = a.2.1 ∧ b.1 < a.1))))) (fun a _ b _ => rfl), List.map_mergeSort (f := rcK) (r := fun x y : Rc => !lexL y x) (s := fun a b : Int × Int × Int => !decide (b.2.2 < a.2.2 ∨ (b.2.2 = a.2.2 ∧ (b.2.1 < a.2.1 ∨ (b.2.1 = a.2.1 ∧ b.1 < a.1))))) (fun a _ b _ => rfl), h]
theorem filterK {l l' : List Rc} (h : l.map rcK = l'.map rcK) (p : Int × Int × Int → Bool) : (l.filter fun x => p (rcK x)).map rcK = (l'.filter fun x => p (rcK x)).map rcK := by
  have a : ∀ l : List Rc, (l.filter fun x => p (rcK x)).map rcK = (l.map rcK).filter p := fun l => by
    rw [List.filter_map]
    rfl
  rw [a, a, h]
/-- two funds of the same pool, whose birds are the same, with rank and day -/
structure KEq (f g : Fu) : Prop where
  po : f.po = g.po
  rs : f.rs.map rcK = g.rs.map rcK
theorem takersK {f g : Fu} (h : KEq f g) (st : List Int) : (takersL f st).map rcK = (takersL g st).map rcK := by
  unfold takersL
  rw [h.po]
  have e : ∀ x : Rc, skipB g.po.first st x = (fun k : Int × Int × Int => (decide (k.2.2 = 0) || (g.po.first && !decide (k.2.2 = 1))) || inL st k.1) (rcK x) := fun x => rfl
  simp only [e]
  exact tksK (filterK h.rs (fun k => !((decide (k.2.2 = 0) || (g.po.first && !decide (k.2.2 = 1))) || inL st k.1)))
theorem grpK {l l' : List Rc} (h : l.map rcK = l'.map rcK) : ∀ k, grpTo l k = grpTo l' k
  | 0 => rfl
  | k + 1 => by
    have ih := grpK h k
    have e0 := getK h k
    have e1 := getK h (k - 1)
    unfold rcK at e0 e1
    simp only [Prod.mk.injEq] at e0 e1
    have hs : sameB l k = sameB l' k := by
      unfold sameB befD
      rw [e0.2.1, e0.2.2, e1.2.1, e1.2.2]
    unfold grpTo
    rw [hs, ih, e0.1]
theorem orderK {f g : Fu} (h : KEq f g) (st : List Int) : orderL f st = orderL g st := by
  have e := takersK h st
  unfold orderL
  rw [lenK e, grpK e]
theorem leftK {f g : Fu} (h : KEq f g) : lefI f = lefI g ∧ totI f = totI g ∧ kepI f = kepI g := by
  have e := lenK h.rs
  unfold lefI kepI totI
  rw [h.po, e]
  exact ⟨rfl, rfl, rfl⟩
theorem placesK {f g : Fu} (h : KEq f g) : placesL f = placesL g := by
  unfold placesL nPl
  rw [(leftK h).1, h.po, lenK h.rs]
theorem wonK {f g : Fu} (h : KEq f g) (st : List Int) : wonL f st = wonL g st := by
  unfold wonL
  rw [orderK h, placesK h]
theorem resK {f g : Fu} (h : KEq f g) (st : List Int) : resI f st = resI g st := by
  unfold resI
  rw [wonK h, (leftK h).1]
theorem prizesK {f g : Fu} (h : KEq f g) : prizesL f = prizesL g := by
  unfold prizesL
  rw [wonK h, resK h, lenK h.rs]
  have e : ∀ i, (f.rs.getD i default).bird = (g.rs.getD i default).bird := fun i => by
    have := getK h.rs i
    unfold rcK at this
    simp only [Prod.mk.injEq] at this
    exact this.1
  simp only [e]
theorem potK {f g : Fu} (h : KEq f g) : potV f = potV g := by
  unfold potV
  rw [(leftK h).1, (leftK h).2.1, (leftK h).2.2, resK h]
end Go.Proofs.YtnkmcoljijmgpaaGreat

set_option linter.unusedSimpArgs false
set_option linter.unusedVariables false
namespace Go.Proofs.YtnkmcoljijmgpaaGreat
open Go.RowKit Go.Shelf Go.Sort Go.Maps
attribute [local go_sem] Oper.semAt_some
/-- a race as it lies, of any size -/
structure Ra.Laid (r : Ra) (W : World) : Prop where
  rs : RcsAt W r.ra r.racers
  ps : PosAt W r.pa r.pools
  ts : IntsAt W r.ta r.protests
  cr : r.racers.length ≤ r.rc
  ct : r.protests.length ≤ r.tc
theorem Ra.Laid.keep {r : Ra} {W W' : World} (h : r.Laid W) (hG : G W W') : r.Laid W' := ⟨h.rs.below hG, h.ps.below hG, h.ts.below hG, h.cr, h.ct⟩
def bigR (l : List Rc) : Bool := anyU (fun i => decide (20 < (l.getD i default).pools.length)) l.length
def bigP (l : List Po) : Bool := anyU (fun i => decide (20 < (l.getD i default).table.length)) l.length
def farR (r : Ra) : Bool := decide (40 < r.racers.length) || decide (20 < r.pools.length) || decide (20 < r.protests.length) || bigR r.racers || bigP r.pools
theorem anyU_false {p : Nat → Bool} {n : Nat} (h : anyU p n = false) {i : Nat} (hi : i < n) : p i = false := by
  unfold anyU at h
  have := List.any_eq_false.1 h i (List.mem_range.2 hi)
  simpa using this
theorem Ra.Laid.at {r : Ra} {W : World} (h : r.Laid W) (hf : farR r = false) : r.At W := by
  unfold farR at hf
  simp only [Bool.or_eq_false_iff, decide_eq_false_iff_not] at hf
  obtain ⟨⟨⟨⟨h1, h2⟩, h3⟩, h4⟩, h5⟩ := hf
  refine ⟨h.rs, h.ps, h.ts, by omega, h.cr, h.ct, by omega, by omega, fun i hi => ?_, fun i hi => ?_⟩
  · have := anyU_false h4 hi
    simp only [decide_eq_false_iff_not] at this
    omega
  · have := anyU_false h5 hi
    simp only [decide_eq_false_iff_not] at this
    omega
set_option maxRecDepth 100000 in
set_option maxHeartbeats 8000000 in
theorem Far8_any (r : Ra) (w : World) (h : r.Laid w) : Calls Tryz.prog 13 #[.agg r.v] w fun e w' => e = .returned (.bool (farR r)) ∧ G w w' := by
  have hpr := h.rs.row
  have hpp := h.ps.row
  have HT : Hid (∀ W', farR r = true → G w W' → ((Ending.returned (.bool true) = .returned (.bool (farR r))) ∧ G w W')) := fun W' a b => ⟨by rw [a], b⟩
  have HF : Hid (∀ W', farR r = false → G w W' → ((Ending.returned (.bool false) = .returned (.bool (farR r))) ∧ G w W')) := fun W' a b => ⟨by rw [a], b⟩
  have HE : Hid (farR r = (decide (40 < r.racers.length) || decide (20 < r.pools.length) || decide (20 < r.protests.length) || bigR r.racers || bigP r.pools)) := rfl
  have HBR : Hid (∀ k, k < r.racers.length → 20 < (r.racers.getD k default).pools.length → bigR r.racers = true) := fun k hk hh => anyU_yes hk (by simpa using hh)
  have HBN : Hid ((∀ k, k < r.racers.length → ¬ 20 < (r.racers.getD k default).pools.length) → bigR r.racers = false) := fun hh => anyU_no (fun k hk => by simpa using hh k hk)
  have HPR : Hid (∀ k, k < r.pools.length → 20 < (r.pools.getD k default).table.length → bigP r.pools = true) := fun k hk hh => anyU_yes hk (by simpa using hh)
  have HPN : Hid ((∀ k, k < r.pools.length → ¬ 20 < (r.pools.getD k default).table.length) → bigP r.pools = false) := fun hh => anyU_no (fun k hk => by simpa using hh k hk)
  generalize farR r = FB at *
  clear h
  obtain ⟨ra, rc, racers, pa, pc, pools, ta, tc, protests⟩ := r
  unfold Ra.v
  dsimp only at *
  generalize bigR racers = BR at *
  generalize bigP pools = BP at *
  have g0 : G w (w.alloc (.cells #[.slice ra racers.length rc, .slice pa pools.length pc, .slice ta protests.length tc] 26)) := (G.rf _).a _
  have b0 : Blk (w.alloc (.cells #[.slice ra racers.length rc, .slice pa pools.length pc, .slice ta protests.length tc] 26)) w.heap.size 26 #[.slice ra racers.length rc, .slice pa pools.length pc, .slice ta protests.length tc] := Blk.new _ _ _
  have hr0 := hpr.below g0
  have hp0 := hpp.below g0
  clear hpr hpp
  go_enter Tryz.func13, Tryz.ntmps13
  go_upto_region 1 with fail
  change Code.wp _ _ _ _ (w.alloc (.cells #[.slice ra racers.length rc, .slice pa pools.length pc, .slice ta protests.length tc] 26))
  generalize w.alloc (.cells #[.slice ra racers.length rc, .slice pa pools.length pc, .slice ta protests.length tc] 26) = W1 at *
  have m0 := b0.cell 0
  have m1 := b0.cell 1
  have m2 := b0.cell 2
  have l0 := b0.lt
  by_cases h1 : 40 < racers.length
  · have h1i : (40 : Int) < racers.length := by omega
    have HZ := Lib.hid (HT.out W1 (by rw [HE.out]; simp [h1]) g0)
    go_wp2_with fail
    first | exact HZ.out | (go_ret; exact HZ.out)
  · have h1i : ¬ (40 : Int) < racers.length := by omega
    by_cases h2 : 20 < pools.length
    · have h2i : (20 : Int) < pools.length := by omega
      have HZ := Lib.hid (HT.out W1 (by rw [HE.out]; simp [h2]) g0)
      go_wp2_with fail
      first | exact HZ.out | (go_ret; exact HZ.out)
    · have h2i : ¬ (20 : Int) < pools.length := by omega
      by_cases h3 : 20 < protests.length
      · have h3i : (20 : Int) < protests.length := by omega
        have HZ := Lib.hid (HT.out W1 (by rw [HE.out]; simp [h3]) g0)
        go_wp2_with fail
        first | exact HZ.out | (go_ret; exact HZ.out)
      · have h3i : ¬ (20 : Int) < protests.length := by omega
        go_wp2_with fail
        clear m0 m1 m2 l0
        go_loopw [3] (fun i wr => ∃ k : Nat, k ≤ racers.length ∧ i = .int .i64 k ∧ Hid (∀ j, j < k → ¬ 20 < (racers.getD j default).pools.length) ∧ G W1 wr) (fun i _ => racers.length - (intOf i).toNat)
        case atStart => exact ⟨0, Nat.zero_le _, rfl, fun j hj => by omega, G.rf _⟩
        case round =>
          obtain ⟨k, hk, rfl, HN, hG⟩ := hrel
          obtain ⟨wo, rfl⟩ : ∃ wo, wo = wr := ⟨_, rfl⟩
          have bo := b0.keep hG
          have m0 := bo.cell 0
          have l0 := bo.lt
          by_cases hlt : k < racers.length
          · have hki : (k : Int) < racers.length := by omega
            rcases hr0 with h | ⟨g, off, rfl, hg, hcell⟩
            · omega
            have q4 : wo.cell? ⟨g, off + k * 5 + 4, none⟩ = some (.slice (racers.getD k default).pa (racers.getD k default).pools.length (racers.getD k default).pc) := ((bcellB hG).1 g _ hg).trans (hcell k hlt 4 (by omega))
            have lg := Nat.lt_of_lt_of_le hg hG.size
            have HB := Lib.hid (HBR.out k hlt)
            obtain ⟨y, hy⟩ : ∃ y, y = racers.getD k default := ⟨_, rfl⟩
            have HY := Lib.hid hy
            rw [← hy] at q4 HB
            clear hy hcell
            obtain ⟨zbird, zowner, zrank, zday, zpa, zpc, zpools⟩ := y
            dsimp only at q4 HB
            by_cases hb : 20 < zpools.length
            · have hbi : (20 : Int) < zpools.length := by omega
              have HZ := Lib.hid (HT.out wo (by rw [HE.out, HB.out hb]; simp) (g0.t hG))
              go_wp2_with fail
              first | exact HZ.out | (go_ret; exact HZ.out)
            · have hbi : ¬ (20 : Int) < zpools.length := by omega
              go_wp2_with fail
              go_roundw
              case rel => exact ⟨k + 1, by omega, by go_num, fun j hj => by
                rcases Nat.lt_or_ge j k with h4 | h4
                · exact HN.out j h4
                · obtain rfl : j = k := by omega
                  rw [← HY.out]; exact hb, hG⟩
              case measure => simp [intOf] <;> omega
          · obtain rfl : k = racers.length := by omega
            have hki : ¬ ((racers.length : Nat) : Int) < racers.length := by omega
            have m1 := bo.cell 1
            have HBF := Lib.hid (HBN.out HN.out)
            go_wp2_with fail
            clear m0 m1 l0
            go_loopw [4] (fun i wr => ∃ k : Nat, k ≤ pools.length ∧ i = .int .i64 k ∧ Hid (∀ j, j < k → ¬ 20 < (pools.getD j default).table.length) ∧ G W1 wr) (fun i _ => pools.length - (intOf i).toNat)
            case atStart => exact ⟨0, Nat.zero_le _, rfl, fun j hj => by omega, hG⟩
            case round =>
              clear hG bo
              obtain ⟨k, hk, rfl, HN, hG⟩ := hrel
              obtain ⟨wo, rfl⟩ : ∃ wo, wo = wr := ⟨_, rfl⟩
              have bo := b0.keep hG
              have m1 := bo.cell 1
              have l0 := bo.lt
              by_cases hlt : k < pools.length
              · have hki : (k : Int) < pools.length := by omega
                rcases hp0 with h | ⟨g, off, rfl, hg, hcell⟩
                · omega
                have q3 : wo.cell? ⟨g, off + k * 6 + 3, none⟩ = some (.slice (pools.getD k default).ta (pools.getD k default).table.length (pools.getD k default).tc) := ((bcellB hG).1 g _ hg).trans (hcell k hlt 3 (by omega))
                have lg := Nat.lt_of_lt_of_le hg hG.size
                have HB := Lib.hid (HPR.out k hlt)
                obtain ⟨y, hy⟩ : ∃ y, y = pools.getD k default := ⟨_, rfl⟩
                have HY := Lib.hid hy
                rw [← hy] at q3 HB
                clear hy hcell
                obtain ⟨ystake, ycut, ykind, yta, ytc, ytable, yquota, yfirst⟩ := y
                dsimp only at q3 HB
                by_cases hb : 20 < ytable.length
                · have hbi : (20 : Int) < ytable.length := by omega
                  have HZ := Lib.hid (HT.out wo (by rw [HE.out, HB.out hb]; simp) (g0.t hG))
                  go_wp2_with fail
                  first | exact HZ.out | (go_ret; exact HZ.out)
                · have hbi : ¬ (20 : Int) < ytable.length := by omega
                  go_wp2_with fail
                  go_roundw
                  case rel => exact ⟨k + 1, by omega, by go_num, fun j hj => by
                    rcases Nat.lt_or_ge j k with h4 | h4
                    · exact HN.out j h4
                    · obtain rfl : j = k := by omega
                      rw [← HY.out]; exact hb, hG⟩
                  case measure => simp [intOf] <;> omega
              · obtain rfl : k = pools.length := by omega
                have hki : ¬ ((pools.length : Nat) : Int) < pools.length := by omega
                have HZ := Lib.hid (HF.out wo (by rw [HE.out, HBF.out, HPN.out HN.out]; simp [h1, h2, h3]) (g0.t hG))
                go_wp2_with fail
                first | exact HZ.out | (go_ret; exact HZ.out)
end Go.Proofs.YtnkmcoljijmgpaaGreat

set_option linter.unusedSimpArgs false
set_option linter.unusedVariables false
namespace Go.Proofs.YtnkmcoljijmgpaaGreat
open Go.RowKit Go.Shelf Go.Sort Go.Maps
attribute [local go_sem] Oper.semAt_some
theorem In_any (l : List Int) (a : Option Addr) (cap : Nat) (n : Int) (w : World) (h : IntsAt w a l) (hl : l.length ≤ 1000) : Calls Tryz.prog 28 #[.slice a l.length cap, .int .i64 n] w fun e w' => e = .returned (.bool (inL l n)) ∧ G w w' := by
  go_enter Tryz.func28, Tryz.ntmps28
  go_wp2_with fail
  go_loopw [5] (fun i wr => ∃ k : Nat, k ≤ l.length ∧ i = .int .i64 k ∧ Hid (∀ j, j < k → (n == l.getD j 0) = false) ∧ G w wr) (fun i _ => l.length - (intOf i).toNat)
  case atStart => exact ⟨0, Nat.zero_le _, rfl, fun j hj => by omega, G.rf _⟩
  case round =>
    obtain ⟨k, hk, rfl, hno, hG⟩ := hrel
    by_cases hlt : k < l.length
    · have hki : (k : Int) < l.length := by omega
      rcases h with rfl | ⟨g, off, rfl, hg, hcell⟩
      · simp at hlt
      have lg := Nat.lt_of_lt_of_le hg hG.size
      have q0 := ((bcellB hG).1 g _ hg).trans (hcell k hlt)
      obtain ⟨y, hy⟩ : ∃ y, y = l.getD k 0 := ⟨_, rfl⟩
      have HY := Lib.hid hy
      rw [← hy] at q0
      clear hy hcell
      cases hp : (n == y)
      · have HP := Lib.hid hp
        have hne : ¬ y = n := fun e => by rw [e] at hp; simp at hp
        have hnb : (y == n) = false := by simpa using hne
        clear hp
        go_wp2_with fail
        go_roundw
        case rel => exact ⟨k + 1, by omega, by go_num, fun j hj => by
          rcases Nat.lt_or_ge j k with h | h
          · exact hno.out j h
          · obtain rfl : j = k := by omega
            rw [← HY.out]; exact HP.out, hG⟩
        case measure => simp [intOf] <;> omega
      · have HP : Hid (inL l n = true) := anyU_yes hlt (by rw [← HY.out]; exact hp)
        have hne : y = n := by have : n = y := by simpa using hp
                               exact this.symm
        subst hne
        clear hp
        go_wp2_with fail
        go_ret
        exact ⟨by rw [HP.out]; rfl, hG⟩
    · have hki : ¬ (k : Int) < l.length := by omega
      obtain rfl : k = l.length := by omega
      have HP : Hid (inL l n = false) := anyU_no hno.out
      go_wp2_with fail
      go_ret
      exact ⟨by rw [HP.out]; rfl, hG⟩
end Go.Proofs.YtnkmcoljijmgpaaGreat

set_option linter.unusedSimpArgs false
set_option linter.unusedVariables false
namespace Go.Proofs.YtnkmcoljijmgpaaGreat
open Go.RowKit Go.Shelf Go.Sort Go.Maps
attribute [local go_sem] Oper.semAt_some
/-- a racer without the pools -/
def rcQ (x : Rc) : Int × Int × Int × Int := (x.bird, x.owner, x.rank, x.day)
theorem K_of_Q {l l' : List Rc} (h : l.map rcQ = l'.map rcQ) : l.map rcK = l'.map rcK := by
  have a : ∀ l : List Rc, l.map rcK = (l.map rcQ).map (fun q => (q.1, q.2.2.1, q.2.2.2)) := fun l => by
    rw [List.map_map]
    rfl
  rw [a, a, h]
theorem racer_parts {r : Ra} (h : raceB r = true) {x : Rc} (hx : x ∈ r.racers) : racerB r.pools.length x = true := by
  have h1 := race_parts h
  unfold racersB at h1
  simp only [Bool.and_eq_true] at h1
  obtain ⟨i, hi, rfl⟩ := List.mem_iff_getElem.1 hx
  have h2 := allU_iff.1 h1.2 i hi
  rw [List.getD_eq_getElem?_getD, List.getElem?_eq_getElem hi] at h2
  simp only [Bool.and_eq_true] at h2
  exact h2.2
end Go.Proofs.YtnkmcoljijmgpaaGreat

set_option linter.unusedSimpArgs false
set_option linter.unusedVariables false
namespace Go.Proofs.YtnkmcoljijmgpaaGreat
open Go.RowKit Go.Shelf Go.Sort Go.Maps
attribute [local go_sem] Oper.semAt_some
theorem own_cap {W : World} {B T k : Nat} {a : Option Addr} {n c : Nat} {xs : List Value} (h : W.ownsRow B T k (.slice a n c) n xs) : n ≤ c := by
  rcases h.2 with ⟨e, h0⟩ | ⟨g, cap, cur, e, _, _, h1, _⟩
  · omega
  · injection e with _ _ e3
    omega
theorem runners_len (r : Ra) (p : Int) : (runners r p).length ≤ r.racers.length := by
  unfold runners
  rw [srt_len]
  exact List.length_filter_le _ _
theorem own_ge {W : World} {base k n : Nat} {e : TypeId} {v : Value} {xs : List Value} (h : W.ownsRow base e k v n xs) : ∀ g, v.ownBlock = some g → base ≤ g := fun g hg => by
  rcases h.2 with ⟨rfl, _⟩ | ⟨g', cap, cur, rfl, hb, _⟩
  · cases hg
  · have : some g' = some g := hg
    injection this with e
    omega
end Go.Proofs.YtnkmcoljijmgpaaGreat

set_option linter.unusedSimpArgs false
set_option linter.unusedVariables false
namespace Go.Proofs.YtnkmcoljijmgpaaGreat
open Go.RowKit Go.Shelf Go.ChangeShapes Go.WideShapes Go.ChangeAt
attribute [local go_sem] Oper.semAt_some
set_option maxRecDepth 100000
/-- a slice that is nil has no capacity -/
def Ra.Nil (r : Ra) : Prop := (r.ta = none → r.tc = 0) ∧ (∀ i, i < r.racers.length → (r.racers.getD i default).pa = none → (r.racers.getD i default).pc = 0) ∧ ∀ i, i < r.pools.length → (r.pools.getD i default).ta = none → (r.pools.getD i default).tc = 0
section
variable {H : Type} {enc : TypeId × Value → H} {w : World} {fuel : Nat}
end
section
variable {H : Type} {enc : TypeId × Value → H} {w : World} {fuel : Nat}
end
section
variable {H : Type} {enc : TypeId × Value → H} {w : World} {fuel : Nat}
end
end Go.Proofs.YtnkmcoljijmgpaaGreat

set_option linter.unusedSimpArgs false
set_option linter.unusedVariables false
namespace Go.Proofs.YtnkmcoljijmgpaaGreat
open Go.RowKit Go.Shelf Go.Sort Go.Maps
attribute [local go_sem] Oper.semAt_some
theorem wpList_append_ints {W : World} {ops : Array Oper} {rest : List Oper} {o : Oper} {act : Act} {Q : Exit → Act → World → Prop} (hgd : o.guard = none) (s x : Operand)
    (ho : o.op = .call { callee := .builtin .append, args := #[s, x], argTypes := #[24, 24] }) (base : Nat) (v : Value) (hs : act.eval s = v) (hown : W.ownsRow base 3 1 v 0 [])
    (a : Option Addr) (l : List Int) (c : Nat) (hx : act.eval x = .slice a l.length c) (hI : IntsAt W a l) (hn : a = none → c = 0) (hl : l.length ≤ 1000) (hbase : base ≤ W.heap.size)
    (h : ∀ v' w', w'.ownsRow base 3 1 v' l.length (iv l) → W.grownBy w' v.ownBlock → wpList Tryz.prog ops Q rest (act.put o.dst v') w') : wpList Tryz.prog ops Q (o :: rest) act W := by
  obtain ⟨i0, hi0, hz0, hz1, hz2⟩ := info_parts info3
  cases a with
  | none =>
    have hl0 : l = [] := by
      rcases hI with h | ⟨_, _, h, _⟩
      · exact h
      · cases h
    subst hl0
    rw [hn rfl] at hx
    exact wpList_append_own_none hgd s x 24 ho base 3 i0 1 Tryz.underlying24 hi0 v 0 [] hs hown hx (h v W hown ⟨rfl, rfl, rfl, Nat.le_refl _, fun _ _ _ => rfl⟩)
  | some ad =>
    refine wpList_append_own _ hgd s x 24 ho base 3 i0 (.int .i64 0) 1 8 Tryz.underlying24 hi0 hz0 hz1 hz2 rfl (by decide) v 0 [] hs hown ad l.length c (iv l) hx (by rw [iv_len, Nat.mul_one]) ?_ (fun u hu => ?_) (by unfold maxLen; omega) (by omega) hbase (fun v' w' h1 h2 _ => ?_)
    · intro j u hu
      rcases hI with h | ⟨b, off, he, _, hc⟩
      · subst h
        simp [iv] at hu
      · cases he
        have hj : j < l.length := by
          have := (List.getElem?_eq_some_iff.1 hu).1
          rwa [iv_len] at this
        rw [add_off, hc j hj, ← iv_get l hj, hu]
    · obtain ⟨z, _, rfl⟩ := List.mem_map.1 hu
      rfl
    · rw [Nat.zero_add, List.nil_append] at h1
      exact h v' w' h1 h2
def rcP (x : Rc) : Int × Int × Int × Int × List Int := (x.bird, x.owner, x.rank, x.day, x.pools)
def poP (x : Po) : Int × Int × Int × List Int × Int × Bool := (x.stake, x.cut, x.kind, x.table, x.quota, x.first)
/-- a copy, of blocks of its own -/
structure CpIs (W : World) (B : Nat) (r o : Ra) : Prop where
  rr : W.ownsRow B 60 5 (.slice o.ra o.racers.length o.rc) o.racers.length (rcV o.racers)
  rp : ∀ y ∈ o.racers, W.ownsRow B 3 1 (.slice y.pa y.pools.length y.pc) y.pools.length (iv y.pools)
  pr : W.ownsRow B 42 6 (.slice o.pa o.pools.length o.pc) o.pools.length (cv Po.v o.pools)
  pt : ∀ y ∈ o.pools, W.ownsRow B 3 1 (.slice y.ta y.table.length y.tc) y.table.length (iv y.table)
  tr : W.ownsRow B 3 1 (.slice o.ta o.protests.length o.tc) o.protests.length (iv o.protests)
  er : o.racers.map rcP = r.racers.map rcP
  ep : o.pools.map poP = r.pools.map poP
  et : o.protests = r.protests
def CpPost (r : Ra) (w : World) (e : Ending) (w' : World) : Prop := G w w' ∧ ∃ o, e = .returned (.agg o.v) ∧ CpIs w' w.heap.size r o
/-- the racers that are copied so far -/
def CrAt (W : World) (B : Nat) (v : Value) (L : List Rc) : Prop := W.ownsRow B 60 5 v L.length (rcV L) ∧ ∀ y ∈ L, W.ownsRow B 3 1 (.slice y.pa y.pools.length y.pc) y.pools.length (iv y.pools)
def CoAt (W : World) (B : Nat) (v : Value) (L : List Po) : Prop := W.ownsRow B 42 6 v L.length (cv Po.v L) ∧ ∀ y ∈ L, W.ownsRow B 3 1 (.slice y.ta y.table.length y.tc) y.table.length (iv y.table)
theorem CrAt.keep {W W' : World} {B : Nat} {v : Value} {L : List Rc} (h : CrAt W B v L) (hG : G W W') : CrAt W' B v L := ⟨own_G h.1 hG, fun y hy => own_G (h.2 y hy) hG⟩
theorem CoAt.keep {W W' : World} {B : Nat} {v : Value} {L : List Po} (h : CoAt W B v L) (hG : G W W') : CoAt W' B v L := ⟨own_G h.1 hG, fun y hy => own_G (h.2 y hy) hG⟩
theorem info42 : (Tryz.prog.info? 42).map (fun i => (i.zero, i.size, i.bytes)) = some (some (.agg #[.int .i64 0, .int .i64 0, .int .i64 0, .slice none 0 0, .int .i64 0, .bool false]), 6, 64) := by kernel_rfl
theorem res24 (tmps : Array Value) (w : World) (g : Nat) (a0 a1 a2 : Option Addr) (k0 k1 k2 c0' c1' c2' : Nat) (h : tmps.getD 2 undef = .pointer (some ⟨g, 0, none⟩)) (hB : Blk w g 26 #[.slice a0 k0 c0', .slice a1 k1 c1', .slice a2 k2 c2']) :
    (results Tryz.f24 tmps).run Tryz.prog w = .ok (.agg #[.slice a0 k0 c0', .slice a1 k1 c1', .slice a2 k2 c2']) w := by
  have c0 := hB.cell 0
  have c1 := hB.cell 1
  have c2 := hB.cell 2
  clear hB
  have hr : Tryz.f24.results = #[.cell 2 26] := rfl
  have h' : tmps[2]?.getD undef = .pointer (some ⟨g, 0, none⟩) := by simpa using h
  simp only [results, hr]
  go_simp
set_option maxRecDepth 100000 in
set_option maxHeartbeats 8000000 in
theorem Copy_any (r : Ra) (w : World) (h : r.At w) (hn : r.Nil) : Calls Tryz.prog 24 #[.agg r.v] w (CpPost r w) := by
  have HP : Hid (∀ o w', CpIs w' w.heap.size r o → G w w' → CpPost r w (.returned (.agg o.v)) w') := fun o w' a b => ⟨b, o, rfl, a⟩
  generalize CpPost r w = PP at *
  have hrv : r.v = #[.slice r.ra r.racers.length r.rc, .slice r.pa r.pools.length r.pc, .slice r.ta r.protests.length r.tc] := rfl
  rw [hrv]
  have HAT := Lib.hid h
  have HNI := Lib.hid hn
  have htn := hn.1
  have htl := h.nt
  have HTT := Lib.hid (fun (W : World) (hW : G w W) => (h.keep hW).ts)
  have hnr := h.nr
  have hnp := h.np
  clear h hn hrv
  have g0 : G w (((w.alloc (.cells #[.slice r.ra r.racers.length r.rc, .slice r.pa r.pools.length r.pc, .slice r.ta r.protests.length r.tc] 26)).alloc (.cells #[.slice none 0 0, .slice none 0 0, .slice none 0 0] 26)).alloc (.cells #[] 3)) := (((G.rf _).a _).a _).a _
  have b0 : Blk (((w.alloc (.cells #[.slice r.ra r.racers.length r.rc, .slice r.pa r.pools.length r.pc, .slice r.ta r.protests.length r.tc] 26)).alloc (.cells #[.slice none 0 0, .slice none 0 0, .slice none 0 0] 26)).alloc (.cells #[] 3)) w.heap.size 26 #[.slice r.ra r.racers.length r.rc, .slice r.pa r.pools.length r.pc, .slice r.ta r.protests.length r.tc] := ((Blk.new _ _ _).alloc _).alloc _
  have b1 : Blk (((w.alloc (.cells #[.slice r.ra r.racers.length r.rc, .slice r.pa r.pools.length r.pc, .slice r.ta r.protests.length r.tc] 26)).alloc (.cells #[.slice none 0 0, .slice none 0 0, .slice none 0 0] 26)).alloc (.cells #[] 3)) (w.heap.size + 1) 26 #[.slice none 0 0, .slice none 0 0, .slice none 0 0] := (Blk.new1 _ _ _ _).alloc _
  have b2 := own_empty (Blk.new2 w (.cells #[.slice r.ra r.racers.length r.rc, .slice r.pa r.pools.length r.pc, .slice r.ta r.protests.length r.tc] 26) (.cells #[.slice none 0 0, .slice none 0 0, .slice none 0 0] 26) 3 #[]) 1
  go_enter Tryz.func24, Tryz.ntmps24
  go_wp2_with (at_builtin; refine wpList_append_ints rfl _ _ rfl (w.heap.size + 1 + 1) _ rfl b2 r.ta r.protests r.tc rfl (HTT.out _ g0) htn htl ?_ ?_)
  · simp only [World.alloc, Array.size_push]
    omega
  intro v1 w1 hown1 hg1
  rw [show (Value.slice (some ⟨w.heap.size + 1 + 1, 0, none⟩) 0 0).ownBlock = some (w.heap.size + 1 + 1) from rfl] at hg1
  replace b0 := b0.grown hg1 (fun e => by injection e with e; omega)
  replace b1 := b1.grown hg1 (fun e => by injection e with e; omega)
  have f1 : Fr (fun _ => False) w w1 := (G.fr g0).grown hg1 (fun g e => .inr (by injection e with e; omega))
  replace g0 : G w w1 := f1.toG (fun _ _ h => h)
  obtain ⟨ka, kc, rfl⟩ := own_slice hown1
  clear f1 hg1 b2
  have m0 := b0.cell 0
  have m1 := b0.cell 1
  have m2 := b0.cell 2
  have l0 := b0.lt
  go_upto_region 2 with fail
  have g1 : G w (w1.alloc (.cells #[.slice none 0 0, .slice none 0 0, .slice ka r.protests.length kc] 26)) := g0.a _
  have b01 := b0.alloc (.cells #[.slice none 0 0, .slice none 0 0, .slice ka r.protests.length kc] 26)
  have b11 := b1.alloc (.cells #[.slice none 0 0, .slice none 0 0, .slice ka r.protests.length kc] 26)
  have bN : Blk (w1.alloc (.cells #[.slice none 0 0, .slice none 0 0, .slice ka r.protests.length kc] 26)) w1.heap.size 26 #[.slice none 0 0, .slice none 0 0, .slice ka r.protests.length kc] := Blk.new _ _ _
  have HT1 := Lib.hid (own_G hown1 ((G.rf w1).a (.cells #[.slice none 0 0, .slice none 0 0, .slice ka r.protests.length kc] 26)))
  have hs1 : (w1.alloc (.cells #[.slice none 0 0, .slice none 0 0, .slice ka r.protests.length kc] 26)).heap.size = w1.heap.size + 1 := World.size_alloc _ _
  have hw1 : w.heap.size + 1 < w1.heap.size := b1.lt
  clear m0 m1 m2 l0 hown1 b0 b1 g0
  obtain ⟨N, hN⟩ : ∃ N, N = w1.heap.size := ⟨_, rfl⟩
  change Code.wp _ _ _ _ (w1.alloc (.cells #[.slice none 0 0, .slice none 0 0, .slice ka r.protests.length kc] 26))
  rw [← hN] at bN hs1 hw1 ⊢
  clear hN
  generalize w1.alloc (.cells #[.slice none 0 0, .slice none 0 0, .slice ka r.protests.length kc] 26) = W1 at *
  have HS1 := Lib.hid hs1
  have HB0 := Lib.hid b01
  have HB1 := Lib.hid b11
  clear hs1
  have hrow := HAT.out.rs.row
  have HROW := Lib.hid hrow
  clear hrow b01 b11
  go_wp2_with fail
  go_loopw [4] (fun i wr => ∃ (k : Nat) (v : Value) (L : List Rc), k ≤ r.racers.length ∧ i = .int .i64 k ∧ Hid (Blk wr N 26 #[v, .slice none 0 0, .slice ka r.protests.length kc]) ∧ Hid (CrAt wr (N + 1) v L) ∧ Hid (L.map rcP = (r.racers.take k).map rcP) ∧ L.length ≤ k ∧ Hid (wr.ownsRow (w.heap.size + 1 + 1) 3 1 (.slice ka r.protests.length kc) r.protests.length (iv r.protests)) ∧ Hid (Fr (fun i => i = N) W1 wr)) (fun i _ => r.racers.length - (intOf i).toNat)
  case atStart => exact ⟨0, .slice none 0 0, [], Nat.zero_le _, rfl, bN, ⟨World.ownsRow_nil _ _ _ _, fun y hy => by simp at hy⟩, by simp [Hid], Nat.le_refl _, HT1, Fr.rf _ _⟩
  case round =>
    clear bN
    obtain ⟨k, v, L, hk, rfl, HBN, HCA, HLL, hLk, HTR, HFR⟩ := hrel
    obtain ⟨wo, rfl⟩ : ∃ wo, wo = wr := ⟨_, rfl⟩
    have gwo : G w wo := ((G.fr (R := fun _ => False) g1).t2 HFR.out (fun i hi e => by omega)).toG (fun _ _ h => h)
    have hszo : N + 1 ≤ wo.heap.size := by have := HFR.out.size; have := HS1.out; omega
    have bo := HFR.out.blk HB0.out (by omega)
    have m0 := bo.cell 0
    have l0 := bo.lt
    by_cases hlt : k < r.racers.length
    · have hki : (k : Int) < r.racers.length := by omega
      have hrow2 := HROW.out.below gwo
      rcases hrow2 with hx | ⟨gr, ofr, hre, hgr, hcell⟩
      · omega
      rw [hre] at m0
      have m0' : wo.cell? ⟨w.heap.size, 0, none⟩ = some (.slice (some ⟨gr, ofr, none⟩) r.racers.length r.rc) := m0
      have hcl := hcell k hlt
      have hyi := (HAT.out.keep gwo).rs.pools k hlt
      have hyn := HNI.out.2.1 k hlt
      have hyl := HAT.out.nq k hlt
      have HTK := Lib.hid (show (r.racers.take (k + 1)).map rcP = (r.racers.take k).map rcP ++ [rcP (r.racers.getD k default)] by
        rw [List.take_add_one, List.getElem?_eq_getElem hlt, List.map_append, List.getD_eq_getElem?_getD, List.getElem?_eq_getElem hlt]
        rfl)
      obtain ⟨y, hy⟩ : ∃ y, y = r.racers.getD k default := ⟨_, rfl⟩
      rw [← hy] at hcl hyi hyn hyl HTK
      clear hy hcell m0 hre
      obtain ⟨zbird, zowner, zrank, zday, zpa, zpc, zpools⟩ := y
      unfold Rc.v at hcl
      dsimp only at hyi hyn hyl
      have HYI := Lib.hid hyi
      have HYN := Lib.hid hyn
      have q0 : wo.cell? ⟨gr, ofr + k * 5, none⟩ = some (.int .i64 zbird) := hcl 0 (by omega)
      have q1 : wo.cell? ⟨gr, ofr + k * 5 + 1, none⟩ = some (.int .i64 zowner) := hcl 1 (by omega)
      have q2 : wo.cell? ⟨gr, ofr + k * 5 + 2, none⟩ = some (.int .i64 zrank) := hcl 2 (by omega)
      have q3 : wo.cell? ⟨gr, ofr + k * 5 + 3, none⟩ = some (.int .i64 zday) := hcl 3 (by omega)
      have q4 : wo.cell? ⟨gr, ofr + k * 5 + 4, none⟩ = some (.slice zpa zpools.length zpc) := hcl 4 (by omega)
      clear hcl hyi hyn
      go_upto_region 6 with fail
      have ga : G wo (wo.alloc (.cells #[.int .i64 zbird, .int .i64 zowner, .int .i64 zrank, .int .i64 zday, .slice zpa zpools.length zpc] 60)) := (G.rf wo).a _
      have bx : Blk (wo.alloc (.cells #[.int .i64 zbird, .int .i64 zowner, .int .i64 zrank, .int .i64 zday, .slice zpa zpools.length zpc] 60)) wo.heap.size 60 #[.int .i64 zbird, .int .i64 zowner, .int .i64 zrank, .int .i64 zday, .slice zpa zpools.length zpc] := Blk.new _ _ _
      clear q0 q1 q2 q3 q4 m0' l0 hgr
      obtain ⟨gx, hgx2⟩ : ∃ gx, gx = wo.heap.size := ⟨_, rfl⟩
      change Code.wp _ _ _ _ (wo.alloc (.cells #[.int .i64 zbird, .int .i64 zowner, .int .i64 zrank, .int .i64 zday, .slice zpa zpools.length zpc] 60))
      rw [← hgx2] at bx ⊢
      have hgx3 : wo.heap.size ≤ gx := Nat.le_of_eq hgx2.symm
      have hs4 : (wo.alloc (.cells #[.int .i64 zbird, .int .i64 zowner, .int .i64 zrank, .int .i64 zday, .slice zpa zpools.length zpc] 60)).heap.size = gx + 1 := by rw [hgx2, World.size_alloc]
      clear hgx2
      generalize wo.alloc (.cells #[.int .i64 zbird, .int .i64 zowner, .int .i64 zrank, .int .i64 zday, .slice zpa zpools.length zpc] 60) = w4 at *
      have n4 := bx.cell 4
      have ln := bx.lt
      have hE : (w4.alloc (.cells #[] 3)).ownsRow w4.heap.size 3 1 (.slice (some ⟨w4.heap.size, 0, none⟩) 0 0) 0 [] := own_empty (Blk.new w4 3 #[]) 1
      have HS4 := Lib.hid hs4
      clear hs4
      go_wp2_with (at_builtin; refine wpList_append_ints rfl _ _ rfl w4.heap.size _ rfl hE zpa zpools zpc rfl (HYI.out.below (ga.a _)) HYN.out hyl ?hb6 ?hr6)
      case hb6 => simp only [World.alloc, Array.size_push]; omega
      case hr6 =>
        intro v5 w5 hown5 hg5
        rw [show (Value.slice (some ⟨w4.heap.size, 0, none⟩) 0 0).ownBlock = some w4.heap.size from rfl] at hg5
        have bx5 := (bx.alloc (.cells #[] 3)).grown hg5 (fun e => by injection e with e; omega)
        have f5 : Fr (fun _ => False) w4 w5 := ((G.rf w4).a (.cells #[] 3)).fr.grown hg5 (fun g e => .inr (by injection e with e; omega))
        have g45 : G w4 w5 := f5.toG (fun _ _ h => h)
        obtain ⟨na, nc, rfl⟩ := own_slice hown5
        have hw4 : gx < w4.heap.size := ln
        clear n4 ln f5 hg5 hE
        have n4 := bx5.cell 4
        have z4 := bx5.frozen 4
        have ln := bx5.lt
        go_upto_region 7 with fail
        have g6 : G wo (w5.setCell ⟨gx, 4, none⟩ (.slice na zpools.length nc)) := (ga.t g45).s (p := ⟨gx, 4, none⟩) hgx3 _
        have bx6 : Blk (w5.setCell ⟨gx, 4, none⟩ (.slice na zpools.length nc)) gx 60 #[.int .i64 zbird, .int .i64 zowner, .int .i64 zrank, .int .i64 zday, .slice na zpools.length nc] := by
          have b := bx5.set_ 4 (.slice na zpools.length nc)
          simp only [List.setIfInBounds_toArray, List.set_cons_zero, List.set_cons_succ] at b
          exact b
        have HW6 := Lib.hid (own_weaken (hown5.kept (grownBy_set _ ⟨gx, 4, none⟩ (.slice na zpools.length nc)) (.inr (own_ne hown5 bx5 (by decide)).symm)) (base' := N + 1) (by omega))
        clear n4 z4 ln bx5 g45 hown5 bx
        generalize w5.setCell ⟨gx, 4, none⟩ (.slice na zpools.length nc) = w6 at *
        have HC6 := Lib.hid (HCA.out.keep g6)
        have HB6 := Lib.hid (HBN.out.keep g6)
        have HT6 := Lib.hid (own_G HTR.out g6)
        have m0 := HB6.out.cell 0
        have l0 := HB6.out.lt
        have n0 := bx6.cell 0
        have n1 := bx6.cell 1
        have n2 := bx6.cell 2
        have n3 := bx6.cell 3
        have n4 := bx6.cell 4
        have ln := bx6.lt
        have hgx4 : N + 1 ≤ w6.heap.size := by have := g6.size; omega
        have HGX := Lib.hid hgx4
        clear hgx4
        obtain ⟨i0, hi0, hz0, hz1, hz2⟩ := info_parts info60
        go_wp2_with (at_builtin; refine wpList_append_own _ rfl _ _ 22 rfl (N + 1) 60 i0 (.agg #[.int .i64 0, .int .i64 0, .int .i64 0, .int .i64 0, .slice none 0 0]) 5 56 Tryz.underlying22 hi0 hz0 hz1 hz2 rfl (by decide) _ L.length (rcV L) rfl ?hown ⟨_, 0, none⟩ 1 1 [.int .i64 zbird, .int .i64 zowner, .int .i64 zrank, .int .i64 zday, .slice na zpools.length nc] rfl rfl (cell_new5 _ _ _) (by simp [Value.oneCell']) (by unfold maxLen; omega) (by omega) ?hbase ?hrest)
        case hown => exact own_G HC6.out.1 ((G.rf _).a _)
        case hbase => have := HGX.out; simp only [World.alloc, Array.size_push]; omega
        case hrest =>
          intro v9 w9 hown9 hg9 _
          obtain ⟨va9, vc9, rfl⟩ := own_slice hown9
          have ga9 : G w6 (w6.alloc (.cells #[.int .i64 zbird, .int .i64 zowner, .int .i64 zrank, .int .i64 zday, .slice na zpools.length nc] 60)) := (G.rf w6).a _
          have ho3 := own_G HC6.out.1 ga9
          have HB9 := Lib.hid ((HB6.out.keep ga9).grown hg9 (own_ne ho3 (HB6.out.keep ga9) (by decide)))
          have HF9 := Lib.hid ((HFR.out.g (g6.t ga9)).grown hg9 (fun g hg => .inr (by have := own_ge ho3 g hg; have := HS1.out; omega)))
          have HK9 : Hid (∀ B v n xs, w6.ownsRow B 3 1 v n xs → w9.ownsRow B 3 1 v n xs) := fun B v n xs hb => (own_G hb ga9).kept hg9 (own_own (own_G hb ga9) ho3 (by decide))
          have HN9 := Lib.hid hown9
          clear hown9 hg9 ho3 n0 n1 n2 n3 n4 ln m0 l0
          have m0 := HB9.out.cell 0
          have lf := HB9.out.lt
          have fz := HB9.out.frozen 0
          go_wp2
          go_roundw
          case rel =>
            have hst : ∀ B v n xs, w9.ownsRow B 3 1 v n xs → (w9.setCell ⟨N, 0, none⟩ (.slice va9 (L.length + 1) vc9)).ownsRow B 3 1 v n xs := fun B v n xs hb => hb.kept (grownBy_set _ _ _) (.inr (own_ne hb HB9.out (by decide)).symm)
            exact ⟨k + 1, .slice va9 (L.length + 1) vc9, L ++ [⟨zbird, zowner, zrank, zday, na, nc, zpools⟩], by omega, by go_num, by
              have b := HB9.out.set_ 0 (.slice va9 (L.length + 1) vc9)
              simp only [List.setIfInBounds_toArray, List.set_cons_zero, List.set_cons_succ] at b
              exact b, ⟨by
              rw [List.length_append, rcV_snoc]
              exact HN9.out.kept (grownBy_set _ _ _) (.inr (own_ne HN9.out HB9.out (by decide)).symm), fun y hy => by
              rcases List.mem_append.1 hy with h | h
              · exact hst _ _ _ _ (HK9.out _ _ _ _ (HC6.out.2 y h))
              · obtain rfl : y = _ := List.mem_singleton.1 h
                exact hst _ _ _ _ (HK9.out _ _ _ _ HW6.out)⟩, by
              show _ = _
              rw [HTK.out, List.map_append, HLL.out]
              rfl, by rw [List.length_append]; exact Nat.add_le_add hLk (Nat.le_refl 1), hst _ _ _ _ (HK9.out _ _ _ _ HT6.out), HF9.out.s (p := ⟨N, 0, none⟩) (.inl rfl) _⟩
          case measure => simp [intOf] <;> omega
    · obtain rfl : k = r.racers.length := by omega
      have hki : ¬ ((r.racers.length : Nat) : Int) < r.racers.length := by omega
      have hLL : L.map rcP = r.racers.map rcP := by have := HLL.out; rwa [List.take_length] at this
      have HLE := Lib.hid hLL
      obtain ⟨ra, rc, rfl⟩ := own_slice HCA.out.1
      have HB1o := Lib.hid (HFR.out.blk HB1.out (by omega))
      have HB0o := Lib.hid bo
      have hmN : wo.cell? ⟨N, 0, none⟩ = some (.slice ra L.length rc) := HBN.out.cell 0
      clear hLL HLL hmN
      go_wp2_with fail
      clear m0 l0 bo
      go_loopw [6] (fun i wr => ∃ (k : Nat) (v : Value) (M : List Po), k ≤ r.pools.length ∧ i = .int .i64 k ∧ Hid (Blk wr N 26 #[.slice ra L.length rc, v, .slice ka r.protests.length kc]) ∧ Hid (CoAt wr (N + 1) v M) ∧ Hid (M.map poP = (r.pools.take k).map poP) ∧ M.length ≤ k ∧ Hid (wr.ownsRow (w.heap.size + 1 + 1) 3 1 (.slice ka r.protests.length kc) r.protests.length (iv r.protests) ∧ CrAt wr (N + 1) (.slice ra L.length rc) L) ∧ Hid (Fr (fun i => i = N) W1 wr)) (fun i _ => r.pools.length - (intOf i).toNat)
      case atStart => exact ⟨0, .slice none 0 0, [], Nat.zero_le _, rfl, HBN.out, ⟨World.ownsRow_nil _ _ _ _, fun y hy => by simp at hy⟩, by simp [Hid], Nat.le_refl _, ⟨HTR.out, HCA.out⟩, HFR.out⟩
      case round =>
        obtain ⟨k, v, M, hk2, rfl, HBM, HCO, HMM, hMk, HKS, HFS⟩ := hrel
        obtain ⟨wu, rfl⟩ : ∃ wu, wu = wr := ⟨_, rfl⟩
        have gwu : G w wu := ((G.fr (R := fun _ => False) g1).t2 HFS.out (fun i hi e => by omega)).toG (fun _ _ h => h)
        have hszu : N + 1 ≤ wu.heap.size := by have := HFS.out.size; have := HS1.out; omega
        have bu := HFS.out.blk HB0.out (by omega)
        have m1 := bu.cell 1
        have l0 := bu.lt
        by_cases hlt : k < r.pools.length
        · have hki2 : (k : Int) < r.pools.length := by omega
          have hrow2 := (HAT.out.keep gwu).ps.row
          rcases hrow2 with hx | ⟨gr, ofr, hre, hgr, hcell⟩
          · omega
          rw [hre] at m1
          have m1' : wu.cell? ⟨w.heap.size, 1, none⟩ = some (.slice (some ⟨gr, ofr, none⟩) r.pools.length r.pc) := m1
          have hcl := hcell k hlt
          have hyi := (HAT.out.keep gwu).ps.tables k hlt
          have hyn := HNI.out.2.2 k hlt
          have hyl := HAT.out.nb k hlt
          have HTK := Lib.hid (show (r.pools.take (k + 1)).map poP = (r.pools.take k).map poP ++ [poP (r.pools.getD k default)] by
            rw [List.take_add_one, List.getElem?_eq_getElem hlt, List.map_append, List.getD_eq_getElem?_getD, List.getElem?_eq_getElem hlt]
            rfl)
          obtain ⟨y, hy⟩ : ∃ y, y = r.pools.getD k default := ⟨_, rfl⟩
          rw [← hy] at hcl hyi hyn hyl HTK
          clear hy hcell m1 hre
          obtain ⟨ystake, ycut, ykind, yta, ytc, ytable, yquota, yfirst⟩ := y
          unfold Po.v at hcl
          dsimp only at hyi hyn hyl
          have HYI := Lib.hid hyi
          have HYN := Lib.hid hyn
          have q0 : wu.cell? ⟨gr, ofr + k * 6, none⟩ = some (.int .i64 ystake) := hcl 0 (by omega)
          have q1 : wu.cell? ⟨gr, ofr + k * 6 + 1, none⟩ = some (.int .i64 ycut) := hcl 1 (by omega)
          have q2 : wu.cell? ⟨gr, ofr + k * 6 + 2, none⟩ = some (.int .i64 ykind) := hcl 2 (by omega)
          have q3 : wu.cell? ⟨gr, ofr + k * 6 + 3, none⟩ = some (.slice yta ytable.length ytc) := hcl 3 (by omega)
          have q4 : wu.cell? ⟨gr, ofr + k * 6 + 4, none⟩ = some (.int .i64 yquota) := hcl 4 (by omega)
          have q5 : wu.cell? ⟨gr, ofr + k * 6 + 5, none⟩ = some (.bool yfirst) := hcl 5 (by omega)
          clear hcl hyi hyn
          go_upto_region 12 with fail
          have ga : G wu (wu.alloc (.cells #[.int .i64 ystake, .int .i64 ycut, .int .i64 ykind, .slice yta ytable.length ytc, .int .i64 yquota, .bool yfirst] 42)) := (G.rf wu).a _
          have bx : Blk (wu.alloc (.cells #[.int .i64 ystake, .int .i64 ycut, .int .i64 ykind, .slice yta ytable.length ytc, .int .i64 yquota, .bool yfirst] 42)) wu.heap.size 42 #[.int .i64 ystake, .int .i64 ycut, .int .i64 ykind, .slice yta ytable.length ytc, .int .i64 yquota, .bool yfirst] := Blk.new _ _ _
          clear q0 q1 q2 q3 q4 q5 m1' l0 hgr
          obtain ⟨gx, hgx2⟩ : ∃ gx, gx = wu.heap.size := ⟨_, rfl⟩
          change Code.wp _ _ _ _ (wu.alloc (.cells #[.int .i64 ystake, .int .i64 ycut, .int .i64 ykind, .slice yta ytable.length ytc, .int .i64 yquota, .bool yfirst] 42))
          rw [← hgx2] at bx ⊢
          have hgx3 : wu.heap.size ≤ gx := Nat.le_of_eq hgx2.symm
          clear hgx2
          generalize wu.alloc (.cells #[.int .i64 ystake, .int .i64 ycut, .int .i64 ykind, .slice yta ytable.length ytc, .int .i64 yquota, .bool yfirst] 42) = w4 at *
          have n3 := bx.cell 3
          have ln := bx.lt
          have hE : (w4.alloc (.cells #[] 3)).ownsRow w4.heap.size 3 1 (.slice (some ⟨w4.heap.size, 0, none⟩) 0 0) 0 [] := own_empty (Blk.new w4 3 #[]) 1
          go_wp2_with (at_builtin; refine wpList_append_ints rfl _ _ rfl w4.heap.size _ rfl hE yta ytable ytc rfl (HYI.out.below (ga.a _)) HYN.out hyl ?hb6 ?hr6)
          case hb6 => simp only [World.alloc, Array.size_push]; omega
          case hr6 =>
            intro v5 w5 hown5 hg5
            rw [show (Value.slice (some ⟨w4.heap.size, 0, none⟩) 0 0).ownBlock = some w4.heap.size from rfl] at hg5
            have bx5 := (bx.alloc (.cells #[] 3)).grown hg5 (fun e => by injection e with e; omega)
            have f5 : Fr (fun _ => False) w4 w5 := ((G.rf w4).a (.cells #[] 3)).fr.grown hg5 (fun g e => .inr (by injection e with e; omega))
            have g45 : G w4 w5 := f5.toG (fun _ _ h => h)
            obtain ⟨na, nc, rfl⟩ := own_slice hown5
            have hw4 : gx < w4.heap.size := ln
            clear n3 ln f5 hg5 hE
            have n3 := bx5.cell 3
            have z3 := bx5.frozen 3
            have ln := bx5.lt
            go_upto_region 13 with fail
            have g6 : G wu (w5.setCell ⟨gx, 3, none⟩ (.slice na ytable.length nc)) := (ga.t g45).s (p := ⟨gx, 3, none⟩) hgx3 _
            have bx6 : Blk (w5.setCell ⟨gx, 3, none⟩ (.slice na ytable.length nc)) gx 42 #[.int .i64 ystake, .int .i64 ycut, .int .i64 ykind, .slice na ytable.length nc, .int .i64 yquota, .bool yfirst] := by
              have b := bx5.set_ 3 (.slice na ytable.length nc)
              simp only [List.setIfInBounds_toArray, List.set_cons_zero, List.set_cons_succ] at b
              exact b
            have HW6 := Lib.hid (own_weaken (hown5.kept (grownBy_set _ ⟨gx, 3, none⟩ (.slice na ytable.length nc)) (.inr (own_ne hown5 bx5 (by decide)).symm)) (base' := N + 1) (by omega))
            clear n3 z3 ln bx5 g45 hown5 bx
            generalize w5.setCell ⟨gx, 3, none⟩ (.slice na ytable.length nc) = w6 at *
            have HC6 := Lib.hid (HCO.out.keep g6)
            have HB6 := Lib.hid (HBM.out.keep g6)
            have HT6 := Lib.hid (And.intro (own_G HKS.out.1 g6) (HKS.out.2.keep g6))
            have m1 := HB6.out.cell 1
            have l0 := HB6.out.lt
            have n0 := bx6.cell 0
            have n1 := bx6.cell 1
            have n2 := bx6.cell 2
            have n3 := bx6.cell 3
            have n4 := bx6.cell 4
            have n5 := bx6.cell 5
            have ln := bx6.lt
            have hgx4 : N + 1 ≤ w6.heap.size := by have := g6.size; omega
            have HGX := Lib.hid hgx4
            clear hgx4
            obtain ⟨i0, hi0, hz0, hz1, hz2⟩ := info_parts info42
            go_wp2_with (at_builtin; refine wpList_append_own _ rfl _ _ 23 rfl (N + 1) 42 i0 (.agg #[.int .i64 0, .int .i64 0, .int .i64 0, .slice none 0 0, .int .i64 0, .bool false]) 6 64 Tryz.underlying23 hi0 hz0 hz1 hz2 rfl (by decide) _ M.length (cv Po.v M) rfl ?hown ⟨_, 0, none⟩ 1 1 [.int .i64 ystake, .int .i64 ycut, .int .i64 ykind, .slice na ytable.length nc, .int .i64 yquota, .bool yfirst] rfl rfl (cell_new5 _ _ _) (by simp [Value.oneCell']) (by unfold maxLen; omega) (by omega) ?hbase ?hrest)
            case hown => exact own_G HC6.out.1 ((G.rf _).a _)
            case hbase => have := HGX.out; simp only [World.alloc, Array.size_push]; omega
            case hrest =>
              intro v9 w9 hown9 hg9 _
              obtain ⟨va9, vc9, rfl⟩ := own_slice hown9
              have ga9 : G w6 (w6.alloc (.cells #[.int .i64 ystake, .int .i64 ycut, .int .i64 ykind, .slice na ytable.length nc, .int .i64 yquota, .bool yfirst] 42)) := (G.rf w6).a _
              have ho3 := own_G HC6.out.1 ga9
              have HB9 := Lib.hid ((HB6.out.keep ga9).grown hg9 (own_ne ho3 (HB6.out.keep ga9) (by decide)))
              have HF9 := Lib.hid ((HFS.out.g (g6.t ga9)).grown hg9 (fun g hg => .inr (by have := own_ge ho3 g hg; have := HS1.out; omega)))
              have HK9 : Hid (∀ T z B v n xs, T ≠ 42 → w6.ownsRow B T z v n xs → w9.ownsRow B T z v n xs) := fun T z B v n xs hT hb => (own_G hb ga9).kept hg9 (own_own (own_G hb ga9) ho3 hT)
              have HN9 := Lib.hid hown9
              clear hown9 hg9 ho3 n0 n1 n2 n3 n4 n5 ln m1 l0
              have m1 := HB9.out.cell 1
              have lf := HB9.out.lt
              have fz := HB9.out.frozen 1
              go_wp2
              go_roundw
              case rel =>
                have hst : ∀ T z B v n xs, (26 : Nat) ≠ T → w9.ownsRow B T z v n xs → (w9.setCell ⟨N, 1, none⟩ (.slice va9 (M.length + 1) vc9)).ownsRow B T z v n xs := fun T z B v n xs hT hb => hb.kept (grownBy_set _ _ _) (.inr (own_ne hb HB9.out hT).symm)
                exact ⟨k + 1, .slice va9 (M.length + 1) vc9, M ++ [⟨ystake, ycut, ykind, na, nc, ytable, yquota, yfirst⟩], by omega, by go_num, by
                  have b := HB9.out.set_ 1 (.slice va9 (M.length + 1) vc9)
                  simp only [List.setIfInBounds_toArray, List.set_cons_zero, List.set_cons_succ] at b
                  exact b, ⟨by
                  rw [List.length_append, cv_snoc]
                  exact HN9.out.kept (grownBy_set _ _ _) (.inr (own_ne HN9.out HB9.out (by decide)).symm), fun y hy => by
                  rcases List.mem_append.1 hy with h | h
                  · exact hst _ _ _ _ _ _ (by decide) (HK9.out _ _ _ _ _ _ (by decide) (HC6.out.2 y h))
                  · obtain rfl : y = _ := List.mem_singleton.1 h
                    exact hst _ _ _ _ _ _ (by decide) (HK9.out _ _ _ _ _ _ (by decide) HW6.out)⟩, by
                  show _ = _
                  rw [HTK.out, List.map_append, HMM.out]
                  rfl, by rw [List.length_append]; exact Nat.add_le_add hMk (Nat.le_refl 1), ⟨hst _ _ _ _ _ _ (by decide) (HK9.out _ _ _ _ _ _ (by decide) HT6.out.1), hst _ _ _ _ _ _ (by decide) (HK9.out _ _ _ _ _ _ (by decide) HT6.out.2.1), fun y hy => hst _ _ _ _ _ _ (by decide) (HK9.out _ _ _ _ _ _ (by decide) (HT6.out.2.2 y hy))⟩, HF9.out.s (p := ⟨N, 1, none⟩) (.inl rfl) _⟩
              case measure => simp [intOf] <;> omega
        · obtain rfl : k = r.pools.length := by omega
          have hki2 : ¬ ((r.pools.length : Nat) : Int) < r.pools.length := by omega
          have hMM : M.map poP = r.pools.map poP := by have := HMM.out; rwa [List.take_length] at this
          have HME := Lib.hid hMM
          obtain ⟨pa, pc, rfl⟩ := own_slice HCO.out.1
          have bR := HFS.out.blk HB1.out (by omega)
          clear hMM HMM
          have e0 := HBM.out.cell 0
          have e1 := HBM.out.cell 1
          have e2 := HBM.out.cell 2
          have le := HBM.out.lt
          have r0 := bR.cell 0
          have r1 := bR.cell 1
          have r2 := bR.cell 2
          have z0 := bR.frozen 0
          have z1 := bR.frozen 1
          have z2 := bR.frozen 2
          have lr := bR.lt
          go_wp2_with fail
          have hst : ∀ (o : Nat) (u : Value) (cs : Array Value) T z B v n xs (X : World), (26 : Nat) ≠ T → Blk X (w.heap.size + 1) 26 cs → X.ownsRow B T z v n xs → (X.setCell ⟨w.heap.size + 1, o, none⟩ u).ownsRow B T z v n xs := fun o u cs T z B v n xs X hT hX hb => hb.kept (grownBy_set _ _ _) (.inr (own_ne hb hX hT).symm)
          have bR1 := bR.set_ 0 (.slice ra L.length rc)
          have bR2 := bR1.set_ 1 (.slice pa M.length pc)
          have hs3 : ∀ T z B v n xs, (26 : Nat) ≠ T → wu.ownsRow B T z v n xs → (((wu.setCell ⟨w.heap.size + 1, 0, none⟩ (.slice ra L.length rc)).setCell ⟨w.heap.size + 1, 1, none⟩ (.slice pa M.length pc)).setCell ⟨w.heap.size + 1, 2, none⟩ (.slice ka r.protests.length kc)).ownsRow B T z v n xs := fun T z B v n xs hT hb => hst 2 _ _ _ _ _ _ _ _ _ hT bR2 (hst 1 _ _ _ _ _ _ _ _ _ hT bR1 (hst 0 _ _ _ _ _ _ _ _ _ hT bR hb))
          have HF := Lib.hid (HP.out ⟨ra, rc, L, pa, pc, M, ka, kc, r.protests⟩ (((wu.setCell ⟨w.heap.size + 1, 0, none⟩ (.slice ra L.length rc)).setCell ⟨w.heap.size + 1, 1, none⟩ (.slice pa M.length pc)).setCell ⟨w.heap.size + 1, 2, none⟩ (.slice ka r.protests.length kc)) ⟨own_weaken (hs3 _ _ _ _ _ _ (by decide) HKS.out.2.1) (by omega), fun y hy => own_weaken (hs3 _ _ _ _ _ _ (by decide) (HKS.out.2.2 y hy)) (by omega), own_weaken (hs3 _ _ _ _ _ _ (by decide) HCO.out.1) (by omega), fun y hy => own_weaken (hs3 _ _ _ _ _ _ (by decide) (HCO.out.2 y hy)) (by omega), own_weaken (hs3 _ _ _ _ _ _ (by decide) HKS.out.1) (by omega), HLE.out, HME.out, rfl⟩ (((gwu.s (p := ⟨w.heap.size + 1, 0, none⟩) (Nat.le_succ _) _).s (p := ⟨w.heap.size + 1, 1, none⟩) (Nat.le_succ _) _).s (p := ⟨w.heap.size + 1, 2, none⟩) (Nat.le_succ _) _))
          have bR3 := bR2.set_ 2 (.slice ka r.protests.length kc)
          simp only [List.setIfInBounds_toArray, List.set_cons_zero, List.set_cons_succ] at bR3
          clear hst hs3 bR1 bR2
          refine bodyPost_ret (res24 _ _ (w.heap.size + 1) _ _ _ _ _ _ _ _ _ rfl bR3) rfl ?_
          exact HF.out
end Go.Proofs.YtnkmcoljijmgpaaGreat

set_option linter.unusedSimpArgs false
set_option linter.unusedVariables false
namespace Go.Proofs.YtnkmcoljijmgpaaGreat
open Go.RowKit Go.Shelf Go.Sort Go.Maps
attribute [local go_sem] Oper.semAt_some
/-- a fund whose table lies nowhere -/
def nrm (f : Fu) : Fu := { f with po := { f.po with ta := none, tc := 0 } }
theorem prizes_nrm (f : Fu) : prizesL (nrm f) = prizesL f := rfl
theorem pot_nrm (f : Fu) : potV (nrm f) = potV f := rfl
theorem KEq.of {f g : Fu} (hp : poP f.po = poP g.po) (hr : f.rs.map rcK = g.rs.map rcK) : KEq (nrm f) (nrm g) := by
  refine ⟨?_, hr⟩
  obtain ⟨⟨a0, a1, a2, a3, a4, a5, a6, a7⟩, b, c, d, e, k, l⟩ := f
  obtain ⟨⟨x0, x1, x2, x3, x4, x5, x6, x7⟩, y, z, u, v, s, t⟩ := g
  unfold poP at hp
  simp only [Prod.mk.injEq] at hp
  obtain ⟨rfl, rfl, rfl, rfl, rfl, rfl⟩ := hp
  rfl
theorem prizesP {f g : Fu} (hp : poP f.po = poP g.po) (hr : f.rs.map rcK = g.rs.map rcK) : prizesL f = prizesL g := by
  rw [← prizes_nrm f, ← prizes_nrm g]
  exact prizesK (KEq.of hp hr)
theorem potP {f g : Fu} (hp : poP f.po = poP g.po) (hr : f.rs.map rcK = g.rs.map rcK) : potV f = potV g := by
  rw [← pot_nrm f, ← pot_nrm g]
  exact potK (KEq.of hp hr)
/-- two races of the same pools, whose birds run for the same pools, with the same owners, ranks, days -/
structure REq (r o : Ra) : Prop where
  ps : o.pools.map poP = r.pools.map poP
  pr : o.protests = r.protests
  rs : ∀ p : Int, (runners o p).map rcQ = (runners r p).map rcQ
  ow : ∀ x : Int, (o.racers.any fun y => y.owner == x) = r.racers.any fun y => y.owner == x
theorem REq.po {r o : Ra} (h : REq r o) (p : Int) : poP (poolAt o p) = poP (poolAt r p) := by
  have e := congrArg (fun m => m[p.toNat]?) h.ps
  simp only [List.getElem?_map] at e
  unfold poolAt
  rw [List.getD_eq_getElem?_getD, List.getD_eq_getElem?_getD]
  cases h1 : o.pools[p.toNat]? <;> cases h2 : r.pools[p.toNat]? <;> rw [h1, h2] at e <;> simp at e ⊢
  exact e
theorem REq.len {r o : Ra} (h : REq r o) : o.pools.length = r.pools.length := by
  have e := congrArg List.length h.ps
  simpa using e
theorem prizesE {r o : Ra} (h : REq r o) (p : Int) : prizesL (fuOf o p none 0) = prizesL (fuOf r p none 0) := prizesP (h.po p) (K_of_Q (h.rs p))
end Go.Proofs.YtnkmcoljijmgpaaGreat

set_option linter.unusedSimpArgs false
set_option linter.unusedVariables false
namespace Go.Proofs.YtnkmcoljijmgpaaGreat
open Go.RowKit Go.Shelf Go.Sort Go.Maps
attribute [local go_sem] Oper.semAt_some
/-- .. of which the first k have come in the place of c's -/
def mixed (c l : List Rc) (t k : Nat) : List Rc := (List.range l.length).map fun i => if i < k then l.getD ((i + t) % l.length) default else c.getD i default
theorem poolP {x y : Po} (h : poP x = poP y) : poolB x = poolB y := by
  obtain ⟨x0, x1, x2, x3, x4, x5, x6, x7⟩ := x
  obtain ⟨y0, y1, y2, y3, y4, y5, y6, y7⟩ := y
  unfold poP at h
  simp only [Prod.mk.injEq] at h
  obtain ⟨rfl, rfl, rfl, rfl, rfl, rfl⟩ := h
  rfl
theorem hasB_mem {l : List Rc} {b : Int} : hasB l b = true ↔ ∃ x ∈ l, x.bird = b := by
  rw [hasB_iff]
  constructor
  · rintro ⟨j, hj, e⟩
    refine ⟨_, List.getElem_mem hj, ?_⟩
    rw [List.getD_eq_getElem?_getD, List.getElem?_eq_getElem hj] at e
    exact e
  · rintro ⟨x, hx, e⟩
    obtain ⟨j, hj, rfl⟩ := List.mem_iff_getElem.1 hx
    refine ⟨j, hj, ?_⟩
    rw [List.getD_eq_getElem?_getD, List.getElem?_eq_getElem hj]
    exact e
theorem race_iff (r : Ra) : raceB r = true ↔ (r.pools.length ≤ 6 ∧ r.protests.length ≤ 4 ∧ ascB r.protests = true) ∧ (∀ x ∈ r.pools, poolB x = true) ∧ (r.racers.length ≤ 12 ∧ Uniq r.racers) ∧ (∀ x ∈ r.racers, racerB r.pools.length x = true) ∧ ∀ k, k < r.protests.length → hasB r.racers (r.protests.getD k 0) = true := by
  constructor
  · intro h
    have hu := uniq_of (race_parts h)
    have hr : ∀ x ∈ r.racers, racerB r.pools.length x = true := fun x hx => racer_parts h hx
    unfold raceB at h
    simp only [Bool.and_eq_true, decide_eq_true_eq] at h
    obtain ⟨h1, h2, _, h4, h5, h6⟩ := h
    refine ⟨⟨h1, h4, h5⟩, fun x hx => ?_, hu, hr, allU_iff.1 h6⟩
    obtain ⟨j, hj, rfl⟩ := List.mem_iff_getElem.1 hx
    have := allU_iff.1 h2 j hj
    rwa [List.getD_eq_getElem?_getD, List.getElem?_eq_getElem hj] at this
  · rintro ⟨⟨h1, h2, h3⟩, h4, ⟨h5, h6⟩, h7, h8⟩
    unfold raceB racersB
    rw [decide_eq_true h1, decide_eq_true h2, decide_eq_true h5, h3, allU_iff.2 h8]
    have a : allU (fun i => poolB (r.pools.getD i default)) r.pools.length = true := allU_iff.2 fun k hk => by
      rw [List.getD_eq_getElem?_getD, List.getElem?_eq_getElem hk]
      exact h4 _ (List.getElem_mem hk)
    have b : allU (fun i => !hasB (r.racers.take i) (r.racers.getD i default).bird && racerB r.pools.length (r.racers.getD i default)) r.racers.length = true := allU_iff.2 fun k hk => by
      rw [List.getD_eq_getElem?_getD, List.getElem?_eq_getElem hk]
      have c : hasB (r.racers.take k) r.racers[k].bird = false := by
        rw [← Bool.not_eq_true, hasB_mem]
        rintro ⟨x, hx, e⟩
        obtain ⟨j, hj, rfl⟩ := List.mem_iff_getElem.1 hx
        rw [List.length_take] at hj
        rw [List.getElem_take] at e
        exact List.pairwise_iff_getElem.1 h6 j k (by omega) hk (by omega) e
      show (!hasB (r.racers.take k) r.racers[k].bird && racerB r.pools.length r.racers[k]) = true
      rw [c, h7 _ (List.getElem_mem hk)]
      rfl
    rw [a, b]
    rfl
end Go.Proofs.YtnkmcoljijmgpaaGreat

set_option linter.unusedSimpArgs false
set_option linter.unusedVariables false
namespace Go.Proofs.YtnkmcoljijmgpaaGreat
open Go.RowKit Go.Shelf Go.Sort Go.Maps
attribute [local go_sem] Oper.semAt_some
theorem own_Fr {R : Nat → Prop} {X Y : World} {b N z : Nat} {e : TypeId} {v : Value} {xs : List Value} (h : X.ownsRow b e z v N xs) (hF : Fr R X Y) (hne : ∀ g, v.ownBlock = some g → ¬ R g) : Y.ownsRow b e z v N xs := by
  refine ⟨h.1, ?_⟩
  rcases h.2 with hn | ⟨g', cap, cur, rfl, hb, hg, rest⟩
  · exact .inl hn
  · exact .inr ⟨g', cap, cur, rfl, hb, (hF.block g' (Array.getElem?_eq_some_iff.1 hg).1 (hne g' rfl)).trans hg, rest⟩
theorem hasB_Q {l l' : List Rc} (h : l.map rcQ = l'.map rcQ) (b : Int) : hasB l b = hasB l' b := by
  have a : ∀ {l l' : List Rc}, l.map rcQ = l'.map rcQ → hasB l b = true → hasB l' b = true := fun {l l'} h hx => by
    obtain ⟨x, hx, e⟩ := hasB_mem.1 hx
    have hm : rcQ x ∈ l'.map rcQ := by
      rw [← h]
      exact List.mem_map.2 ⟨x, hx, rfl⟩
    obtain ⟨y, hy, e2⟩ := List.mem_map.1 hm
    refine hasB_mem.2 ⟨y, hy, ?_⟩
    have : y.bird = x.bird := congrArg Prod.fst e2
    rw [this, e]
  rw [Bool.eq_iff_iff]
  exact ⟨a h, a h.symm⟩
theorem qE_E {r o : Ra} (h : REq r o) (hr : raceB r = true) (ho : raceB o = true) (p : Int) (bs : List Int) : qE o p bs = qE r p bs := by
  unfold qE
  rw [if_pos hr, if_pos ho, h.len]
  have e : (fun i => hasB (runners o p) (bs.getD i 0)) = fun i => hasB (runners r p) (bs.getD i 0) := funext fun i => hasB_Q (h.rs p) _
  rw [e]
end Go.Proofs.YtnkmcoljijmgpaaGreat

set_option linter.unusedSimpArgs false
set_option linter.unusedVariables false
namespace Go.Proofs.YtnkmcoljijmgpaaGreat
open Go.RowKit Go.Shelf Go.Sort Go.Maps
attribute [local go_sem] Oper.semAt_some
theorem wonAt_mem {ps : List (Int × Int)} (hd : ps.Pairwise fun a b => a.1 ≠ b.1) {q : Int × Int} (hq : q ∈ ps) : wonAt ps q.1 = q.2 := by
  unfold wonAt
  cases hf : ps.find? fun p => p.1 == q.1 with
  | none =>
    have := List.find?_eq_none.1 hf q hq
    simp at this
  | some p =>
    have h1 := List.find?_some hf
    have h2 := List.mem_of_find?_eq_some hf
    have h3 : p.1 = q.1 := by simpa using h1
    show p.2 = q.2
    obtain ⟨i, hi, rfl⟩ := List.mem_iff_getElem.1 h2
    obtain ⟨j, hj, rfl⟩ := List.mem_iff_getElem.1 hq
    have h4 := List.pairwise_iff_getElem.1 hd
    rcases Nat.lt_trichotomy i j with h | h | h
    · exact absurd h3 (h4 i j hi hj h)
    · subst h; rfl
    · exact absurd h3.symm (h4 j i hj hi h)
end Go.Proofs.YtnkmcoljijmgpaaGreat

set_option linter.unusedSimpArgs false
set_option linter.unusedVariables false
namespace Go.Proofs.YtnkmcoljijmgpaaGreat
open Go.RowKit Go.Shelf Go.Sort Go.Maps
attribute [local go_sem] Oper.semAt_some
theorem skip0 {first : Bool} {x : Rc} : skipB first [] x = false ↔ x.day ≠ 0 ∧ (first = true → x.day = 1) := by
  have e : inL [] x.bird = false := rfl
  unfold skipB
  rw [e]
  by_cases h0 : x.day = 0 <;> by_cases h1 : x.day = 1 <;> cases first <;> simp [h0, h1]
theorem grp_pre (l : List Rc) (y : Rc) : ∀ k, k ≤ l.length → grpTo (l ++ [y]) k = grpTo l k
  | 0, _ => rfl
  | k + 1, hk => by
    have ih := grp_pre l y k (by omega)
    have a : ∀ i, i < l.length → (l ++ [y]).getD i default = l.getD i default := fun i hi => by
      rw [List.getD_eq_getElem?_getD, List.getD_eq_getElem?_getD, List.getElem?_append_left hi]
    have hs : sameB (l ++ [y]) k = sameB l k := by
      unfold sameB befD
      rw [a k (by omega), a (k - 1) (by omega)]
    unfold grpTo
    rw [hs, ih, a k (by omega)]
theorem grp_snoc {l : List Rc} {y : Rc} (hs : sameB (l ++ [y]) l.length = false) : grpTo (l ++ [y]) (l ++ [y]).length = grpTo l l.length ++ [[y.bird]] := by
  rw [List.length_append, List.length_singleton]
  have e : (l ++ [y]).getD l.length default = y := by
    rw [List.getD_eq_getElem?_getD, List.getElem?_append_right (Nat.le_refl _), Nat.sub_self]
    rfl
  conv => lhs; unfold grpTo
  rw [if_neg (by rw [hs]; decide), addLast_app, grp_pre l y _ (Nat.le_refl _), e]
  rfl
theorem wonAt_snoc {ps : List (Int × Int)} {b c x : Int} (h : x ≠ b) : wonAt (ps ++ [(b, c)]) x = wonAt ps x := by
  unfold wonAt
  rw [List.find?_append]
  have e : ([(b, c)] : List (Int × Int)).find? (fun p => p.1 == x) = none := by
    rw [List.find?_eq_none]
    intro p hp
    rw [List.mem_singleton.1 hp]
    simpa using fun e => h e.symm
  rw [e]
  simp
theorem wonAt_none {ps : List (Int × Int)} {b : Int} (h : ∀ p ∈ ps, p.1 ≠ b) : wonAt ps b = 0 := by
  unfold wonAt
  have e : ps.find? (fun p => p.1 == b) = none := by
    rw [List.find?_eq_none]
    intro p hp
    simpa using h p hp
  rw [e]
end Go.Proofs.YtnkmcoljijmgpaaGreat

set_option linter.unusedSimpArgs false
set_option linter.unusedVariables false
namespace Go.Proofs.YtnkmcoljijmgpaaGreat
open Go.RowKit Go.Shelf Go.Sort Go.Maps
attribute [local go_sem] Oper.semAt_some
theorem grp_snoc2 {l : List Rc} {y : Rc} (hs : sameB (l ++ [y]) l.length = true) : grpTo (l ++ [y]) (l ++ [y]).length = addLast (grpTo l l.length) y.bird := by
  rw [List.length_append, List.length_singleton]
  have e : (l ++ [y]).getD l.length default = y := by
    rw [List.getD_eq_getElem?_getD, List.getElem?_append_right (Nat.le_refl _), Nat.sub_self]
    rfl
  conv => lhs; unfold grpTo
  rw [if_pos hs, grp_pre l y _ (Nat.le_refl _), e]
/-- day and rank -/
def keyR (x : Rc) : Int × Int := (x.day, x.rank)
theorem sameB_snoc {l : List Rc} {y z : Rc} : sameB ((l ++ [z]) ++ [y]) (l ++ [z]).length = decide (keyR y = keyR z) := by
  have e : ((l ++ [z]) ++ [y]).getD (l ++ [z]).length default = y := by
    rw [List.getD_eq_getElem?_getD, List.getElem?_append_right (Nat.le_refl _), Nat.sub_self]
    rfl
  have e2 : ((l ++ [z]) ++ [y]).getD ((l ++ [z]).length - 1) default = z := by
    rw [List.length_append, List.length_singleton, Nat.add_sub_cancel, List.getD_eq_getElem?_getD, List.getElem?_append_left (by simp), List.getElem?_append_right (Nat.le_refl _), Nat.sub_self]
    rfl
  unfold sameB befD keyR
  rw [if_neg (by simp), e, e2]
  simp [Prod.ext_iff]
theorem sameB_first {y : Rc} (h : y.day ≠ 0) : sameB ([] ++ [y]) ([] : List Rc).length = false := by
  unfold sameB befD
  simp [h]
theorem grp_run {P : List Rc} {s : Int × Int} {gs : List (List Int)} : ∀ (S S0 : List Rc), S0 ≠ [] → (∀ x ∈ S0, keyR x = s) → (∀ x ∈ S, keyR x = s) → grpTo (P ++ S0) (P ++ S0).length = gs ++ [S0.map Rc.bird] → grpTo (P ++ (S0 ++ S)) (P ++ (S0 ++ S)).length = gs ++ [(S0 ++ S).map Rc.bird]
  | [], S0, _, _, _, h => by rw [List.append_nil]; exact h
  | y :: S, S0, h0, h1, h2, h => by
    obtain ⟨T, z, rfl⟩ : ∃ T z, S0 = T ++ [z] := ⟨S0.dropLast, S0.getLast h0, (List.dropLast_concat_getLast h0).symm⟩
    have e : (T ++ [z]) ++ y :: S = ((T ++ [z]) ++ [y]) ++ S := by simp
    rw [e]
    refine grp_run S ((T ++ [z]) ++ [y]) (by simp) (fun x hx => ?_) (fun x hx => h2 x (List.mem_cons_of_mem _ hx)) ?_
    · rcases List.mem_append.1 hx with hx | hx
      · exact h1 x hx
      · rw [List.mem_singleton.1 hx]; exact h2 y (List.mem_cons_self ..)
    · have hs : sameB ((P ++ (T ++ [z])) ++ [y]) (P ++ (T ++ [z])).length = true := by
        rw [← List.append_assoc, sameB_snoc, h1 z (by simp), h2 y (List.mem_cons_self ..)]
        simp
      rw [← List.append_assoc, grp_snoc2 hs, h, addLast_app]
      simp
theorem grp_seg {P S : List Rc} {s : Int × Int} (hS : ∀ x ∈ S, keyR x = s) (hP : ∀ x ∈ P, keyR x ≠ s) (h0 : s.1 ≠ 0) : grpTo (P ++ S) (P ++ S).length = grpTo P P.length ++ (if (S.map Rc.bird).isEmpty then [] else [S.map Rc.bird]) := by
  cases S with
  | nil => simp
  | cons y S =>
    have hy := hS y (List.mem_cons_self ..)
    have hs : sameB (P ++ [y]) P.length = false := by
      rcases List.eq_nil_or_concat P with rfl | ⟨T, z, e⟩
      · refine sameB_first ?_
        rw [← hy] at h0
        exact h0
      · obtain rfl : P = T ++ [z] := by simpa using e
        rw [sameB_snoc, decide_eq_false_iff_not, hy]
        exact fun e => hP z (by simp) e.symm
    have h := grp_run (P := P) (s := s) (gs := grpTo P P.length) S [y] (by simp) (fun x hx => by rw [List.mem_singleton.1 hx]; exact hy) (fun x hx => hS x (List.mem_cons_of_mem _ hx)) (by rw [grp_snoc hs]; rfl)
    have e : [y] ++ S = y :: S := rfl
    rw [e] at h
    rw [h]
    simp
/-- the groups of a row of segments -/
theorem grp_segs : ∀ (ks : List (Int × Int)) (F : Int × Int → List Rc) (P : List Rc), ks.Nodup → (∀ s ∈ ks, s.1 ≠ 0) → (∀ s ∈ ks, ∀ x ∈ F s, keyR x = s) → (∀ x ∈ P, keyR x ∉ ks) →
    grpTo (P ++ (ks.map F).flatten) (P ++ (ks.map F).flatten).length = grpTo P P.length ++ (ks.map fun s => (F s).map Rc.bird).filter fun g => !g.isEmpty
  | [], F, P, _, _, _, _ => by simp
  | s :: ks, F, P, hn, h0, hF, hP => by
    rw [List.nodup_cons] at hn
    have hs := h0 s (List.mem_cons_self ..)
    have hFs := hF s (List.mem_cons_self ..)
    have ih := grp_segs ks F (P ++ F s) hn.2 (fun t ht => h0 t (List.mem_cons_of_mem _ ht)) (fun t ht => hF t (List.mem_cons_of_mem _ ht)) (fun x hx => by
      rcases List.mem_append.1 hx with hx | hx
      · exact fun h => hP x hx (List.mem_cons_of_mem _ h)
      · rw [hFs x hx]; exact hn.1)
    have h1 := grp_seg (P := P) hFs (fun x hx e => hP x hx (by rw [e]; exact List.mem_cons_self ..)) hs
    rw [List.map_cons, List.flatten_cons, ← List.append_assoc, ih, h1, List.map_cons, List.filter_cons, List.append_assoc]
    cases hb : ((F s).map Rc.bird).isEmpty <;> simp
theorem split_sorted {R : Rc → Rc → Prop} {p : Rc → Bool} (hp : ∀ x y, R x y → p y = true → p x = true) : ∀ T : List Rc, T.Pairwise R → T = T.filter p ++ T.filter fun x => !p x
  | [], _ => rfl
  | a :: T, h => by
    rw [List.pairwise_cons] at h
    have ih := split_sorted hp T h.2
    cases ha : p a
    · have hno : T.filter p = [] := List.filter_eq_nil_iff.2 (fun x hx hpx => by rw [hp a x (h.1 x hx) hpx] at ha; cases ha)
      have hall : T.filter (fun x => !p x) = T := List.filter_eq_self.2 (fun x hx => by
        cases hx2 : p x
        · rfl
        · exact absurd hx2 (List.filter_eq_nil_iff.1 hno x hx))
      rw [List.filter_cons_of_neg (by simp [ha]), List.filter_cons_of_pos (by simp [ha]), hno, hall]
      rfl
    · rw [List.filter_cons_of_pos ha, List.filter_cons_of_neg (by simp [ha]), List.cons_append, ← ih]
def ltK (a b : Int × Int) : Prop := a.1 < b.1 ∨ (a.1 = b.1 ∧ a.2 < b.2)
def slotT (T : List Rc) (s : Int × Int) : List Rc := T.filter fun x => decide (keyR x = s)
theorem segs_all : ∀ (ks : List (Int × Int)) (T : List Rc), ks.Pairwise ltK → T.Pairwise (fun x y => lexL y x = false) → (∀ x ∈ T, keyR x ∈ ks) → T = (ks.map (slotT T)).flatten
  | [], T, _, _, h => by
    cases T with
    | nil => rfl
    | cons a T => exact absurd (h a (List.mem_cons_self ..)) (by simp)
  | s :: ks, T, hk, hT, h => by
    rw [List.pairwise_cons] at hk
    have hsp := split_sorted (p := fun x => decide (keyR x = s)) (R := fun x y => x ∈ T ∧ y ∈ T ∧ lexL y x = false) (fun x y hxy hy => by
      simp only [decide_eq_true_eq] at hy ⊢
      rcases List.mem_cons.1 (h x hxy.1) with h1 | h1
      · exact h1
      · have h2 := hk.1 _ h1
        have h3 := hxy.2.2
        unfold lexL at h3
        unfold ltK keyR at h2
        unfold keyR at hy
        rw [← hy] at h2
        simp only [decide_eq_false_iff_not] at h3
        dsimp only at h2
        omega) T (by
      rw [List.pairwise_iff_getElem] at hT ⊢
      exact fun i j hi hj hij => ⟨List.getElem_mem hi, List.getElem_mem hj, hT i j hi hj hij⟩)
    have ih := segs_all ks (T.filter fun x => !decide (keyR x = s)) hk.2 (hT.sublist List.filter_sublist) (fun x hx => by
      obtain ⟨h1, h2⟩ := List.mem_filter.1 hx
      rcases List.mem_cons.1 (h x h1) with h3 | h3
      · simp [h3] at h2
      · exact h3)
    have e : ks.map (slotT (T.filter fun x => !decide (keyR x = s))) = ks.map (slotT T) := List.map_congr_left (fun t ht => by
      unfold slotT
      rw [List.filter_filter]
      refine List.filter_congr (fun x _ => ?_)
      by_cases h1 : keyR x = t
      · have : keyR x ≠ s := fun e => by
          have h2 := hk.1 t ht
          rw [← h1, e] at h2
          unfold ltK at h2
          omega
        simp [h1]
        rw [← h1]
        exact this
      · simp [h1])
    rw [e] at ih
    rw [List.map_cons, List.flatten_cons, ← ih]
    exact hsp
/-- the t-th day and rank of the reference -/
def keyT (t : Nat) : Int × Int := ((t / 12 + 1 : Nat), (t % 12 + 1 : Nat))
def keysT : List (Int × Int) := (List.range 24).map keyT
theorem keysT_lt : keysT.Pairwise ltK := by
  unfold keysT
  rw [List.pairwise_map, List.pairwise_iff_getElem]
  intro i j hi hj hij
  simp only [List.getElem_range, List.length_range] at *
  unfold ltK keyT
  dsimp only
  omega
theorem keysT_mem {d r : Int} (hd : d = 1 ∨ d = 2) (hr : 1 ≤ r ∧ r ≤ 12) : (d, r) ∈ keysT := by
  refine List.mem_map.2 ⟨((d - 1) * 12 + (r - 1)).toNat, List.mem_range.2 (by omega), ?_⟩
  unfold keyT
  rw [Prod.ext_iff]
  dsimp only
  omega
/-- the birds of one day and rank that can take places -/
def tieS (first : Bool) (rs : List Rc) (s : Int × Int) : List Int := (rs.filter fun x => decide (x.day = s.1 ∧ x.rank = s.2) && (decide (s.1 = 1) || !first)).map Rc.bird
def outT (first : Bool) (rs : List Rc) (t : Nat) : List (List Int) := ((List.range t).map fun j => tieS first rs (keyT j)).filter fun g => !g.isEmpty
theorem outT_succ (first : Bool) (rs : List Rc) (t : Nat) : outT first rs (t + 1) = if (tieS first rs (keyT t)).isEmpty = true then outT first rs t else outT first rs t ++ [tieS first rs (keyT t)] := by
  unfold outT
  rw [List.range_succ, List.map_append, List.filter_append, List.map_singleton]
  cases h : (tieS first rs (keyT t)).isEmpty <;> simp [List.filter_cons, h]
theorem slot_eq {f : Fu} (hu : Uniq f.rs) (hs : f.rs.Pairwise fun x y => x.bird ≤ y.bird) {s : Int × Int} (h1 : s.1 = 1 ∨ s.1 = 2) : (slotT (takersL f []) s).map Rc.bird = tieS f.po.first f.rs s := by
  unfold tieS
  congr 1
  have e : (f.rs.filter fun x => decide (x.day = s.1 ∧ x.rank = s.2) && (decide (s.1 = 1) || !f.po.first)) = (f.rs.filter fun x => !skipB f.po.first [] x).filter fun x => decide (keyR x = s) := by
    rw [List.filter_filter]
    refine List.filter_congr (fun x _ => ?_)
    by_cases hk : keyR x = s
    · have hk2 : x.day = s.1 ∧ x.rank = s.2 := by rw [← hk]; exact ⟨rfl, rfl⟩
      rw [Bool.eq_iff_iff]
      simp only [hk, hk2, Bool.and_eq_true, decide_eq_true_eq, Bool.or_eq_true, Bool.not_eq_true', true_and, and_true, and_self]
      rw [skip0, hk2.1]
      constructor
      · rintro (a | a)
        · exact ⟨by omega, fun _ => a⟩
        · exact ⟨by omega, fun b => by rw [a] at b; cases b⟩
      · rintro ⟨_, a⟩
        cases hf : f.po.first
        · exact .inr rfl
        · exact .inl (a hf)
    · have hk2 : ¬ (x.day = s.1 ∧ x.rank = s.2) := fun e => hk (by unfold keyR; rw [e.1, e.2])
      simp [hk, hk2]
  rw [e]
  have hu2 : Uniq ((f.rs.filter fun x => !skipB f.po.first [] x).filter fun x => decide (keyR x = s)) := uniq_filter (uniq_filter hu _) _
  have hp : (slotT (takersL f []) s).Perm ((f.rs.filter fun x => !skipB f.po.first [] x).filter fun x => decide (keyR x = s)) := (tks_perm _).filter _
  refine List.Perm.eq_of_pairwise (le := fun x y : Rc => x.bird ≤ y.bird) (fun a b ha hb g1 g2 => uniq_eq hu2 (hp.mem_iff.1 ha) hb (by omega)) ?_ ((hs.filter _).filter _) hp
  have hpw := tks_pw (f.rs.filter fun x => !skipB f.po.first [] x)
  have hq : (slotT (takersL f []) s).Pairwise fun x y => lexL y x = false := hpw.filter _
  rw [List.pairwise_iff_getElem] at hq ⊢
  intro i j hi hj hij
  have g := hq i j hi hj hij
  have k1 : keyR (slotT (takersL f []) s)[i] = s := by simpa using (List.mem_filter.1 (List.getElem_mem hi)).2
  have k2 : keyR (slotT (takersL f []) s)[j] = s := by simpa using (List.mem_filter.1 (List.getElem_mem hj)).2
  have k3 := k1.trans k2.symm
  unfold keyR at k3
  rw [Prod.ext_iff] at k3
  unfold lexL at g
  simp only [decide_eq_false_iff_not] at g
  dsimp only at k3
  omega
theorem order_eq {f : Fu} (hu : Uniq f.rs) (hs : f.rs.Pairwise fun x y => x.bird ≤ y.bird) (hd : ∀ x ∈ f.rs, x.day = 0 ∨ ((x.day = 1 ∨ x.day = 2) ∧ 1 ≤ x.rank ∧ x.rank ≤ 12)) : orderL f [] = outT f.po.first f.rs 24 := by
  have hseg := segs_all keysT (takersL f []) keysT_lt (tks_pw _) (fun x hx => by
    obtain ⟨h1, h2⟩ := takers_mem.1 hx
    rcases hd x h1 with h3 | ⟨h3, h4⟩
    · exact absurd h3 (skip0.1 h2).1
    · exact keysT_mem h3 h4)
  have hnd : keysT.Nodup := keysT_lt.imp (fun {a b} h e => by subst e; unfold ltK at h; omega)
  have hs1 : ∀ s ∈ keysT, s.1 = 1 ∨ s.1 = 2 := fun s hm => by
    obtain ⟨t, ht, rfl⟩ := List.mem_map.1 hm
    have := List.mem_range.1 ht
    unfold keyT
    dsimp only
    omega
  have h := grp_segs keysT (slotT (takersL f [])) [] hnd (fun s hm => by have := hs1 s hm; omega) (fun s _ x hx => by simpa using (List.mem_filter.1 hx).2) (fun x hx => by simp at hx)
  rw [List.nil_append, ← hseg] at h
  unfold orderL
  rw [h]
  unfold outT
  show [] ++ _ = _
  rw [List.nil_append]
  congr 1
  unfold keysT
  rw [List.map_map]
  refine List.map_congr_left (fun t ht => ?_)
  exact slot_eq hu hs (hs1 _ (List.mem_map_of_mem ht))
end Go.Proofs.YtnkmcoljijmgpaaGreat

set_option linter.unusedSimpArgs false
set_option linter.unusedVariables false
namespace Go.Proofs.YtnkmcoljijmgpaaGreat
open Go.RowKit Go.Shelf Go.Sort Go.Maps
attribute [local go_sem] Oper.semAt_some
/-- the prize of a bird, as the law looks for it -/
def pzP (l : List Pz) (b : Int) : Pz := (l.find? fun x => x.bird == b).getD ⟨0, 0, 0⟩
end Go.Proofs.YtnkmcoljijmgpaaGreat

set_option linter.unusedSimpArgs false
set_option linter.unusedVariables false
namespace Go.Proofs.YtnkmcoljijmgpaaGreat
open Go.RowKit Go.Shelf Go.Sort Go.Maps
attribute [local go_sem] Oper.semAt_some
/-- a row of rows of numbers, to be read -/
def GrpAt (W : World) (va : Option Addr) (gs : List (List Int)) : Prop := ∀ j, j < gs.length → ∃ go ga gc, va = some ⟨go, 0, none⟩ ∧ go < W.heap.size ∧ W.cell? ⟨go, j, none⟩ = some (.slice ga (gs.getD j []).length gc) ∧ IntsAt W ga (gs.getD j [])
theorem GrpAt.keep {W W' : World} {va : Option Addr} {gs : List (List Int)} (h : GrpAt W va gs) (hG : G W W') : GrpAt W' va gs := fun j hj => by
  obtain ⟨go, ga, gc, h1, h2, h3, h4⟩ := h j hj
  exact ⟨go, ga, gc, h1, Nat.lt_of_lt_of_le h2 hG.size, ((bcellB hG).1 go _ h2).trans h3, h4.below hG⟩
theorem grp_read {W : World} {B : Nat} {v : Value} {gs : List (List Int)} {cs : List Value} {Bl : Nat} (h : OrdAt W B v gs cs Bl) : ∃ va vc, v = .slice va gs.length vc ∧ GrpAt W va gs := by
  by_cases h0 : gs.length = 0
  · obtain ⟨va, vc, e⟩ : ∃ va vc, v = .slice va gs.length vc := by
      rcases h.out.2 with ⟨rfl, h1⟩ | ⟨g, cap, cur, rfl, _⟩
      · exact ⟨none, 0, by rw [h0]⟩
      · exact ⟨_, _, rfl⟩
    exact ⟨va, vc, e, fun j hj => by omega⟩
  · obtain ⟨go, ocap, ocur, hov, hbv, hlv, htv⟩ := own_some h.out (by omega)
    refine ⟨_, _, hov, fun j hj => ?_⟩
    obtain ⟨ga, gc, hcs, hig⟩ := own_ints (h.inn j hj)
    have hcl := h.len
    exact ⟨go, ga, gc, rfl, hlv, take_cell hbv htv (k := j) (by omega) (by rw [← hcs]; simp [List.getD_eq_getElem?_getD, show j < cs.length by omega]), hig⟩
/-- what the law looks at: groups, prizes, places -/
structure TieF (AL : List Pz) (GS : List (List Int)) (PL : List Int) (wn : Nat → Nat → Int) : Prop where
  l1 : GS.length ≤ AL.length
  l2 : PL.length ≤ AL.length + 8
  l3 : AL.length ≤ 12
  ne : ∀ j, j < GS.length → 0 < (GS.getD j []).length ∧ (GS.getD j []).length ≤ 12
  any : ∀ j k, j < GS.length → k < (GS.getD j []).length → (AL.any fun x => x.bird == (GS.getD j []).getD k 0) = true
  won : ∀ j k, j < GS.length → k < (GS.getD j []).length → (pzP AL ((GS.getD j []).getD k 0)).won = wn j k
  bd : ∀ j k, j < GS.length → k < (GS.getD j []).length → 0 ≤ wn j k ∧ wn j k ≤ 1200000
  lo : ∀ j k, j < GS.length → k < (GS.getD j []).length → wn j k ≤ wn j 0 ∧ wn j 0 - 1 ≤ wn j k
  st : ∀ j k, j < GS.length → k + 1 < (GS.getD j []).length → (GS.getD j []).getD k 0 < (GS.getD j []).getD (k + 1) 0 ∧ wn j (k + 1) ≤ wn j k
  fa : (∀ i, i + 1 < PL.length → PL.getD (i + 1) 0 ≤ PL.getD i 0) → ∀ j k k', j + 1 < GS.length → k < (GS.getD j []).length → k' < (GS.getD (j + 1) []).length → wn (j + 1) k' ≤ wn j k + 1
end Go.Proofs.YtnkmcoljijmgpaaGreat

set_option linter.unusedSimpArgs false
set_option linter.unusedVariables false
namespace Go.Proofs.YtnkmcoljijmgpaaGreat
open Go.RowKit Go.Shelf Go.Sort Go.Maps
attribute [local go_sem] Oper.semAt_some
/-- the first ones of a case -/
def firstL (f : Fu) (st : List Int) : List Int := (orderL f st).getD 0 []
/-- in how many of some cases a bird is among the first ones -/
def cntI (f : Fu) (sts : List (List Int)) (b : Int) : Int := ((sts.filter fun st => inL (firstL f st) b).length : Nat)
/-- the counts behind the cases pre, and the first k birds of another one -/
structure CtS (f : Fu) (pre : List (List Int)) (g : List Int) (k : Nat) (ps : List Pu) : Prop where
  uniq : UniqP ps
  cnt : ∀ b, (atP ps b).staked = cntI f pre b + (if inL (g.take k) b = true then 1 else 0)
  pos : ∀ q ∈ ps, 1 ≤ q.staked ∧ q.staked ≤ 1000
  own : ∀ q ∈ ps, ∃ x ∈ f.rs, x.bird = q.owner
/-- what First says: S surely, M perhaps -/
structure FiOk (f : Fu) (sts : List (List Int)) (S M : List Int) : Prop where
  sure : ∀ b, b ∈ S ↔ 0 < cntI f sts b ∧ cntI f sts b = sts.length
  maybe : ∀ b, b ∈ M ↔ 0 < cntI f sts b ∧ cntI f sts b ≠ sts.length
  asS : S.Pairwise (· < ·)
  asM : M.Pairwise (· < ·)
  len : S.length + M.length ≤ f.rs.length
end Go.Proofs.YtnkmcoljijmgpaaGreat

set_option linter.unusedSimpArgs false
set_option linter.unusedVariables false
namespace Go.Proofs.YtnkmcoljijmgpaaGreat
open Go.RowKit Go.Shelf Go.Sort Go.Maps
attribute [local go_sem] Oper.semAt_some
/-- what birds win together, if they are all whose pairs there are -/
theorem wonAt_sum : ∀ (bs : List Int) (ps : List (Int × Int)), bs.Nodup → (ps.Pairwise fun a b => a.1 ≠ b.1) → (∀ p ∈ ps, p.1 ∈ bs) → (bs.map (wonAt ps)).sum = sndS ps
  | [], ps, _, _, h => by
    cases ps with
    | nil => rfl
    | cons p ps => exact absurd (h p (List.mem_cons_self ..)) (by simp)
  | b :: bs, ps, hn, hd, h => by
    rw [List.nodup_cons] at hn
    rw [List.map_cons, List.sum_cons]
    by_cases hb : ∃ q ∈ ps, q.1 = b
    · obtain ⟨q, hq, rfl⟩ := hb
      rw [wonAt_mem hd hq, filter_sum hd hq]
      have ih := wonAt_sum bs (ps.filter fun p => p.1 != q.1) hn.2 (hd.sublist List.filter_sublist) (fun p hp => by
        obtain ⟨h1, h2⟩ := List.mem_filter.1 hp
        rcases List.mem_cons.1 (h p h1) with e | e
        · simp [e] at h2
        · exact e)
      have e : bs.map (wonAt ps) = bs.map (wonAt (ps.filter fun p => p.1 != q.1)) := List.map_congr_left fun x hx => by
        have hne : x ≠ q.1 := fun e => hn.1 (e ▸ hx)
        unfold wonAt
        rw [List.find?_filter]
        have e2 : (fun p : Int × Int => p.1 == x) = fun p => decide ((p.1 != q.1) = true ∧ (p.1 == x) = true) := funext fun p => by
          by_cases e : p.1 = x
          · subst e; simp [hne]
          · simp [e]
        rw [e2]
      rw [e, ih]
    · have h0 : wonAt ps b = 0 := wonAt_none fun p hp e => hb ⟨p, hp, e⟩
      rw [h0, wonAt_sum bs ps hn.2 hd (fun p hp => by
        rcases List.mem_cons.1 (h p hp) with e | e
        · exact absurd ⟨p, hp, e⟩ hb
        · exact e)]
      omega
theorem prizesL_won (f : Fu) : (prizesL f).map Pz.won = (f.rs.map Rc.bird).map (wonAt (wonL f [])) := by
  apply List.ext_getElem?
  intro i
  unfold prizesL
  by_cases h : i < f.rs.length <;> simp [h, List.getD_eq_getElem?_getD]
theorem cent_won {f : Fu} (h : WonFacts f []) (hu : Uniq f.rs) : ((prizesL f).map Pz.won).sum = sndS (wonL f []) := by
  rw [prizesL_won]
  refine wonAt_sum _ _ ?_ h.dist fun p hp => ?_
  · unfold List.Nodup
    rw [List.pairwise_map]
    exact hu
  · have h1 : p.1 ∈ (wonL f []).map Prod.fst := List.mem_map.2 ⟨p, hp, rfl⟩
    rw [h.keys, orderL_flat] at h1
    obtain ⟨z, hz, e⟩ := List.mem_map.1 h1
    exact List.mem_map.2 ⟨z, (takers_mem.1 hz).1, e⟩
/-- what holds of the purses: an owner once, all owners of l, as many as at first -/
structure PuF (l : List Rc) (n : Nat) (ps : List Pu) : Prop where
  uniq : UniqP ps
  all : ∀ x ∈ l, (ps.any fun p => p.owner == x.owner) = true
  len : ps.length ≤ n
end Go.Proofs.YtnkmcoljijmgpaaGreat

set_option linter.unusedSimpArgs false
set_option linter.unusedVariables false
namespace Go.Proofs.YtnkmcoljijmgpaaGreat
open Go.RowKit Go.Shelf Go.Sort Go.Maps
attribute [local go_sem] Oper.semAt_some
theorem racerP {np : Nat} {x y : Rc} (h : rcP x = rcP y) : racerB np x = racerB np y := by
  obtain ⟨x0, x1, x2, x3, x4, x5, x6⟩ := x
  obtain ⟨y0, y1, y2, y3, y4, y5, y6⟩ := y
  unfold rcP at h
  simp only [Prod.mk.injEq] at h
  obtain ⟨rfl, rfl, rfl, rfl, rfl⟩ := h
  rfl
theorem uniqP_rc {l l' : List Rc} (h : l.map rcP = l'.map rcP) (hu : Uniq l) : Uniq l' := by
  have a : ∀ l : List Rc, Uniq l ↔ (l.map rcP).Pairwise fun q q' => q.1 ≠ q'.1 := fun l => by
    rw [List.pairwise_map]
    rfl
  rw [a, ← h, ← a]
  exact hu
theorem runnersP {l l' : List Rc} (h : l.map rcP = l'.map rcP) (p : Int) : (srt (l.filter fun x => inL x.pools p)).map rcP = (srt (l'.filter fun x => inL x.pools p)).map rcP := by
  have a : ∀ l : List Rc, (srt (l.filter fun x => inL x.pools p)).map rcP = ((l.map rcP).filter fun q => inL q.2.2.2.2 p).mergeSort fun a b => decide (a.1 ≤ b.1) := fun l => by
    unfold srt
    rw [List.map_mergeSort (f := rcP) (r := fun x y : Rc => decide (x.bird ≤ y.bird)) (s := fun a b : Int × Int × Int × Int × List Int => decide (a.1 ≤ b.1)) (fun a _ b _ => rfl), List.filter_map]
    rfl
  rw [a, a, h]
theorem mem_P {l l' : List Rc} (h : l.map rcP = l'.map rcP) {x : Rc} (hx : x ∈ l) : ∃ y ∈ l', rcP y = rcP x := by
  have hm : rcP x ∈ l'.map rcP := by
    rw [← h]
    exact List.mem_map.2 ⟨x, hx, rfl⟩
  exact List.mem_map.1 hm
/-- a race that says the same, of other blocks -/
theorem req_copy {r o : Ra} (hr : raceB r = true) (her : o.racers.map rcP = r.racers.map rcP) (hps : o.pools.map poP = r.pools.map poP) (hpr : o.protests = r.protests) : REq r o ∧ raceB o = true := by
  obtain ⟨⟨h1, h2, h3⟩, h4, ⟨h5, h6⟩, h7, h8⟩ := (race_iff r).1 hr
  have hl : o.pools.length = r.pools.length := by
    have e := congrArg List.length hps
    simpa using e
  have hlr : o.racers.length = r.racers.length := by
    have e := congrArg List.length her
    simpa using e
  have hq : ∀ l : List Rc, l.map rcQ = (l.map rcP).map (fun q => (q.1, q.2.1, q.2.2.1, q.2.2.2.1)) := fun l => by
    rw [List.map_map]
    rfl
  refine ⟨⟨hps, hpr, fun p => ?_, fun x => ?_⟩, (race_iff o).2 ⟨⟨by rw [hl]; exact h1, by rw [hpr]; exact h2, by rw [hpr]; exact h3⟩, fun x hx => ?_, ⟨by rw [hlr]; exact h5, uniqP_rc her.symm h6⟩, fun x hx => ?_, fun k hk => ?_⟩⟩
  · rw [hq, hq]
    unfold runners
    rw [runnersP her]
  · have a : ∀ {l l' : List Rc}, l.map rcP = l'.map rcP → (l.any fun y => y.owner == x) = true → (l'.any fun y => y.owner == x) = true := fun {l l'} h hh => by
      obtain ⟨y, hy, e⟩ := List.any_eq_true.1 hh
      obtain ⟨z, hz, e2⟩ := mem_P h hy
      refine List.any_eq_true.2 ⟨z, hz, ?_⟩
      have : z.owner = y.owner := congrArg (fun q => q.2.1) e2
      rw [this]
      exact e
    rw [Bool.eq_iff_iff]
    exact ⟨a her, a her.symm⟩
  · have hm : poP x ∈ r.pools.map poP := by
      rw [← hps]
      exact List.mem_map.2 ⟨x, hx, rfl⟩
    obtain ⟨y, hy, e⟩ := List.mem_map.1 hm
    rw [← poolP e]
    exact h4 y hy
  · obtain ⟨y, hy, e⟩ := mem_P her hx
    rw [hl, ← racerP e]
    exact h7 y hy
  · rw [hpr] at hk ⊢
    obtain ⟨y, hy, e⟩ := hasB_mem.1 (h8 k hk)
    obtain ⟨z, hz, e2⟩ := mem_P her.symm hy
    have : z.bird = y.bird := congrArg Prod.fst e2
    exact hasB_mem.2 ⟨z, hz, by rw [this, e]⟩
/-- the search for the bird: where it is, and the last rank of the second day, behind the first k racers -/
structure LAt (L : List Rc) (b : Int) (k : Nat) (at_ last : Int) : Prop where
  at1 : (at_ = -1 ∧ ∀ j, j < k → ¬ ((L.getD j default).bird = b ∧ (L.getD j default).day = 0)) ∨ ∃ q : Nat, at_ = q ∧ q < k ∧ (L.getD q default).bird = b ∧ (L.getD q default).day = 0
  l0 : 0 ≤ last
  l1 : last ≤ 12
  le : ∀ j, j < k → (L.getD j default).day = 2 → (L.getD j default).rank ≤ last
end Go.Proofs.YtnkmcoljijmgpaaGreat

set_option linter.unusedSimpArgs false
set_option linter.unusedVariables false
namespace Go.Proofs.YtnkmcoljijmgpaaGreat
open Go.RowKit Go.Shelf Go.Sort Go.Maps
attribute [local go_sem] Oper.semAt_some
/-! the cases -/
theorem orderP {f g : Fu} (hp : poP f.po = poP g.po) (hr : f.rs.map rcK = g.rs.map rcK) (st : List Int) : orderL f st = orderL g st := by
  have := orderK (KEq.of hp hr) st
  exact this
end Go.Proofs.YtnkmcoljijmgpaaGreat

