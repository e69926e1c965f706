import Derived.Test.YtnkmcoljijmgpaaGreatBx
import Derived.Test.YtnkmcoljijmgpaaGreatBz
set_option linter.unusedSimpArgs false
set_option linter.unusedVariables false
namespace Go.Proofs.YtnkmcoljijmgpaaGreat
open Go.RowKit Go.Shelf Go.Sort Go.Maps
attribute [local go_sem] Oper.semAt_some
theorem hasB_iff {l : List Rc} {b : Int} : hasB l b = true ↔ ∃ j, j < l.length ∧ (l.getD j default).bird = b := by
  unfold hasB anyU
  rw [List.any_eq_true]
  exact ⟨fun ⟨j, hj, e⟩ => ⟨j, List.mem_range.1 hj, by simpa using e⟩, fun ⟨j, hj, e⟩ => ⟨j, List.mem_range.2 hj, by simpa using e⟩⟩
theorem idxR_lt {l : List Rc} {b : Int} : (idxR l b < 0) ↔ hasB l b = false := by
  rcases first_or (p := fun j => (l.getD j default).bird = b) l.length with h | ⟨k, h1, h2, h3⟩
  · rw [idxR_none h]
    refine ⟨fun _ => ?_, fun _ => by decide⟩
    cases hh : hasB l b
    · rfl
    · obtain ⟨j, hj, e⟩ := hasB_iff.1 hh
      exact absurd e (h j hj)
  · rw [idxR_some h1 h2 h3, hasB_iff.2 ⟨k, h1, h2⟩]
    refine ⟨fun h => by omega, fun h => by cases h⟩
theorem takeD {α : Type} [Inhabited α] {l : List α} {k j : Nat} (hj : j < k) : (l.take k).getD j default = l.getD j default := by
  rw [List.getD_eq_getElem?_getD, List.getD_eq_getElem?_getD, List.getElem?_take_of_lt hj]
theorem idxR_self {l : List Rc} {k : Nat} (hk : k < l.length) : (idxR l (l.getD k default).bird = k) ↔ hasB (l.take k) (l.getD k default).bird = false := by
  rcases first_or (p := fun j => (l.getD j default).bird = (l.getD k default).bird) l.length with h | ⟨q, h1, h2, h3⟩
  · exact absurd rfl (h k hk)
  · have hqk : q ≤ k := by
      rcases Nat.lt_or_ge k q with h4 | h4
      · exact absurd rfl (h3 k h4)
      · exact h4
    rw [idxR_some h1 h2 h3]
    constructor
    · intro e
      have e2 : q = k := by omega
      subst e2
      cases hh : hasB (l.take q) (l.getD q default).bird
      · rfl
      · obtain ⟨j, hj, e⟩ := hasB_iff.1 hh
        rw [List.length_take] at hj
        rw [takeD (by omega)] at e
        exact absurd e (h3 j (by omega))
    · intro hh
      rcases Nat.lt_or_ge q k with h4 | h4
      · have : hasB (l.take k) (l.getD k default).bird = true := hasB_iff.2 ⟨q, by rw [List.length_take]; omega, by rw [takeD h4]; exact h2⟩
        rw [hh] at this
        cases this
      · omega
theorem race_no1 {r : Ra} (h : 12 < r.racers.length ∨ 6 < r.pools.length ∨ 4 < r.protests.length) : raceB r = false := by
  cases hr : raceB r
  · rfl
  · have h1 := (uniq_of (race_parts hr)).1
    have h2 := race_pools hr
    have h3 := race_np hr
    omega
theorem race_no2 {r : Ra} {k : Nat} (hk : k < r.racers.length) (h : racerB r.pools.length (r.racers.getD k default) = false ∨ ¬ idxR r.racers (r.racers.getD k default).bird = k) : raceB r = false := by
  cases hr : raceB r
  · rfl
  · have h1 := race_parts hr
    unfold racersB at h1
    simp only [Bool.and_eq_true] at h1
    have h2 := allU_iff.1 h1.2 k hk
    simp only [Bool.and_eq_true, Bool.not_eq_true'] at h2
    rcases h with h | h
    · rw [h] at h2; cases h2.2
    · exact absurd ((idxR_self hk).2 h2.1) h
theorem race_no3 {r : Ra} {k : Nat} (hk : k < r.pools.length) (h : poolB (r.pools.getD k default) = false) : raceB r = false := by
  cases hr : raceB r
  · rfl
  · unfold raceB at hr
    simp only [Bool.and_eq_true] at hr
    have h2 := allU_iff.1 hr.2.1 k hk
    rw [h] at h2
    cases h2
theorem race_no4 {r : Ra} {k : Nat} (hk : k < r.protests.length) (h : idxR r.racers (r.protests.getD k 0) < 0 ∨ (0 < k ∧ r.protests.getD k 0 ≤ r.protests.getD (k - 1) 0)) : raceB r = false := by
  cases hr : raceB r
  · rfl
  · unfold raceB at hr
    simp only [Bool.and_eq_true] at hr
    rcases h with h | h
    · have h2 := allU_iff.1 hr.2.2.2.2.2 k hk
      rw [idxR_lt.1 h] at h2
      cases h2
    · have h2 := allU_iff.1 hr.2.2.2.2.1 k hk
      simp only [Bool.or_eq_true, decide_eq_true_eq] at h2
      omega
theorem race_yes {r : Ra} (h1 : r.racers.length ≤ 12) (h2 : r.pools.length ≤ 6) (h3 : r.protests.length ≤ 4) (h4 : ∀ k, k < r.racers.length → racerB r.pools.length (r.racers.getD k default) = true ∧ idxR r.racers (r.racers.getD k default).bird = k) (h5 : ∀ k, k < r.pools.length → poolB (r.pools.getD k default) = true) (h6 : ∀ k, k < r.protests.length → ¬ idxR r.racers (r.protests.getD k 0) < 0 ∧ ¬ (0 < k ∧ r.protests.getD k 0 ≤ r.protests.getD (k - 1) 0)) : raceB r = true := by
  unfold raceB racersB
  rw [decide_eq_true h1, decide_eq_true h2, decide_eq_true h3, allU_iff.2 h5]
  have a : allU (fun i => !hasB (r.racers.take i) (r.racers.getD i default).bird && racerB r.pools.length (r.racers.getD i default)) r.racers.length = true := allU_iff.2 fun k hk => by
    obtain ⟨b, c⟩ := h4 k hk
    rw [b, (idxR_self hk).1 c]
    rfl
  have b : ascB r.protests = true := allU_iff.2 fun k hk => by
    have := (h6 k hk).2
    simp only [Bool.or_eq_true, decide_eq_true_eq]
    omega
  have c : allU (fun i => hasB r.racers (r.protests.getD i 0)) r.protests.length = true := allU_iff.2 fun k hk => by
    cases hh : hasB r.racers (r.protests.getD k 0)
    · exact absurd (idxR_lt.2 hh) (h6 k hk).1
    · rfl
  rw [a, b, c]
  rfl
set_option maxRecDepth 100000 in
set_option maxHeartbeats 8000000 in
theorem refCheck8_any (r : Ra) (w : World) (h : r.At w) : Calls Tryz.prog 14 #[.agg r.v] w fun e w' => e = .returned (.int .i64 (chk8 r)) ∧ G w w' := by
  have HF : Hid (∀ W', raceB r = false → G w W' → ((Ending.returned (.int .i64 80) = .returned (.int .i64 (chk8 r))) ∧ G w W')) := fun W' a b => ⟨by unfold chk8; rw [a]; rfl, b⟩
  have HT : Hid (∀ W', raceB r = true → G w W' → ((Ending.returned (.int .i64 0) = .returned (.int .i64 (chk8 r))) ∧ G w W')) := fun W' a b => ⟨by unfold chk8; rw [a]; rfl, b⟩
  have HN1 := Lib.hid (fun hh => race_no1 (r := r) hh)
  have HN2 := Lib.hid (fun k hk hh => race_no2 (r := r) (k := k) hk hh)
  have HN3 := Lib.hid (fun k hk hh => race_no3 (r := r) (k := k) hk hh)
  have HN4 := Lib.hid (fun k hk hh => race_no4 (r := r) (k := k) hk hh)
  have HY := Lib.hid (fun h1 h2 h3 h4 h5 h6 => race_yes (r := r) h1 h2 h3 h4 h5 h6)
  have HIR0 := Lib.hid (fun (k : Nat) (hk : k < r.racers.length) (W : World) (hW : G w W) => isRacer_any (r.racers.getD k default) r.pools.length W ((h.rs.below hW).pools k hk) (h.nq k hk) h.np)
  have HIX0 := Lib.hid (fun (b : Int) (W : World) (hW : G w W) => racer_idx r.racers r.ra r.rc (.slice r.pa r.pools.length r.pc) (.slice r.ta r.protests.length r.tc) b W (h.rs.below hW).row h.nr)
  have HIP0 := Lib.hid (fun (k : Nat) (hk : k < r.pools.length) (W : World) (hW : G w W) => isPool8_any (r.pools.getD k default) W ((h.ps.below hW).tables k hk) (h.nb k hk))
  have hpr := h.rs.row
  have hpp := h.ps.row
  have hpt := h.ts
  generalize chk8 r = CK at *
  generalize raceB r = RB at *
  clear h
  obtain ⟨ra, rc, racers, pa, pc, pools, ta, tc, protests⟩ := r
  unfold Ra.v
  dsimp only at *
  obtain ⟨IX, hIX⟩ : ∃ IX : Int → Int, IX = idxR racers := ⟨_, rfl⟩
  rw [← hIX] at HN2 HN4 HY HIX0
  clear hIX
  have g0 : G w (w.alloc (.cells #[.slice ra racers.length rc, .slice pa pools.length pc, .slice ta protests.length tc] 26)) := (G.rf _).a _
  have b0 : Blk (w.alloc (.cells #[.slice ra racers.length rc, .slice pa pools.length pc, .slice ta protests.length tc] 26)) w.heap.size 26 #[.slice ra racers.length rc, .slice pa pools.length pc, .slice ta protests.length tc] := Blk.new _ _ _
  have hr0 := hpr.below g0
  have hp0 := hpp.below g0
  have ht0 := hpt.below g0
  clear hpr hpp hpt
  go_enter Tryz.func14, Tryz.ntmps14
  go_upto_region 1 with fail
  change Code.wp _ _ _ _ (w.alloc (.cells #[.slice ra racers.length rc, .slice pa pools.length pc, .slice ta protests.length tc] 26))
  generalize w.alloc (.cells #[.slice ra racers.length rc, .slice pa pools.length pc, .slice ta protests.length tc] 26) = W1 at *
  have m0 := b0.cell 0
  have m1 := b0.cell 1
  have m2 := b0.cell 2
  have l0 := b0.lt
  by_cases h1 : 12 < racers.length
  · have h1i : (12 : Int) < racers.length := by omega
    have HZ := Lib.hid (HF.out W1 (HN1.out (.inl h1)) g0)
    go_wp2_with fail
    first | exact HZ.out | (go_ret; exact HZ.out)
  · have h1i : ¬ (12 : Int) < racers.length := by omega
    by_cases h2 : 6 < pools.length
    · have h2i : (6 : Int) < pools.length := by omega
      have HZ := Lib.hid (HF.out W1 (HN1.out (.inr (.inl h2))) g0)
      go_wp2_with fail
      first | exact HZ.out | (go_ret; exact HZ.out)
    · have h2i : ¬ (6 : Int) < pools.length := by omega
      by_cases h3 : 4 < protests.length
      · have h3i : (4 : Int) < protests.length := by omega
        have HZ := Lib.hid (HF.out W1 (HN1.out (.inr (.inr h3))) g0)
        go_wp2_with fail
        first | exact HZ.out | (go_ret; exact HZ.out)
      · have h3i : ¬ (4 : Int) < protests.length := by omega
        go_wp2_with fail
        clear m0 m1 m2 l0
        go_loopw [3] (fun i wr => ∃ k : Nat, k ≤ racers.length ∧ i = .int .i64 k ∧ Hid (∀ j, j < k → racerB pools.length (racers.getD j default) = true ∧ IX (racers.getD j default).bird = (j : Nat)) ∧ G W1 wr) (fun i _ => racers.length - (intOf i).toNat)
        case atStart => exact ⟨0, Nat.zero_le _, rfl, fun j hj => by omega, G.rf _⟩
        case round =>
          obtain ⟨k, hk, rfl, HN, hG⟩ := hrel
          obtain ⟨wo, rfl⟩ : ∃ wo, wo = wr := ⟨_, rfl⟩
          have bo := b0.keep hG
          have m0 := bo.cell 0
          have l0 := bo.lt
          by_cases hlt : k < racers.length
          · have hki : (k : Int) < racers.length := by omega
            have HIR1 := Lib.hid (fun W (hW : G wo W) => HIR0.out k hlt W (g0.t (hG.t hW)))
            have HBAD := Lib.hid (HN2.out k hlt)
            have HIX1 := Lib.hid (fun b W (hW : G wo W) => HIX0.out b W (g0.t (hG.t hW)))
            rcases hr0 with h | ⟨gr, ofr, rfl, hgr, hcell⟩
            · omega
            have hcl := fun W (hW : G wo W) r hr => ((bcellB (hG.t hW)).1 gr _ hgr).trans (hcell k hlt r hr)
            have hgl := fun W (hW : G wo W) => Nat.lt_of_lt_of_le hgr (hG.t hW).size
            obtain ⟨y, hy⟩ : ∃ y, y = racers.getD k default := ⟨_, rfl⟩
            have HYY := Lib.hid hy
            rw [← hy] at hcl HIR1 HBAD
            clear hy hcell
            obtain ⟨zbird, zowner, zrank, zday, zpa, zpc, zpools⟩ := y
            unfold Rc.v at hcl HIR1
            have hSk : ∀ W', G wo W' → Blk W' w.heap.size 26 #[.slice (some ⟨gr, ofr, none⟩) racers.length rc, .slice pa pools.length pc, .slice ta protests.length tc] ∧ W'.cell? ⟨gr, ofr + k * 5, none⟩ = some (.int .i64 zbird) ∧ W'.cell? ⟨gr, ofr + k * 5 + 1, none⟩ = some (.int .i64 zowner) ∧ W'.cell? ⟨gr, ofr + k * 5 + 2, none⟩ = some (.int .i64 zrank) ∧ W'.cell? ⟨gr, ofr + k * 5 + 3, none⟩ = some (.int .i64 zday) ∧ W'.cell? ⟨gr, ofr + k * 5 + 4, none⟩ = some (.slice zpa zpools.length zpc) ∧ gr < W'.heap.size := fun W' hW => ⟨bo.keep hW, hcl W' hW 0 (by omega), hcl W' hW 1 (by omega), hcl W' hW 2 (by omega), hcl W' hW 3 (by omega), hcl W' hW 4 (by omega), hgl W' hW⟩
            have HIR := HIR1
            have HIX := Lib.hid (HIX1.out zbird)
            clear hcl hgl HIR1 HIX1
            obtain ⟨RK, hRK⟩ : ∃ RK, RK = racerB pools.length ⟨zbird, zowner, zrank, zday, zpa, zpc, zpools⟩ := ⟨_, rfl⟩
            rw [← hRK] at HIR HBAD
            have HRK := Lib.hid hRK
            clear hRK
            cases RK
            · have HBADK := Lib.hid (HBAD.out (.inl rfl))
              clear HBAD
              go_upto_region 6 with fail
              refine wp_region_Y (S := fun W' => Blk W' w.heap.size 26 #[.slice (some ⟨gr, ofr, none⟩) racers.length rc, .slice pa pools.length pc, .slice ta protests.length tc] ∧ W'.cell? ⟨gr, ofr + k * 5, none⟩ = some (.int .i64 zbird) ∧ W'.cell? ⟨gr, ofr + k * 5 + 1, none⟩ = some (.int .i64 zowner) ∧ W'.cell? ⟨gr, ofr + k * 5 + 2, none⟩ = some (.int .i64 zrank) ∧ W'.cell? ⟨gr, ofr + k * 5 + 3, none⟩ = some (.int .i64 zday) ∧ W'.cell? ⟨gr, ofr + k * 5 + 4, none⟩ = some (.slice zpa zpools.length zpc) ∧ gr < W'.heap.size) 21 22 rfl (by kernel_rfl) (hSk _ (G.rf _).d) (fun hS => ?_)
              have ga := (G.rf wo).d
              change wpAnyY _ _ opsB6 _ _ 21 22 #[false, false, false, false, false, false, false, false, false, false, false, false, false, false, false, false, false, false, false, false, false, false] _ _
              refine wpAnyY_takeC (v := ?_) [10, 8, 4, 3, 1] rB6_0 rB6o_0 (fun _ _ _ h => h) (Or.inl ⟨by kernel_rfl, ?_⟩) hS ?_
              rotate_left
              · intro w' hSw; have l0 := hSw.1.lt; go_simp; with_reducible rfl
              try simp only [Act.put, List.getElem_toArray, List.getElem_cons_zero, List.getElem_cons_succ, List.setIfInBounds_toArray, List.set_cons_zero, List.set_cons_succ]
              refine wpAnyY_takeC (v := ?_) [10, 8, 4, 3] rB6_1 rB6o_1 (fun _ _ _ h => h) (Or.inl ⟨by kernel_rfl, ?_⟩) hS ?_
              rotate_left
              · intro w' hSw; have m0 := hSw.1.cell 0; have l0 := hSw.1.lt; go_simp; with_reducible rfl
              try simp only [Act.put, List.getElem_toArray, List.getElem_cons_zero, List.getElem_cons_succ, List.setIfInBounds_toArray, List.set_cons_zero, List.set_cons_succ]
              refine wpAnyY_takeC (v := ?_) [10, 8, 4, 3] rB6_2 rB6o_2 (fun _ _ _ h => h) (Or.inl ⟨by kernel_rfl, ?_⟩) hS ?_
              rotate_left
              · intro w' hSw; go_simp; with_reducible rfl
              try simp only [Act.put, List.getElem_toArray, List.getElem_cons_zero, List.getElem_cons_succ, List.setIfInBounds_toArray, List.set_cons_zero, List.set_cons_succ]
              refine wpAnyY_takeC (v := ?_) [10, 8, 4] rB6_3 rB6o_3 (fun _ _ _ h => h) (Or.inl ⟨by kernel_rfl, ?_⟩) hS ?_
              rotate_left
              · intro w' hSw; go_simp; with_reducible rfl
              try simp only [Act.put, List.getElem_toArray, List.getElem_cons_zero, List.getElem_cons_succ, List.setIfInBounds_toArray, List.set_cons_zero, List.set_cons_succ]
              refine wpAnyY_takeC (v := ?_) [10, 8] rB6_4 rB6o_4 (fun _ _ _ h => h) (Or.inl ⟨by kernel_rfl, ?_⟩) hS ?_
              rotate_left
              · intro w' hSw; obtain ⟨_, q0, q1, q2, q3, q4, lg⟩ := hSw; go_simp; with_reducible rfl
              try simp only [Act.put, List.getElem_toArray, List.getElem_cons_zero, List.getElem_cons_succ, List.setIfInBounds_toArray, List.set_cons_zero, List.set_cons_succ]
              refine wpAnyY_takeC (v := ?_) [10, 8, 7, 6] rB6_5 rB6o_5 (fun _ _ _ h => h) (Or.inl ⟨by kernel_rfl, ?_⟩) hS ?_
              rotate_left
              · intro w' hSw; have l0 := hSw.1.lt; go_simp; with_reducible rfl
              try simp only [Act.put, List.getElem_toArray, List.getElem_cons_zero, List.getElem_cons_succ, List.setIfInBounds_toArray, List.set_cons_zero, List.set_cons_succ]
              refine wpAnyY_takeC (v := ?_) [10, 8, 7] rB6_6 rB6o_6 (fun _ _ _ h => h) (Or.inl ⟨by kernel_rfl, ?_⟩) hS ?_
              rotate_left
              · intro w' hSw; have m1 := hSw.1.cell 1; have l0 := hSw.1.lt; go_simp; with_reducible rfl
              try simp only [Act.put, List.getElem_toArray, List.getElem_cons_zero, List.getElem_cons_succ, List.setIfInBounds_toArray, List.set_cons_zero, List.set_cons_succ]
              refine wpAnyY_takeC (v := ?_) [10, 8] rB6_7 rB6o_7 (fun _ _ _ h => h) (Or.inl ⟨by kernel_rfl, ?_⟩) hS ?_
              rotate_left
              · intro w' hSw; go_simp; with_reducible rfl
              try simp only [Act.put, List.getElem_toArray, List.getElem_cons_zero, List.getElem_cons_succ, List.setIfInBounds_toArray, List.set_cons_zero, List.set_cons_succ]
              refine wpAnyY_oneSWC rB6_8 rB6o_8 (by kernel_rfl) (fun K8 hK8 => ?_)
              go_simp
              refine (HIR.out _ ga).mono ?_
              rintro e w5 ⟨rfl, hG5⟩
              replace ga := ga.t hG5
              refine hK8.out _ _ (hSk _ ga) (fun hS => ?_)
              clear hK8
              try simp only [Act.put, List.getElem_toArray, List.getElem_cons_zero, List.getElem_cons_succ, List.setIfInBounds_toArray, List.set_cons_zero, List.set_cons_succ]
              refine wpAnyY_takeC (v := ?_) [10] rB6_9 rB6o_9 (fun _ _ _ h => h) (Or.inl ⟨by kernel_rfl, ?_⟩) hS ?_
              rotate_left
              · intro w' hSw; go_simp; with_reducible rfl
              try simp only [Act.put, List.getElem_toArray, List.getElem_cons_zero, List.getElem_cons_succ, List.setIfInBounds_toArray, List.set_cons_zero, List.set_cons_succ]
              refine wpAnyY_takeC (v := ?_) [] rB6_10 rB6o_10 (fun _ _ _ h => h) (Or.inl ⟨by kernel_rfl, ?_⟩) hS ?_
              rotate_left
              · intro w' hSw; go_simp; with_reducible rfl
              try simp only [Act.put, List.getElem_toArray, List.getElem_cons_zero, List.getElem_cons_succ, List.setIfInBounds_toArray, List.set_cons_zero, List.set_cons_succ]
              refine wpAnyY_takeC (v := undef) [20, 18] rB6_11 rB6o_11 (fun _ _ _ h => h) (Or.inr ⟨by kernel_rfl, rfl⟩) hS ?_
              try simp only [Act.put, List.getElem_toArray, List.getElem_cons_zero, List.getElem_cons_succ, List.setIfInBounds_toArray, List.set_cons_zero, List.set_cons_succ]
              refine wpAnyY_takeC (v := undef) [20, 18, 17, 16, 15, 13] rB6_12 rB6o_12 (fun _ _ _ h => h) (Or.inr ⟨by kernel_rfl, rfl⟩) hS ?_
              try simp only [Act.put, List.getElem_toArray, List.getElem_cons_zero, List.getElem_cons_succ, List.setIfInBounds_toArray, List.set_cons_zero, List.set_cons_succ]
              refine wpAnyY_takeC (v := undef) [20, 18, 17, 16, 15] rB6_13 rB6o_13 (fun _ _ _ h => h) (Or.inr ⟨by kernel_rfl, rfl⟩) hS ?_
              try simp only [Act.put, List.getElem_toArray, List.getElem_cons_zero, List.getElem_cons_succ, List.setIfInBounds_toArray, List.set_cons_zero, List.set_cons_succ]
              refine wpAnyY_takeC (v := undef) [20, 18, 17, 16, 15] rB6_14 rB6o_14 (fun _ _ _ h => h) (Or.inr ⟨by kernel_rfl, rfl⟩) hS ?_
              try simp only [Act.put, List.getElem_toArray, List.getElem_cons_zero, List.getElem_cons_succ, List.setIfInBounds_toArray, List.set_cons_zero, List.set_cons_succ]
              refine wpAnyY_takeC (v := undef) [20, 18, 17, 16] rB6_15 rB6o_15 (fun _ _ _ h => h) (Or.inr ⟨by kernel_rfl, rfl⟩) hS ?_
              try simp only [Act.put, List.getElem_toArray, List.getElem_cons_zero, List.getElem_cons_succ, List.setIfInBounds_toArray, List.set_cons_zero, List.set_cons_succ]
              refine wpAnyY_takeC (v := undef) [20, 18, 17] rB6_16 rB6o_16 (fun _ _ _ h => h) (Or.inr ⟨by kernel_rfl, rfl⟩) hS ?_
              try simp only [Act.put, List.getElem_toArray, List.getElem_cons_zero, List.getElem_cons_succ, List.setIfInBounds_toArray, List.set_cons_zero, List.set_cons_succ]
              refine wpAnyY_takeC (v := undef) [20, 18] rB6_17 rB6o_17 (fun _ _ _ h => h) (Or.inr ⟨by kernel_rfl, rfl⟩) hS ?_
              try simp only [Act.put, List.getElem_toArray, List.getElem_cons_zero, List.getElem_cons_succ, List.setIfInBounds_toArray, List.set_cons_zero, List.set_cons_succ]
              refine wpAnyY_takeC (v := undef) [20] rB6_19 rB6o_19 (fun _ _ _ h => h) (Or.inr ⟨by kernel_rfl, rfl⟩) hS ?_
              try simp only [Act.put, List.getElem_toArray, List.getElem_cons_zero, List.getElem_cons_succ, List.setIfInBounds_toArray, List.set_cons_zero, List.set_cons_succ]
              refine wpAnyY_oneSUC rB6_18 rB6o_18 (by kernel_rfl) hS ?_
              try simp only [Act.put, List.getElem_toArray, List.getElem_cons_zero, List.getElem_cons_succ, List.setIfInBounds_toArray, List.set_cons_zero, List.set_cons_succ]
              refine wpAnyY_takeC (v := undef) [] rB6_20 rB6o_20 (fun _ _ _ h => h) (Or.inr ⟨by kernel_rfl, rfl⟩) hS ?_
              try simp only [Act.put, List.getElem_toArray, List.getElem_cons_zero, List.getElem_cons_succ, List.setIfInBounds_toArray, List.set_cons_zero, List.set_cons_succ]
              refine wpAnyY_oneW (i := 21) (by kernel_rfl) rB6o_21 (by kernel_rfl) (by kernel_rfl) (fun K21 hK21 => ?_)
              go_simp
              refine hK21.out _ _ ?_
              clear hK21
              try simp only [Act.put, List.getElem_toArray, List.getElem_cons_zero, List.getElem_cons_succ, List.setIfInBounds_toArray, List.set_cons_zero, List.set_cons_succ]
              refine wpAnyY_done (by kernel_rfl) ?_ _
              clear hS hSk
              have hGz := hG.t ga
              have HZ := Lib.hid (HF.out _ HBADK.out (g0.t hGz))
              go_wp2_with fail
              first | exact HZ.out | (go_ret; exact HZ.out)
            · obtain ⟨z, hz⟩ : ∃ z, z = IX zbird := ⟨_, rfl⟩
              have HZZ := Lib.hid hz
              rw [← hz] at HIX
              by_cases hzk : z = k
              · have hzb : (z != (k : Int)) = false := by simpa using hzk
                clear HBAD hz
                have HZK := Lib.hid hzk
                clear hzk
                go_upto_region 6 with fail
                refine wp_region_Y (S := fun W' => Blk W' w.heap.size 26 #[.slice (some ⟨gr, ofr, none⟩) racers.length rc, .slice pa pools.length pc, .slice ta protests.length tc] ∧ W'.cell? ⟨gr, ofr + k * 5, none⟩ = some (.int .i64 zbird) ∧ W'.cell? ⟨gr, ofr + k * 5 + 1, none⟩ = some (.int .i64 zowner) ∧ W'.cell? ⟨gr, ofr + k * 5 + 2, none⟩ = some (.int .i64 zrank) ∧ W'.cell? ⟨gr, ofr + k * 5 + 3, none⟩ = some (.int .i64 zday) ∧ W'.cell? ⟨gr, ofr + k * 5 + 4, none⟩ = some (.slice zpa zpools.length zpc) ∧ gr < W'.heap.size) 21 22 rfl (by kernel_rfl) (hSk _ (G.rf _).d) (fun hS => ?_)
                have ga := (G.rf wo).d
                change wpAnyY _ _ opsB6 _ _ 21 22 #[false, false, false, false, false, false, false, false, false, false, false, false, false, false, false, false, false, false, false, false, false, false] _ _
                refine wpAnyY_takeC (v := ?_) [10, 8, 4, 3, 1] rB6_0 rB6o_0 (fun _ _ _ h => h) (Or.inl ⟨by kernel_rfl, ?_⟩) hS ?_
                rotate_left
                · intro w' hSw; have l0 := hSw.1.lt; go_simp; with_reducible rfl
                try simp only [Act.put, List.getElem_toArray, List.getElem_cons_zero, List.getElem_cons_succ, List.setIfInBounds_toArray, List.set_cons_zero, List.set_cons_succ]
                refine wpAnyY_takeC (v := ?_) [10, 8, 4, 3] rB6_1 rB6o_1 (fun _ _ _ h => h) (Or.inl ⟨by kernel_rfl, ?_⟩) hS ?_
                rotate_left
                · intro w' hSw; have m0 := hSw.1.cell 0; have l0 := hSw.1.lt; go_simp; with_reducible rfl
                try simp only [Act.put, List.getElem_toArray, List.getElem_cons_zero, List.getElem_cons_succ, List.setIfInBounds_toArray, List.set_cons_zero, List.set_cons_succ]
                refine wpAnyY_takeC (v := ?_) [10, 8, 4, 3] rB6_2 rB6o_2 (fun _ _ _ h => h) (Or.inl ⟨by kernel_rfl, ?_⟩) hS ?_
                rotate_left
                · intro w' hSw; go_simp; with_reducible rfl
                try simp only [Act.put, List.getElem_toArray, List.getElem_cons_zero, List.getElem_cons_succ, List.setIfInBounds_toArray, List.set_cons_zero, List.set_cons_succ]
                refine wpAnyY_takeC (v := ?_) [10, 8, 4] rB6_3 rB6o_3 (fun _ _ _ h => h) (Or.inl ⟨by kernel_rfl, ?_⟩) hS ?_
                rotate_left
                · intro w' hSw; go_simp; with_reducible rfl
                try simp only [Act.put, List.getElem_toArray, List.getElem_cons_zero, List.getElem_cons_succ, List.setIfInBounds_toArray, List.set_cons_zero, List.set_cons_succ]
                refine wpAnyY_takeC (v := ?_) [10, 8] rB6_4 rB6o_4 (fun _ _ _ h => h) (Or.inl ⟨by kernel_rfl, ?_⟩) hS ?_
                rotate_left
                · intro w' hSw; obtain ⟨_, q0, q1, q2, q3, q4, lg⟩ := hSw; go_simp; with_reducible rfl
                try simp only [Act.put, List.getElem_toArray, List.getElem_cons_zero, List.getElem_cons_succ, List.setIfInBounds_toArray, List.set_cons_zero, List.set_cons_succ]
                refine wpAnyY_takeC (v := ?_) [10, 8, 7, 6] rB6_5 rB6o_5 (fun _ _ _ h => h) (Or.inl ⟨by kernel_rfl, ?_⟩) hS ?_
                rotate_left
                · intro w' hSw; have l0 := hSw.1.lt; go_simp; with_reducible rfl
                try simp only [Act.put, List.getElem_toArray, List.getElem_cons_zero, List.getElem_cons_succ, List.setIfInBounds_toArray, List.set_cons_zero, List.set_cons_succ]
                refine wpAnyY_takeC (v := ?_) [10, 8, 7] rB6_6 rB6o_6 (fun _ _ _ h => h) (Or.inl ⟨by kernel_rfl, ?_⟩) hS ?_
                rotate_left
                · intro w' hSw; have m1 := hSw.1.cell 1; have l0 := hSw.1.lt; go_simp; with_reducible rfl
                try simp only [Act.put, List.getElem_toArray, List.getElem_cons_zero, List.getElem_cons_succ, List.setIfInBounds_toArray, List.set_cons_zero, List.set_cons_succ]
                refine wpAnyY_takeC (v := ?_) [10, 8] rB6_7 rB6o_7 (fun _ _ _ h => h) (Or.inl ⟨by kernel_rfl, ?_⟩) hS ?_
                rotate_left
                · intro w' hSw; go_simp; with_reducible rfl
                try simp only [Act.put, List.getElem_toArray, List.getElem_cons_zero, List.getElem_cons_succ, List.setIfInBounds_toArray, List.set_cons_zero, List.set_cons_succ]
                refine wpAnyY_oneSWC rB6_8 rB6o_8 (by kernel_rfl) (fun K8 hK8 => ?_)
                go_simp
                refine (HIR.out _ ga).mono ?_
                rintro e w5 ⟨rfl, hG5⟩
                replace ga := ga.t hG5
                refine hK8.out _ _ (hSk _ ga) (fun hS => ?_)
                clear hK8
                try simp only [Act.put, List.getElem_toArray, List.getElem_cons_zero, List.getElem_cons_succ, List.setIfInBounds_toArray, List.set_cons_zero, List.set_cons_succ]
                refine wpAnyY_takeC (v := ?_) [10] rB6_9 rB6o_9 (fun _ _ _ h => h) (Or.inl ⟨by kernel_rfl, ?_⟩) hS ?_
                rotate_left
                · intro w' hSw; go_simp; with_reducible rfl
                try simp only [Act.put, List.getElem_toArray, List.getElem_cons_zero, List.getElem_cons_succ, List.setIfInBounds_toArray, List.set_cons_zero, List.set_cons_succ]
                refine wpAnyY_takeC (v := ?_) [] rB6_10 rB6o_10 (fun _ _ _ h => h) (Or.inl ⟨by kernel_rfl, ?_⟩) hS ?_
                rotate_left
                · intro w' hSw; go_simp; with_reducible rfl
                try simp only [Act.put, List.getElem_toArray, List.getElem_cons_zero, List.getElem_cons_succ, List.setIfInBounds_toArray, List.set_cons_zero, List.set_cons_succ]
                refine wpAnyY_takeC (v := ?_) [20, 18] rB6_11 rB6o_11 (fun _ _ _ h => h) (Or.inl ⟨by kernel_rfl, ?_⟩) hS ?_
                rotate_left
                · intro w' hSw; have m0 := hSw.1.cell 0; have m1 := hSw.1.cell 1; have m2 := hSw.1.cell 2; have l0 := hSw.1.lt; go_simp; with_reducible rfl
                try simp only [Act.put, List.getElem_toArray, List.getElem_cons_zero, List.getElem_cons_succ, List.setIfInBounds_toArray, List.set_cons_zero, List.set_cons_succ]
                refine wpAnyY_takeC (v := ?_) [20, 18, 17, 16, 15, 13] rB6_12 rB6o_12 (fun _ _ _ h => h) (Or.inl ⟨by kernel_rfl, ?_⟩) hS ?_
                rotate_left
                · intro w' hSw; have l0 := hSw.1.lt; go_simp; with_reducible rfl
                try simp only [Act.put, List.getElem_toArray, List.getElem_cons_zero, List.getElem_cons_succ, List.setIfInBounds_toArray, List.set_cons_zero, List.set_cons_succ]
                refine wpAnyY_takeC (v := ?_) [20, 18, 17, 16, 15] rB6_13 rB6o_13 (fun _ _ _ h => h) (Or.inl ⟨by kernel_rfl, ?_⟩) hS ?_
                rotate_left
                · intro w' hSw; have m0 := hSw.1.cell 0; have l0 := hSw.1.lt; go_simp; with_reducible rfl
                try simp only [Act.put, List.getElem_toArray, List.getElem_cons_zero, List.getElem_cons_succ, List.setIfInBounds_toArray, List.set_cons_zero, List.set_cons_succ]
                refine wpAnyY_takeC (v := ?_) [20, 18, 17, 16, 15] rB6_14 rB6o_14 (fun _ _ _ h => h) (Or.inl ⟨by kernel_rfl, ?_⟩) hS ?_
                rotate_left
                · intro w' hSw; go_simp; with_reducible rfl
                try simp only [Act.put, List.getElem_toArray, List.getElem_cons_zero, List.getElem_cons_succ, List.setIfInBounds_toArray, List.set_cons_zero, List.set_cons_succ]
                refine wpAnyY_takeC (v := ?_) [20, 18, 17, 16] rB6_15 rB6o_15 (fun _ _ _ h => h) (Or.inl ⟨by kernel_rfl, ?_⟩) hS ?_
                rotate_left
                · intro w' hSw; go_simp; with_reducible rfl
                try simp only [Act.put, List.getElem_toArray, List.getElem_cons_zero, List.getElem_cons_succ, List.setIfInBounds_toArray, List.set_cons_zero, List.set_cons_succ]
                refine wpAnyY_takeC (v := ?_) [20, 18, 17] rB6_16 rB6o_16 (fun _ _ _ h => h) (Or.inl ⟨by kernel_rfl, ?_⟩) hS ?_
                rotate_left
                · intro w' hSw; go_simp; with_reducible rfl
                try simp only [Act.put, List.getElem_toArray, List.getElem_cons_zero, List.getElem_cons_succ, List.setIfInBounds_toArray, List.set_cons_zero, List.set_cons_succ]
                refine wpAnyY_takeC (v := ?_) [20, 18] rB6_17 rB6o_17 (fun _ _ _ h => h) (Or.inl ⟨by kernel_rfl, ?_⟩) hS ?_
                rotate_left
                · intro w' hSw; obtain ⟨_, q0, q1, q2, q3, q4, lg⟩ := hSw; go_simp; with_reducible rfl
                try simp only [Act.put, List.getElem_toArray, List.getElem_cons_zero, List.getElem_cons_succ, List.setIfInBounds_toArray, List.set_cons_zero, List.set_cons_succ]
                refine wpAnyY_takeC (v := ?_) [20] rB6_19 rB6o_19 (fun _ _ _ h => h) (Or.inl ⟨by kernel_rfl, ?_⟩) hS ?_
                rotate_left
                · intro w' hSw; go_simp; with_reducible rfl
                try simp only [Act.put, List.getElem_toArray, List.getElem_cons_zero, List.getElem_cons_succ, List.setIfInBounds_toArray, List.set_cons_zero, List.set_cons_succ]
                refine wpAnyY_oneSWC rB6_18 rB6o_18 (by kernel_rfl) (fun K18 hK18 => ?_)
                go_simp
                refine (HIX.out _ ga).mono ?_
                rintro e w6 ⟨rfl, hG6⟩
                replace ga := ga.t hG6
                refine hK18.out _ _ (hSk _ ga) (fun hS => ?_)
                clear hK18
                try simp only [Act.put, List.getElem_toArray, List.getElem_cons_zero, List.getElem_cons_succ, List.setIfInBounds_toArray, List.set_cons_zero, List.set_cons_succ]
                refine wpAnyY_takeC (v := ?_) [] rB6_20 rB6o_20 (fun _ _ _ h => h) (Or.inl ⟨by kernel_rfl, ?_⟩) hS ?_
                rotate_left
                · intro w' hSw; go_simp; with_reducible rfl
                try simp only [Act.put, List.getElem_toArray, List.getElem_cons_zero, List.getElem_cons_succ, List.setIfInBounds_toArray, List.set_cons_zero, List.set_cons_succ]
                refine wpAnyY_oneW (i := 21) (by kernel_rfl) rB6o_21 (by kernel_rfl) (by kernel_rfl) (fun K21 hK21 => ?_)
                go_simp
                refine hK21.out _ _ ?_
                clear hK21
                try simp only [Act.put, List.getElem_toArray, List.getElem_cons_zero, List.getElem_cons_succ, List.setIfInBounds_toArray, List.set_cons_zero, List.set_cons_succ]
                refine wpAnyY_done (by kernel_rfl) ?_ _
                clear hS hSk
                have hGz := hG.t ga
                go_wp2_with fail
                go_roundw
                case rel => exact ⟨k + 1, by omega, by go_num, fun j hj => by
                  rcases Nat.lt_or_ge j k with h4 | h4
                  · exact HN.out j h4
                  · obtain rfl : j = k := by omega
                    rw [← HYY.out]
                    exact ⟨HRK.out.symm, HZZ.out.symm.trans HZK.out⟩, hGz⟩
                case measure => simp [intOf] <;> omega
              · have hzb : (z != (k : Int)) = true := by simpa using hzk
                have HBADK := Lib.hid (HBAD.out (.inr (by show ¬ IX zbird = _; rw [← hz]; exact hzk)))
                clear HBAD hz hzk
                go_upto_region 6 with fail
                refine wp_region_Y (S := fun W' => Blk W' w.heap.size 26 #[.slice (some ⟨gr, ofr, none⟩) racers.length rc, .slice pa pools.length pc, .slice ta protests.length tc] ∧ W'.cell? ⟨gr, ofr + k * 5, none⟩ = some (.int .i64 zbird) ∧ W'.cell? ⟨gr, ofr + k * 5 + 1, none⟩ = some (.int .i64 zowner) ∧ W'.cell? ⟨gr, ofr + k * 5 + 2, none⟩ = some (.int .i64 zrank) ∧ W'.cell? ⟨gr, ofr + k * 5 + 3, none⟩ = some (.int .i64 zday) ∧ W'.cell? ⟨gr, ofr + k * 5 + 4, none⟩ = some (.slice zpa zpools.length zpc) ∧ gr < W'.heap.size) 21 22 rfl (by kernel_rfl) (hSk _ (G.rf _).d) (fun hS => ?_)
                have ga := (G.rf wo).d
                change wpAnyY _ _ opsB6 _ _ 21 22 #[false, false, false, false, false, false, false, false, false, false, false, false, false, false, false, false, false, false, false, false, false, false] _ _
                refine wpAnyY_takeC (v := ?_) [10, 8, 4, 3, 1] rB6_0 rB6o_0 (fun _ _ _ h => h) (Or.inl ⟨by kernel_rfl, ?_⟩) hS ?_
                rotate_left
                · intro w' hSw; have l0 := hSw.1.lt; go_simp; with_reducible rfl
                try simp only [Act.put, List.getElem_toArray, List.getElem_cons_zero, List.getElem_cons_succ, List.setIfInBounds_toArray, List.set_cons_zero, List.set_cons_succ]
                refine wpAnyY_takeC (v := ?_) [10, 8, 4, 3] rB6_1 rB6o_1 (fun _ _ _ h => h) (Or.inl ⟨by kernel_rfl, ?_⟩) hS ?_
                rotate_left
                · intro w' hSw; have m0 := hSw.1.cell 0; have l0 := hSw.1.lt; go_simp; with_reducible rfl
                try simp only [Act.put, List.getElem_toArray, List.getElem_cons_zero, List.getElem_cons_succ, List.setIfInBounds_toArray, List.set_cons_zero, List.set_cons_succ]
                refine wpAnyY_takeC (v := ?_) [10, 8, 4, 3] rB6_2 rB6o_2 (fun _ _ _ h => h) (Or.inl ⟨by kernel_rfl, ?_⟩) hS ?_
                rotate_left
                · intro w' hSw; go_simp; with_reducible rfl
                try simp only [Act.put, List.getElem_toArray, List.getElem_cons_zero, List.getElem_cons_succ, List.setIfInBounds_toArray, List.set_cons_zero, List.set_cons_succ]
                refine wpAnyY_takeC (v := ?_) [10, 8, 4] rB6_3 rB6o_3 (fun _ _ _ h => h) (Or.inl ⟨by kernel_rfl, ?_⟩) hS ?_
                rotate_left
                · intro w' hSw; go_simp; with_reducible rfl
                try simp only [Act.put, List.getElem_toArray, List.getElem_cons_zero, List.getElem_cons_succ, List.setIfInBounds_toArray, List.set_cons_zero, List.set_cons_succ]
                refine wpAnyY_takeC (v := ?_) [10, 8] rB6_4 rB6o_4 (fun _ _ _ h => h) (Or.inl ⟨by kernel_rfl, ?_⟩) hS ?_
                rotate_left
                · intro w' hSw; obtain ⟨_, q0, q1, q2, q3, q4, lg⟩ := hSw; go_simp; with_reducible rfl
                try simp only [Act.put, List.getElem_toArray, List.getElem_cons_zero, List.getElem_cons_succ, List.setIfInBounds_toArray, List.set_cons_zero, List.set_cons_succ]
                refine wpAnyY_takeC (v := ?_) [10, 8, 7, 6] rB6_5 rB6o_5 (fun _ _ _ h => h) (Or.inl ⟨by kernel_rfl, ?_⟩) hS ?_
                rotate_left
                · intro w' hSw; have l0 := hSw.1.lt; go_simp; with_reducible rfl
                try simp only [Act.put, List.getElem_toArray, List.getElem_cons_zero, List.getElem_cons_succ, List.setIfInBounds_toArray, List.set_cons_zero, List.set_cons_succ]
                refine wpAnyY_takeC (v := ?_) [10, 8, 7] rB6_6 rB6o_6 (fun _ _ _ h => h) (Or.inl ⟨by kernel_rfl, ?_⟩) hS ?_
                rotate_left
                · intro w' hSw; have m1 := hSw.1.cell 1; have l0 := hSw.1.lt; go_simp; with_reducible rfl
                try simp only [Act.put, List.getElem_toArray, List.getElem_cons_zero, List.getElem_cons_succ, List.setIfInBounds_toArray, List.set_cons_zero, List.set_cons_succ]
                refine wpAnyY_takeC (v := ?_) [10, 8] rB6_7 rB6o_7 (fun _ _ _ h => h) (Or.inl ⟨by kernel_rfl, ?_⟩) hS ?_
                rotate_left
                · intro w' hSw; go_simp; with_reducible rfl
                try simp only [Act.put, List.getElem_toArray, List.getElem_cons_zero, List.getElem_cons_succ, List.setIfInBounds_toArray, List.set_cons_zero, List.set_cons_succ]
                refine wpAnyY_oneSWC rB6_8 rB6o_8 (by kernel_rfl) (fun K8 hK8 => ?_)
                go_simp
                refine (HIR.out _ ga).mono ?_
                rintro e w5 ⟨rfl, hG5⟩
                replace ga := ga.t hG5
                refine hK8.out _ _ (hSk _ ga) (fun hS => ?_)
                clear hK8
                try simp only [Act.put, List.getElem_toArray, List.getElem_cons_zero, List.getElem_cons_succ, List.setIfInBounds_toArray, List.set_cons_zero, List.set_cons_succ]
                refine wpAnyY_takeC (v := ?_) [10] rB6_9 rB6o_9 (fun _ _ _ h => h) (Or.inl ⟨by kernel_rfl, ?_⟩) hS ?_
                rotate_left
                · intro w' hSw; go_simp; with_reducible rfl
                try simp only [Act.put, List.getElem_toArray, List.getElem_cons_zero, List.getElem_cons_succ, List.setIfInBounds_toArray, List.set_cons_zero, List.set_cons_succ]
                refine wpAnyY_takeC (v := ?_) [] rB6_10 rB6o_10 (fun _ _ _ h => h) (Or.inl ⟨by kernel_rfl, ?_⟩) hS ?_
                rotate_left
                · intro w' hSw; go_simp; with_reducible rfl
                try simp only [Act.put, List.getElem_toArray, List.getElem_cons_zero, List.getElem_cons_succ, List.setIfInBounds_toArray, List.set_cons_zero, List.set_cons_succ]
                refine wpAnyY_takeC (v := ?_) [20, 18] rB6_11 rB6o_11 (fun _ _ _ h => h) (Or.inl ⟨by kernel_rfl, ?_⟩) hS ?_
                rotate_left
                · intro w' hSw; have m0 := hSw.1.cell 0; have m1 := hSw.1.cell 1; have m2 := hSw.1.cell 2; have l0 := hSw.1.lt; go_simp; with_reducible rfl
                try simp only [Act.put, List.getElem_toArray, List.getElem_cons_zero, List.getElem_cons_succ, List.setIfInBounds_toArray, List.set_cons_zero, List.set_cons_succ]
                refine wpAnyY_takeC (v := ?_) [20, 18, 17, 16, 15, 13] rB6_12 rB6o_12 (fun _ _ _ h => h) (Or.inl ⟨by kernel_rfl, ?_⟩) hS ?_
                rotate_left
                · intro w' hSw; have l0 := hSw.1.lt; go_simp; with_reducible rfl
                try simp only [Act.put, List.getElem_toArray, List.getElem_cons_zero, List.getElem_cons_succ, List.setIfInBounds_toArray, List.set_cons_zero, List.set_cons_succ]
                refine wpAnyY_takeC (v := ?_) [20, 18, 17, 16, 15] rB6_13 rB6o_13 (fun _ _ _ h => h) (Or.inl ⟨by kernel_rfl, ?_⟩) hS ?_
                rotate_left
                · intro w' hSw; have m0 := hSw.1.cell 0; have l0 := hSw.1.lt; go_simp; with_reducible rfl
                try simp only [Act.put, List.getElem_toArray, List.getElem_cons_zero, List.getElem_cons_succ, List.setIfInBounds_toArray, List.set_cons_zero, List.set_cons_succ]
                refine wpAnyY_takeC (v := ?_) [20, 18, 17, 16, 15] rB6_14 rB6o_14 (fun _ _ _ h => h) (Or.inl ⟨by kernel_rfl, ?_⟩) hS ?_
                rotate_left
                · intro w' hSw; go_simp; with_reducible rfl
                try simp only [Act.put, List.getElem_toArray, List.getElem_cons_zero, List.getElem_cons_succ, List.setIfInBounds_toArray, List.set_cons_zero, List.set_cons_succ]
                refine wpAnyY_takeC (v := ?_) [20, 18, 17, 16] rB6_15 rB6o_15 (fun _ _ _ h => h) (Or.inl ⟨by kernel_rfl, ?_⟩) hS ?_
                rotate_left
                · intro w' hSw; go_simp; with_reducible rfl
                try simp only [Act.put, List.getElem_toArray, List.getElem_cons_zero, List.getElem_cons_succ, List.setIfInBounds_toArray, List.set_cons_zero, List.set_cons_succ]
                refine wpAnyY_takeC (v := ?_) [20, 18, 17] rB6_16 rB6o_16 (fun _ _ _ h => h) (Or.inl ⟨by kernel_rfl, ?_⟩) hS ?_
                rotate_left
                · intro w' hSw; go_simp; with_reducible rfl
                try simp only [Act.put, List.getElem_toArray, List.getElem_cons_zero, List.getElem_cons_succ, List.setIfInBounds_toArray, List.set_cons_zero, List.set_cons_succ]
                refine wpAnyY_takeC (v := ?_) [20, 18] rB6_17 rB6o_17 (fun _ _ _ h => h) (Or.inl ⟨by kernel_rfl, ?_⟩) hS ?_
                rotate_left
                · intro w' hSw; obtain ⟨_, q0, q1, q2, q3, q4, lg⟩ := hSw; go_simp; with_reducible rfl
                try simp only [Act.put, List.getElem_toArray, List.getElem_cons_zero, List.getElem_cons_succ, List.setIfInBounds_toArray, List.set_cons_zero, List.set_cons_succ]
                refine wpAnyY_takeC (v := ?_) [20] rB6_19 rB6o_19 (fun _ _ _ h => h) (Or.inl ⟨by kernel_rfl, ?_⟩) hS ?_
                rotate_left
                · intro w' hSw; go_simp; with_reducible rfl
                try simp only [Act.put, List.getElem_toArray, List.getElem_cons_zero, List.getElem_cons_succ, List.setIfInBounds_toArray, List.set_cons_zero, List.set_cons_succ]
                refine wpAnyY_oneSWC rB6_18 rB6o_18 (by kernel_rfl) (fun K18 hK18 => ?_)
                go_simp
                refine (HIX.out _ ga).mono ?_
                rintro e w6 ⟨rfl, hG6⟩
                replace ga := ga.t hG6
                refine hK18.out _ _ (hSk _ ga) (fun hS => ?_)
                clear hK18
                try simp only [Act.put, List.getElem_toArray, List.getElem_cons_zero, List.getElem_cons_succ, List.setIfInBounds_toArray, List.set_cons_zero, List.set_cons_succ]
                refine wpAnyY_takeC (v := ?_) [] rB6_20 rB6o_20 (fun _ _ _ h => h) (Or.inl ⟨by kernel_rfl, ?_⟩) hS ?_
                rotate_left
                · intro w' hSw; go_simp; with_reducible rfl
                try simp only [Act.put, List.getElem_toArray, List.getElem_cons_zero, List.getElem_cons_succ, List.setIfInBounds_toArray, List.set_cons_zero, List.set_cons_succ]
                refine wpAnyY_oneW (i := 21) (by kernel_rfl) rB6o_21 (by kernel_rfl) (by kernel_rfl) (fun K21 hK21 => ?_)
                go_simp
                refine hK21.out _ _ ?_
                clear hK21
                try simp only [Act.put, List.getElem_toArray, List.getElem_cons_zero, List.getElem_cons_succ, List.setIfInBounds_toArray, List.set_cons_zero, List.set_cons_succ]
                refine wpAnyY_done (by kernel_rfl) ?_ _
                clear hS hSk
                have hGz := hG.t ga
                have HZ := Lib.hid (HF.out _ HBADK.out (g0.t hGz))
                go_wp2_with fail
                first | exact HZ.out | (go_ret; exact HZ.out)
          · obtain rfl : k = racers.length := by omega
            have hki : ¬ ((racers.length : Nat) : Int) < racers.length := by omega
            have m1 := bo.cell 1
            have HRA := HN
            clear HN HIR0 hr0
            go_wp2_with fail
            clear m0 m1 l0
            go_loopw [4] (fun i wr => ∃ k : Nat, k ≤ pools.length ∧ i = .int .i64 k ∧ Hid (∀ j, j < k → poolB (pools.getD j default) = true) ∧ G W1 wr) (fun i _ => pools.length - (intOf i).toNat)
            case atStart => exact ⟨0, Nat.zero_le _, rfl, fun j hj => by omega, hG⟩
            case round =>
              clear hG bo
              obtain ⟨k, hk, rfl, HN, hG⟩ := hrel
              obtain ⟨wo, rfl⟩ : ∃ wo, wo = wr := ⟨_, rfl⟩
              have bo := b0.keep hG
              have m1 := bo.cell 1
              have l0 := bo.lt
              by_cases hlt : k < pools.length
              · have hki : (k : Int) < pools.length := by omega
                have HIP := Lib.hid (fun W (hW : G wo W) => HIP0.out k hlt W (g0.t (hG.t hW)))
                have HBAD := Lib.hid (HN3.out k hlt)
                rcases hp0 with h | ⟨g, off, rfl, hg, hcell⟩
                · omega
                have hcl := fun r hr => ((bcellB hG).1 g _ hg).trans (hcell k hlt r hr)
                have lg := Nat.lt_of_lt_of_le hg hG.size
                obtain ⟨y, hy⟩ : ∃ y, y = pools.getD k default := ⟨_, rfl⟩
                have HYY := Lib.hid hy
                rw [← hy] at hcl HIP HBAD
                clear hy hcell
                obtain ⟨ystake, ycut, ykind, yta, ytc, ytable, yquota, yfirst⟩ := y
                unfold Po.v at hcl HIP
                have q0 : wo.cell? ⟨g, off + k * 6, none⟩ = some (.int .i64 ystake) := hcl 0 (by omega)
                have q1 : wo.cell? ⟨g, off + k * 6 + 1, none⟩ = some (.int .i64 ycut) := hcl 1 (by omega)
                have q2 : wo.cell? ⟨g, off + k * 6 + 2, none⟩ = some (.int .i64 ykind) := hcl 2 (by omega)
                have q3 : wo.cell? ⟨g, off + k * 6 + 3, none⟩ = some (.slice yta ytable.length ytc) := hcl 3 (by omega)
                have q4 : wo.cell? ⟨g, off + k * 6 + 4, none⟩ = some (.int .i64 yquota) := hcl 4 (by omega)
                have q5 : wo.cell? ⟨g, off + k * 6 + 5, none⟩ = some (.bool yfirst) := hcl 5 (by omega)
                clear hcl
                obtain ⟨PK, hPK⟩ : ∃ PK, PK = poolB ⟨ystake, ycut, ykind, yta, ytc, ytable, yquota, yfirst⟩ := ⟨_, rfl⟩
                rw [← hPK] at HIP HBAD
                have HPK := Lib.hid hPK
                clear hPK
                cases PK
                · go_wp2_with (go_at_call 44; refine (HIP.out _ (G.rf _)).mono ?_; rintro e w5 ⟨rfl, hG5⟩)
                  have HZ := Lib.hid (HF.out _ (HBAD.out (by first | trivial | rfl)) (g0.t (hG.t hG5)))
                  first | exact HZ.out | (go_ret; exact HZ.out)
                · go_wp2_with (go_at_call 44; refine (HIP.out _ (G.rf _)).mono ?_; rintro e w5 ⟨rfl, hG5⟩)
                  go_roundw
                  case rel => exact ⟨k + 1, by omega, by go_num, fun j hj => by
                    rcases Nat.lt_or_ge j k with h4 | h4
                    · exact HN.out j h4
                    · obtain rfl : j = k := by omega
                      rw [← HYY.out]; exact HPK.out.symm, hG.t hG5⟩
                  case measure => simp [intOf] <;> omega
              · obtain rfl : k = pools.length := by omega
                have hki : ¬ ((pools.length : Nat) : Int) < pools.length := by omega
                have m2 := bo.cell 2
                have HPA := HN
                clear HN HIP0 hp0
                go_wp2_with fail
                clear m1 m2 l0
                go_loopw [5] (fun i wr => ∃ k : Nat, k ≤ protests.length ∧ i = .int .i64 k ∧ Hid (∀ j, j < k → ¬ IX (protests.getD j 0) < 0 ∧ ¬ (0 < j ∧ protests.getD j 0 ≤ protests.getD (j - 1) 0)) ∧ G W1 wr) (fun i _ => protests.length - (intOf i).toNat)
                case atStart => exact ⟨0, Nat.zero_le _, rfl, fun j hj => by omega, hG⟩
                case round =>
                  clear hG bo
                  obtain ⟨k, hk, rfl, HN, hG⟩ := hrel
                  obtain ⟨wo, rfl⟩ : ∃ wo, wo = wr := ⟨_, rfl⟩
                  have bo := b0.keep hG
                  have m2 := bo.cell 2
                  have l0 := bo.lt
                  by_cases hlt : k < protests.length
                  · have hki : (k : Int) < protests.length := by omega
                    have HBAD := Lib.hid (HN4.out k hlt)
                    have HIX1 := Lib.hid (fun b W (hW : G wo W) => HIX0.out b W (g0.t (hG.t hW)))
                    rcases ht0 with rfl | ⟨gt, oft, rfl, hgt, hcell⟩
                    · simp at hlt
                    obtain ⟨q, hq⟩ : ∃ q, q = k - 1 := ⟨_, rfl⟩
                    have hck := hcell k hlt
                    have hcq := hcell q (by omega)
                    have HQQ := Lib.hid hq
                    rw [← hq] at HBAD
                    obtain ⟨x, hx⟩ : ∃ x, x = protests.getD k 0 := ⟨_, rfl⟩
                    obtain ⟨y, hy⟩ : ∃ y, y = protests.getD q 0 := ⟨_, rfl⟩
                    have HX := Lib.hid hx
                    have HY2 := Lib.hid hy
                    rw [← hx] at hck HBAD
                    rw [← hy] at hcq HBAD
                    have hSk : ∀ W', G wo W' → Blk W' w.heap.size 26 #[.slice ra racers.length rc, .slice pa pools.length pc, .slice (some ⟨gt, oft, none⟩) protests.length tc] ∧ W'.cell? ⟨gt, oft + k, none⟩ = some (.int .i64 x) ∧ W'.cell? ⟨gt, oft + q, none⟩ = some (.int .i64 y) := fun W' hW => ⟨bo.keep hW, ((bcellB (hG.t hW)).1 gt _ hgt).trans hck, ((bcellB (hG.t hW)).1 gt _ hgt).trans hcq⟩
                    have HIX := Lib.hid (HIX1.out x)
                    obtain ⟨z, hz⟩ : ∃ z, z = IX x := ⟨_, rfl⟩
                    have HZZ := Lib.hid hz
                    rw [← hz] at HIX HBAD
                    clear hck hcq hcell hx hy hz HIX1
                    by_cases hzn : z < 0
                    · have hzb : decide (z < 0) = true := decide_eq_true hzn
                      have HBADK := Lib.hid (HBAD.out (.inl hzn))
                      clear HBAD hq
                      go_upto_region 16 with fail
                      refine wp_region_Y (S := fun W' => Blk W' w.heap.size 26 #[.slice ra racers.length rc, .slice pa pools.length pc, .slice (some ⟨gt, oft, none⟩) protests.length tc] ∧ W'.cell? ⟨gt, oft + k, none⟩ = some (.int .i64 x) ∧ W'.cell? ⟨gt, oft + q, none⟩ = some (.int .i64 y)) 25 26 rfl (by kernel_rfl) (hSk _ (G.rf _).d) (fun hS => ?_)
                      have ga := (G.rf wo).d
                      change wpAnyY _ _ opsB16 _ _ 25 26 #[false, false, false, false, false, false, false, false, false, false, false, false, false, false, false, false, false, false, false, false, false, false, false, false, false, false] _ _
                      refine wpAnyY_takeC (v := ?_) [8, 6] rB16_0 rB16o_0 (fun _ _ _ h => h) (Or.inl ⟨by kernel_rfl, ?_⟩) hS ?_
                      rotate_left
                      · intro w' hSw; have m0 := hSw.1.cell 0; have m1 := hSw.1.cell 1; have m2 := hSw.1.cell 2; have l0 := hSw.1.lt; go_simp; with_reducible rfl
                      try simp only [Act.put, List.getElem_toArray, List.getElem_cons_zero, List.getElem_cons_succ, List.setIfInBounds_toArray, List.set_cons_zero, List.set_cons_succ]
                      refine wpAnyY_takeC (v := ?_) [8, 6, 5, 4, 2] rB16_1 rB16o_1 (fun _ _ _ h => h) (Or.inl ⟨by kernel_rfl, ?_⟩) hS ?_
                      rotate_left
                      · intro w' hSw; have l0 := hSw.1.lt; go_simp; with_reducible rfl
                      try simp only [Act.put, List.getElem_toArray, List.getElem_cons_zero, List.getElem_cons_succ, List.setIfInBounds_toArray, List.set_cons_zero, List.set_cons_succ]
                      refine wpAnyY_takeC (v := ?_) [8, 6, 5, 4] rB16_2 rB16o_2 (fun _ _ _ h => h) (Or.inl ⟨by kernel_rfl, ?_⟩) hS ?_
                      rotate_left
                      · intro w' hSw; have m2 := hSw.1.cell 2; have l0 := hSw.1.lt; go_simp; with_reducible rfl
                      try simp only [Act.put, List.getElem_toArray, List.getElem_cons_zero, List.getElem_cons_succ, List.setIfInBounds_toArray, List.set_cons_zero, List.set_cons_succ]
                      refine wpAnyY_takeC (v := ?_) [8, 6, 5, 4] rB16_3 rB16o_3 (fun _ _ _ h => h) (Or.inl ⟨by kernel_rfl, ?_⟩) hS ?_
                      rotate_left
                      · intro w' hSw; go_simp; with_reducible rfl
                      try simp only [Act.put, List.getElem_toArray, List.getElem_cons_zero, List.getElem_cons_succ, List.setIfInBounds_toArray, List.set_cons_zero, List.set_cons_succ]
                      refine wpAnyY_takeC (v := ?_) [8, 6, 5] rB16_4 rB16o_4 (fun _ _ _ h => h) (Or.inl ⟨by kernel_rfl, ?_⟩) hS ?_
                      rotate_left
                      · intro w' hSw; go_simp; with_reducible rfl
                      try simp only [Act.put, List.getElem_toArray, List.getElem_cons_zero, List.getElem_cons_succ, List.setIfInBounds_toArray, List.set_cons_zero, List.set_cons_succ]
                      refine wpAnyY_takeC (v := ?_) [8, 6] rB16_5 rB16o_5 (fun _ _ _ h => h) (Or.inl ⟨by kernel_rfl, ?_⟩) hS ?_
                      rotate_left
                      · intro w' hSw; have q1 := hSw.2.1; go_simp; with_reducible rfl
                      try simp only [Act.put, List.getElem_toArray, List.getElem_cons_zero, List.getElem_cons_succ, List.setIfInBounds_toArray, List.set_cons_zero, List.set_cons_succ]
                      refine wpAnyY_oneSWC rB16_6 rB16o_6 (by kernel_rfl) (fun K6 hK6 => ?_)
                      go_simp
                      refine (HIX.out _ ga).mono ?_
                      rintro e w5 ⟨rfl, hG5⟩
                      replace ga := ga.t hG5
                      refine hK6.out _ _ (hSk _ ga) (fun hS => ?_)
                      clear hK6
                      try simp only [Act.put, List.getElem_toArray, List.getElem_cons_zero, List.getElem_cons_succ, List.setIfInBounds_toArray, List.set_cons_zero, List.set_cons_succ]
                      refine wpAnyY_takeC (v := ?_) [8] rB16_7 rB16o_7 (fun _ _ _ h => h) (Or.inl ⟨by kernel_rfl, ?_⟩) hS ?_
                      rotate_left
                      · intro w' hSw; go_simp; with_reducible rfl
                      try simp only [Act.put, List.getElem_toArray, List.getElem_cons_zero, List.getElem_cons_succ, List.setIfInBounds_toArray, List.set_cons_zero, List.set_cons_succ]
                      refine wpAnyY_takeC (v := ?_) [] rB16_8 rB16o_8 (fun _ _ _ h => h) (Or.inl ⟨by kernel_rfl, ?_⟩) hS ?_
                      rotate_left
                      · intro w' hSw; go_simp; with_reducible rfl
                      try simp only [Act.put, List.getElem_toArray, List.getElem_cons_zero, List.getElem_cons_succ, List.setIfInBounds_toArray, List.set_cons_zero, List.set_cons_succ]
                      refine wpAnyY_takeC (v := undef) [24, 11, 10] rB16_9 rB16o_9 (fun _ _ _ h => h) (Or.inr ⟨by kernel_rfl, rfl⟩) hS ?_
                      try simp only [Act.put, List.getElem_toArray, List.getElem_cons_zero, List.getElem_cons_succ, List.setIfInBounds_toArray, List.set_cons_zero, List.set_cons_succ]
                      refine wpAnyY_takeC (v := undef) [24, 11] rB16_10 rB16o_10 (fun _ _ _ h => h) (Or.inr ⟨by kernel_rfl, rfl⟩) hS ?_
                      try simp only [Act.put, List.getElem_toArray, List.getElem_cons_zero, List.getElem_cons_succ, List.setIfInBounds_toArray, List.set_cons_zero, List.set_cons_succ]
                      refine wpAnyY_takeC (v := undef) [24] rB16_11 rB16o_11 (fun _ _ _ h => h) (Or.inr ⟨by kernel_rfl, rfl⟩) hS ?_
                      try simp only [Act.put, List.getElem_toArray, List.getElem_cons_zero, List.getElem_cons_succ, List.setIfInBounds_toArray, List.set_cons_zero, List.set_cons_succ]
                      refine wpAnyY_takeC (v := undef) [24, 23, 16, 15, 13] rB16_12 rB16o_12 (fun _ _ _ h => h) (Or.inr ⟨by kernel_rfl, rfl⟩) hS ?_
                      try simp only [Act.put, List.getElem_toArray, List.getElem_cons_zero, List.getElem_cons_succ, List.setIfInBounds_toArray, List.set_cons_zero, List.set_cons_succ]
                      refine wpAnyY_takeC (v := undef) [24, 23, 16, 15] rB16_13 rB16o_13 (fun _ _ _ h => h) (Or.inr ⟨by kernel_rfl, rfl⟩) hS ?_
                      try simp only [Act.put, List.getElem_toArray, List.getElem_cons_zero, List.getElem_cons_succ, List.setIfInBounds_toArray, List.set_cons_zero, List.set_cons_succ]
                      refine wpAnyY_takeC (v := undef) [24, 23, 16, 15] rB16_14 rB16o_14 (fun _ _ _ h => h) (Or.inr ⟨by kernel_rfl, rfl⟩) hS ?_
                      try simp only [Act.put, List.getElem_toArray, List.getElem_cons_zero, List.getElem_cons_succ, List.setIfInBounds_toArray, List.set_cons_zero, List.set_cons_succ]
                      refine wpAnyY_takeC (v := undef) [24, 23, 16] rB16_15 rB16o_15 (fun _ _ _ h => h) (Or.inr ⟨by kernel_rfl, rfl⟩) hS ?_
                      try simp only [Act.put, List.getElem_toArray, List.getElem_cons_zero, List.getElem_cons_succ, List.setIfInBounds_toArray, List.set_cons_zero, List.set_cons_succ]
                      refine wpAnyY_takeC (v := undef) [24, 23] rB16_16 rB16o_16 (fun _ _ _ h => h) (Or.inr ⟨by kernel_rfl, rfl⟩) hS ?_
                      try simp only [Act.put, List.getElem_toArray, List.getElem_cons_zero, List.getElem_cons_succ, List.setIfInBounds_toArray, List.set_cons_zero, List.set_cons_succ]
                      refine wpAnyY_takeC (v := undef) [24, 23, 22, 21, 18] rB16_17 rB16o_17 (fun _ _ _ h => h) (Or.inr ⟨by kernel_rfl, rfl⟩) hS ?_
                      try simp only [Act.put, List.getElem_toArray, List.getElem_cons_zero, List.getElem_cons_succ, List.setIfInBounds_toArray, List.set_cons_zero, List.set_cons_succ]
                      refine wpAnyY_takeC (v := undef) [24, 23, 22, 21] rB16_18 rB16o_18 (fun _ _ _ h => h) (Or.inr ⟨by kernel_rfl, rfl⟩) hS ?_
                      try simp only [Act.put, List.getElem_toArray, List.getElem_cons_zero, List.getElem_cons_succ, List.setIfInBounds_toArray, List.set_cons_zero, List.set_cons_succ]
                      refine wpAnyY_takeC (v := undef) [24, 23, 22, 21, 20] rB16_19 rB16o_19 (fun _ _ _ h => h) (Or.inr ⟨by kernel_rfl, rfl⟩) hS ?_
                      try simp only [Act.put, List.getElem_toArray, List.getElem_cons_zero, List.getElem_cons_succ, List.setIfInBounds_toArray, List.set_cons_zero, List.set_cons_succ]
                      refine wpAnyY_takeC (v := undef) [24, 23, 22, 21] rB16_20 rB16o_20 (fun _ _ _ h => h) (Or.inr ⟨by kernel_rfl, rfl⟩) hS ?_
                      try simp only [Act.put, List.getElem_toArray, List.getElem_cons_zero, List.getElem_cons_succ, List.setIfInBounds_toArray, List.set_cons_zero, List.set_cons_succ]
                      refine wpAnyY_takeC (v := undef) [24, 23, 22] rB16_21 rB16o_21 (fun _ _ _ h => h) (Or.inr ⟨by kernel_rfl, rfl⟩) hS ?_
                      try simp only [Act.put, List.getElem_toArray, List.getElem_cons_zero, List.getElem_cons_succ, List.setIfInBounds_toArray, List.set_cons_zero, List.set_cons_succ]
                      refine wpAnyY_takeC (v := undef) [24, 23] rB16_22 rB16o_22 (fun _ _ _ h => h) (Or.inr ⟨by kernel_rfl, rfl⟩) hS ?_
                      try simp only [Act.put, List.getElem_toArray, List.getElem_cons_zero, List.getElem_cons_succ, List.setIfInBounds_toArray, List.set_cons_zero, List.set_cons_succ]
                      refine wpAnyY_takeC (v := undef) [24] rB16_23 rB16o_23 (fun _ _ _ h => h) (Or.inr ⟨by kernel_rfl, rfl⟩) hS ?_
                      try simp only [Act.put, List.getElem_toArray, List.getElem_cons_zero, List.getElem_cons_succ, List.setIfInBounds_toArray, List.set_cons_zero, List.set_cons_succ]
                      refine wpAnyY_takeC (v := undef) [] rB16_24 rB16o_24 (fun _ _ _ h => h) (Or.inr ⟨by kernel_rfl, rfl⟩) hS ?_
                      try simp only [Act.put, List.getElem_toArray, List.getElem_cons_zero, List.getElem_cons_succ, List.setIfInBounds_toArray, List.set_cons_zero, List.set_cons_succ]
                      refine wpAnyY_oneW (i := 25) (by kernel_rfl) rB16o_25 (by kernel_rfl) (by kernel_rfl) (fun K25 hK25 => ?_)
                      go_simp
                      refine hK25.out _ _ ?_
                      clear hK25
                      try simp only [Act.put, List.getElem_toArray, List.getElem_cons_zero, List.getElem_cons_succ, List.setIfInBounds_toArray, List.set_cons_zero, List.set_cons_succ]
                      refine wpAnyY_done (by kernel_rfl) ?_ _
                      clear hS hSk
                      have hGz := hG.t ga
                      have HZ := Lib.hid (HF.out _ HBADK.out (g0.t hGz))
                      go_wp2_with fail
                      first | exact HZ.out | (go_ret; exact HZ.out)
                    · have hzb : decide (z < 0) = false := decide_eq_false hzn
                      by_cases hk0 : k = 0
                      · have hkn : ¬ (0 : Int) < (k : Int) := by omega
                        have hd1 : decide ((0 : Int) < (k : Int)) = false := decide_eq_false hkn
                        have hd2 : decide (0 < k) = false := by simpa using hk0
                        have HK0 := Lib.hid hk0
                        have HZN := Lib.hid hzn
                        clear hk0 hq HBAD
                        go_upto_region 16 with fail
                        refine wp_region_Y (S := fun W' => Blk W' w.heap.size 26 #[.slice ra racers.length rc, .slice pa pools.length pc, .slice (some ⟨gt, oft, none⟩) protests.length tc] ∧ W'.cell? ⟨gt, oft + k, none⟩ = some (.int .i64 x) ∧ W'.cell? ⟨gt, oft + q, none⟩ = some (.int .i64 y)) 25 26 rfl (by kernel_rfl) (hSk _ (G.rf _).d) (fun hS => ?_)
                        have ga := (G.rf wo).d
                        change wpAnyY _ _ opsB16 _ _ 25 26 #[false, false, false, false, false, false, false, false, false, false, false, false, false, false, false, false, false, false, false, false, false, false, false, false, false, false] _ _
                        refine wpAnyY_takeC (v := ?_) [8, 6] rB16_0 rB16o_0 (fun _ _ _ h => h) (Or.inl ⟨by kernel_rfl, ?_⟩) hS ?_
                        rotate_left
                        · intro w' hSw; have m0 := hSw.1.cell 0; have m1 := hSw.1.cell 1; have m2 := hSw.1.cell 2; have l0 := hSw.1.lt; go_simp; with_reducible rfl
                        try simp only [Act.put, List.getElem_toArray, List.getElem_cons_zero, List.getElem_cons_succ, List.setIfInBounds_toArray, List.set_cons_zero, List.set_cons_succ]
                        refine wpAnyY_takeC (v := ?_) [8, 6, 5, 4, 2] rB16_1 rB16o_1 (fun _ _ _ h => h) (Or.inl ⟨by kernel_rfl, ?_⟩) hS ?_
                        rotate_left
                        · intro w' hSw; have l0 := hSw.1.lt; go_simp; with_reducible rfl
                        try simp only [Act.put, List.getElem_toArray, List.getElem_cons_zero, List.getElem_cons_succ, List.setIfInBounds_toArray, List.set_cons_zero, List.set_cons_succ]
                        refine wpAnyY_takeC (v := ?_) [8, 6, 5, 4] rB16_2 rB16o_2 (fun _ _ _ h => h) (Or.inl ⟨by kernel_rfl, ?_⟩) hS ?_
                        rotate_left
                        · intro w' hSw; have m2 := hSw.1.cell 2; have l0 := hSw.1.lt; go_simp; with_reducible rfl
                        try simp only [Act.put, List.getElem_toArray, List.getElem_cons_zero, List.getElem_cons_succ, List.setIfInBounds_toArray, List.set_cons_zero, List.set_cons_succ]
                        refine wpAnyY_takeC (v := ?_) [8, 6, 5, 4] rB16_3 rB16o_3 (fun _ _ _ h => h) (Or.inl ⟨by kernel_rfl, ?_⟩) hS ?_
                        rotate_left
                        · intro w' hSw; go_simp; with_reducible rfl
                        try simp only [Act.put, List.getElem_toArray, List.getElem_cons_zero, List.getElem_cons_succ, List.setIfInBounds_toArray, List.set_cons_zero, List.set_cons_succ]
                        refine wpAnyY_takeC (v := ?_) [8, 6, 5] rB16_4 rB16o_4 (fun _ _ _ h => h) (Or.inl ⟨by kernel_rfl, ?_⟩) hS ?_
                        rotate_left
                        · intro w' hSw; go_simp; with_reducible rfl
                        try simp only [Act.put, List.getElem_toArray, List.getElem_cons_zero, List.getElem_cons_succ, List.setIfInBounds_toArray, List.set_cons_zero, List.set_cons_succ]
                        refine wpAnyY_takeC (v := ?_) [8, 6] rB16_5 rB16o_5 (fun _ _ _ h => h) (Or.inl ⟨by kernel_rfl, ?_⟩) hS ?_
                        rotate_left
                        · intro w' hSw; have q1 := hSw.2.1; go_simp; with_reducible rfl
                        try simp only [Act.put, List.getElem_toArray, List.getElem_cons_zero, List.getElem_cons_succ, List.setIfInBounds_toArray, List.set_cons_zero, List.set_cons_succ]
                        refine wpAnyY_oneSWC rB16_6 rB16o_6 (by kernel_rfl) (fun K6 hK6 => ?_)
                        go_simp
                        refine (HIX.out _ ga).mono ?_
                        rintro e w5 ⟨rfl, hG5⟩
                        replace ga := ga.t hG5
                        refine hK6.out _ _ (hSk _ ga) (fun hS => ?_)
                        clear hK6
                        try simp only [Act.put, List.getElem_toArray, List.getElem_cons_zero, List.getElem_cons_succ, List.setIfInBounds_toArray, List.set_cons_zero, List.set_cons_succ]
                        refine wpAnyY_takeC (v := ?_) [8] rB16_7 rB16o_7 (fun _ _ _ h => h) (Or.inl ⟨by kernel_rfl, ?_⟩) hS ?_
                        rotate_left
                        · intro w' hSw; go_simp; with_reducible rfl
                        try simp only [Act.put, List.getElem_toArray, List.getElem_cons_zero, List.getElem_cons_succ, List.setIfInBounds_toArray, List.set_cons_zero, List.set_cons_succ]
                        refine wpAnyY_takeC (v := ?_) [] rB16_8 rB16o_8 (fun _ _ _ h => h) (Or.inl ⟨by kernel_rfl, ?_⟩) hS ?_
                        rotate_left
                        · intro w' hSw; go_simp; with_reducible rfl
                        try simp only [Act.put, List.getElem_toArray, List.getElem_cons_zero, List.getElem_cons_succ, List.setIfInBounds_toArray, List.set_cons_zero, List.set_cons_succ]
                        refine wpAnyY_takeC (v := ?_) [24, 11, 10] rB16_9 rB16o_9 (fun _ _ _ h => h) (Or.inl ⟨by kernel_rfl, ?_⟩) hS ?_
                        rotate_left
                        · intro w' hSw; go_simp; with_reducible rfl
                        try simp only [Act.put, List.getElem_toArray, List.getElem_cons_zero, List.getElem_cons_succ, List.setIfInBounds_toArray, List.set_cons_zero, List.set_cons_succ]
                        refine wpAnyY_takeC (v := ?_) [24, 11] rB16_10 rB16o_10 (fun _ _ _ h => h) (Or.inl ⟨by kernel_rfl, ?_⟩) hS ?_
                        rotate_left
                        · intro w' hSw; go_simp; with_reducible rfl
                        try simp only [Act.put, List.getElem_toArray, List.getElem_cons_zero, List.getElem_cons_succ, List.setIfInBounds_toArray, List.set_cons_zero, List.set_cons_succ]
                        refine wpAnyY_takeC (v := ?_) [24] rB16_11 rB16o_11 (fun _ _ _ h => h) (Or.inl ⟨by kernel_rfl, ?_⟩) hS ?_
                        rotate_left
                        · intro w' hSw; go_simp; with_reducible rfl
                        try simp only [Act.put, List.getElem_toArray, List.getElem_cons_zero, List.getElem_cons_succ, List.setIfInBounds_toArray, List.set_cons_zero, List.set_cons_succ]
                        refine wpAnyY_takeC (v := undef) [24, 23, 16, 15, 13] rB16_12 rB16o_12 (fun _ _ _ h => h) (Or.inr ⟨by kernel_rfl, rfl⟩) hS ?_
                        try simp only [Act.put, List.getElem_toArray, List.getElem_cons_zero, List.getElem_cons_succ, List.setIfInBounds_toArray, List.set_cons_zero, List.set_cons_succ]
                        refine wpAnyY_takeC (v := undef) [24, 23, 16, 15] rB16_13 rB16o_13 (fun _ _ _ h => h) (Or.inr ⟨by kernel_rfl, rfl⟩) hS ?_
                        try simp only [Act.put, List.getElem_toArray, List.getElem_cons_zero, List.getElem_cons_succ, List.setIfInBounds_toArray, List.set_cons_zero, List.set_cons_succ]
                        refine wpAnyY_takeC (v := undef) [24, 23, 16, 15] rB16_14 rB16o_14 (fun _ _ _ h => h) (Or.inr ⟨by kernel_rfl, rfl⟩) hS ?_
                        try simp only [Act.put, List.getElem_toArray, List.getElem_cons_zero, List.getElem_cons_succ, List.setIfInBounds_toArray, List.set_cons_zero, List.set_cons_succ]
                        refine wpAnyY_takeC (v := undef) [24, 23, 16] rB16_15 rB16o_15 (fun _ _ _ h => h) (Or.inr ⟨by kernel_rfl, rfl⟩) hS ?_
                        try simp only [Act.put, List.getElem_toArray, List.getElem_cons_zero, List.getElem_cons_succ, List.setIfInBounds_toArray, List.set_cons_zero, List.set_cons_succ]
                        refine wpAnyY_takeC (v := undef) [24, 23] rB16_16 rB16o_16 (fun _ _ _ h => h) (Or.inr ⟨by kernel_rfl, rfl⟩) hS ?_
                        try simp only [Act.put, List.getElem_toArray, List.getElem_cons_zero, List.getElem_cons_succ, List.setIfInBounds_toArray, List.set_cons_zero, List.set_cons_succ]
                        refine wpAnyY_takeC (v := undef) [24, 23, 22, 21, 18] rB16_17 rB16o_17 (fun _ _ _ h => h) (Or.inr ⟨by kernel_rfl, rfl⟩) hS ?_
                        try simp only [Act.put, List.getElem_toArray, List.getElem_cons_zero, List.getElem_cons_succ, List.setIfInBounds_toArray, List.set_cons_zero, List.set_cons_succ]
                        refine wpAnyY_takeC (v := undef) [24, 23, 22, 21] rB16_18 rB16o_18 (fun _ _ _ h => h) (Or.inr ⟨by kernel_rfl, rfl⟩) hS ?_
                        try simp only [Act.put, List.getElem_toArray, List.getElem_cons_zero, List.getElem_cons_succ, List.setIfInBounds_toArray, List.set_cons_zero, List.set_cons_succ]
                        refine wpAnyY_takeC (v := undef) [24, 23, 22, 21, 20] rB16_19 rB16o_19 (fun _ _ _ h => h) (Or.inr ⟨by kernel_rfl, rfl⟩) hS ?_
                        try simp only [Act.put, List.getElem_toArray, List.getElem_cons_zero, List.getElem_cons_succ, List.setIfInBounds_toArray, List.set_cons_zero, List.set_cons_succ]
                        refine wpAnyY_takeC (v := undef) [24, 23, 22, 21] rB16_20 rB16o_20 (fun _ _ _ h => h) (Or.inr ⟨by kernel_rfl, rfl⟩) hS ?_
                        try simp only [Act.put, List.getElem_toArray, List.getElem_cons_zero, List.getElem_cons_succ, List.setIfInBounds_toArray, List.set_cons_zero, List.set_cons_succ]
                        refine wpAnyY_takeC (v := undef) [24, 23, 22] rB16_21 rB16o_21 (fun _ _ _ h => h) (Or.inr ⟨by kernel_rfl, rfl⟩) hS ?_
                        try simp only [Act.put, List.getElem_toArray, List.getElem_cons_zero, List.getElem_cons_succ, List.setIfInBounds_toArray, List.set_cons_zero, List.set_cons_succ]
                        refine wpAnyY_takeC (v := undef) [24, 23] rB16_22 rB16o_22 (fun _ _ _ h => h) (Or.inr ⟨by kernel_rfl, rfl⟩) hS ?_
                        try simp only [Act.put, List.getElem_toArray, List.getElem_cons_zero, List.getElem_cons_succ, List.setIfInBounds_toArray, List.set_cons_zero, List.set_cons_succ]
                        refine wpAnyY_takeC (v := undef) [24] rB16_23 rB16o_23 (fun _ _ _ h => h) (Or.inr ⟨by kernel_rfl, rfl⟩) hS ?_
                        try simp only [Act.put, List.getElem_toArray, List.getElem_cons_zero, List.getElem_cons_succ, List.setIfInBounds_toArray, List.set_cons_zero, List.set_cons_succ]
                        refine wpAnyY_takeC (v := ?_) [] rB16_24 rB16o_24 (fun _ _ _ h => h) (Or.inl ⟨by kernel_rfl, ?_⟩) hS ?_
                        rotate_left
                        · intro w' hSw; go_simp; with_reducible rfl
                        try simp only [Act.put, List.getElem_toArray, List.getElem_cons_zero, List.getElem_cons_succ, List.setIfInBounds_toArray, List.set_cons_zero, List.set_cons_succ]
                        refine wpAnyY_oneW (i := 25) (by kernel_rfl) rB16o_25 (by kernel_rfl) (by kernel_rfl) (fun K25 hK25 => ?_)
                        go_simp
                        refine hK25.out _ _ ?_
                        clear hK25
                        try simp only [Act.put, List.getElem_toArray, List.getElem_cons_zero, List.getElem_cons_succ, List.setIfInBounds_toArray, List.set_cons_zero, List.set_cons_succ]
                        refine wpAnyY_done (by kernel_rfl) ?_ _
                        clear hS hSk
                        have hGz := hG.t ga
                        go_wp2_with fail
                        go_roundw
                        case rel => exact ⟨k + 1, by omega, by go_num, fun j hj => by
                          rcases Nat.lt_or_ge j k with h4 | h4
                          · exact HN.out j h4
                          · obtain rfl : j = k := by omega
                            rw [← HX.out, ← HZZ.out]
                            exact ⟨HZN.out, fun hh => by have := HK0.out; omega⟩, hGz⟩
                        case measure => simp [intOf] <;> omega
                      · have hkn : (0 : Int) < (k : Int) := by omega
                        have hd1 : decide ((0 : Int) < (k : Int)) = true := decide_eq_true hkn
                        have hk0n : 0 < k := by omega
                        have hd2 : decide (0 < k) = true := decide_eq_true hk0n
                        have x1 : IntKind.i64.wrap ((k : Int) - 1) = (q : Nat) := by rw [IntWalk.i64_in _ (by omega)]; omega
                        have hqi : (q : Int) < protests.length := by omega
                        have hqn : q < protests.length := by omega
                        clear hq hk0
                        by_cases hle : x ≤ y
                        · have hdl : decide (x ≤ y) = true := decide_eq_true hle
                          have HBADK := Lib.hid (HBAD.out (.inr ⟨hk0n, hle⟩))
                          clear HBAD
                          go_upto_region 16 with fail
                          refine wp_region_Y (S := fun W' => Blk W' w.heap.size 26 #[.slice ra racers.length rc, .slice pa pools.length pc, .slice (some ⟨gt, oft, none⟩) protests.length tc] ∧ W'.cell? ⟨gt, oft + k, none⟩ = some (.int .i64 x) ∧ W'.cell? ⟨gt, oft + q, none⟩ = some (.int .i64 y)) 25 26 rfl (by kernel_rfl) (hSk _ (G.rf _).d) (fun hS => ?_)
                          have ga := (G.rf wo).d
                          change wpAnyY _ _ opsB16 _ _ 25 26 #[false, false, false, false, false, false, false, false, false, false, false, false, false, false, false, false, false, false, false, false, false, false, false, false, false, false] _ _
                          refine wpAnyY_takeC (v := ?_) [8, 6] rB16_0 rB16o_0 (fun _ _ _ h => h) (Or.inl ⟨by kernel_rfl, ?_⟩) hS ?_
                          rotate_left
                          · intro w' hSw; have m0 := hSw.1.cell 0; have m1 := hSw.1.cell 1; have m2 := hSw.1.cell 2; have l0 := hSw.1.lt; go_simp; with_reducible rfl
                          try simp only [Act.put, List.getElem_toArray, List.getElem_cons_zero, List.getElem_cons_succ, List.setIfInBounds_toArray, List.set_cons_zero, List.set_cons_succ]
                          refine wpAnyY_takeC (v := ?_) [8, 6, 5, 4, 2] rB16_1 rB16o_1 (fun _ _ _ h => h) (Or.inl ⟨by kernel_rfl, ?_⟩) hS ?_
                          rotate_left
                          · intro w' hSw; have l0 := hSw.1.lt; go_simp; with_reducible rfl
                          try simp only [Act.put, List.getElem_toArray, List.getElem_cons_zero, List.getElem_cons_succ, List.setIfInBounds_toArray, List.set_cons_zero, List.set_cons_succ]
                          refine wpAnyY_takeC (v := ?_) [8, 6, 5, 4] rB16_2 rB16o_2 (fun _ _ _ h => h) (Or.inl ⟨by kernel_rfl, ?_⟩) hS ?_
                          rotate_left
                          · intro w' hSw; have m2 := hSw.1.cell 2; have l0 := hSw.1.lt; go_simp; with_reducible rfl
                          try simp only [Act.put, List.getElem_toArray, List.getElem_cons_zero, List.getElem_cons_succ, List.setIfInBounds_toArray, List.set_cons_zero, List.set_cons_succ]
                          refine wpAnyY_takeC (v := ?_) [8, 6, 5, 4] rB16_3 rB16o_3 (fun _ _ _ h => h) (Or.inl ⟨by kernel_rfl, ?_⟩) hS ?_
                          rotate_left
                          · intro w' hSw; go_simp; with_reducible rfl
                          try simp only [Act.put, List.getElem_toArray, List.getElem_cons_zero, List.getElem_cons_succ, List.setIfInBounds_toArray, List.set_cons_zero, List.set_cons_succ]
                          refine wpAnyY_takeC (v := ?_) [8, 6, 5] rB16_4 rB16o_4 (fun _ _ _ h => h) (Or.inl ⟨by kernel_rfl, ?_⟩) hS ?_
                          rotate_left
                          · intro w' hSw; go_simp; with_reducible rfl
                          try simp only [Act.put, List.getElem_toArray, List.getElem_cons_zero, List.getElem_cons_succ, List.setIfInBounds_toArray, List.set_cons_zero, List.set_cons_succ]
                          refine wpAnyY_takeC (v := ?_) [8, 6] rB16_5 rB16o_5 (fun _ _ _ h => h) (Or.inl ⟨by kernel_rfl, ?_⟩) hS ?_
                          rotate_left
                          · intro w' hSw; have q1 := hSw.2.1; go_simp; with_reducible rfl
                          try simp only [Act.put, List.getElem_toArray, List.getElem_cons_zero, List.getElem_cons_succ, List.setIfInBounds_toArray, List.set_cons_zero, List.set_cons_succ]
                          refine wpAnyY_oneSWC rB16_6 rB16o_6 (by kernel_rfl) (fun K6 hK6 => ?_)
                          go_simp
                          refine (HIX.out _ ga).mono ?_
                          rintro e w5 ⟨rfl, hG5⟩
                          replace ga := ga.t hG5
                          refine hK6.out _ _ (hSk _ ga) (fun hS => ?_)
                          clear hK6
                          try simp only [Act.put, List.getElem_toArray, List.getElem_cons_zero, List.getElem_cons_succ, List.setIfInBounds_toArray, List.set_cons_zero, List.set_cons_succ]
                          refine wpAnyY_takeC (v := ?_) [8] rB16_7 rB16o_7 (fun _ _ _ h => h) (Or.inl ⟨by kernel_rfl, ?_⟩) hS ?_
                          rotate_left
                          · intro w' hSw; go_simp; with_reducible rfl
                          try simp only [Act.put, List.getElem_toArray, List.getElem_cons_zero, List.getElem_cons_succ, List.setIfInBounds_toArray, List.set_cons_zero, List.set_cons_succ]
                          refine wpAnyY_takeC (v := ?_) [] rB16_8 rB16o_8 (fun _ _ _ h => h) (Or.inl ⟨by kernel_rfl, ?_⟩) hS ?_
                          rotate_left
                          · intro w' hSw; go_simp; with_reducible rfl
                          try simp only [Act.put, List.getElem_toArray, List.getElem_cons_zero, List.getElem_cons_succ, List.setIfInBounds_toArray, List.set_cons_zero, List.set_cons_succ]
                          refine wpAnyY_takeC (v := ?_) [24, 11, 10] rB16_9 rB16o_9 (fun _ _ _ h => h) (Or.inl ⟨by kernel_rfl, ?_⟩) hS ?_
                          rotate_left
                          · intro w' hSw; go_simp; with_reducible rfl
                          try simp only [Act.put, List.getElem_toArray, List.getElem_cons_zero, List.getElem_cons_succ, List.setIfInBounds_toArray, List.set_cons_zero, List.set_cons_succ]
                          refine wpAnyY_takeC (v := ?_) [24, 11] rB16_10 rB16o_10 (fun _ _ _ h => h) (Or.inl ⟨by kernel_rfl, ?_⟩) hS ?_
                          rotate_left
                          · intro w' hSw; go_simp; with_reducible rfl
                          try simp only [Act.put, List.getElem_toArray, List.getElem_cons_zero, List.getElem_cons_succ, List.setIfInBounds_toArray, List.set_cons_zero, List.set_cons_succ]
                          refine wpAnyY_takeC (v := ?_) [24] rB16_11 rB16o_11 (fun _ _ _ h => h) (Or.inl ⟨by kernel_rfl, ?_⟩) hS ?_
                          rotate_left
                          · intro w' hSw; go_simp; with_reducible rfl
                          try simp only [Act.put, List.getElem_toArray, List.getElem_cons_zero, List.getElem_cons_succ, List.setIfInBounds_toArray, List.set_cons_zero, List.set_cons_succ]
                          refine wpAnyY_takeC (v := ?_) [24, 23, 16, 15, 13] rB16_12 rB16o_12 (fun _ _ _ h => h) (Or.inl ⟨by kernel_rfl, ?_⟩) hS ?_
                          rotate_left
                          · intro w' hSw; have l0 := hSw.1.lt; go_simp; with_reducible rfl
                          try simp only [Act.put, List.getElem_toArray, List.getElem_cons_zero, List.getElem_cons_succ, List.setIfInBounds_toArray, List.set_cons_zero, List.set_cons_succ]
                          refine wpAnyY_takeC (v := ?_) [24, 23, 16, 15] rB16_13 rB16o_13 (fun _ _ _ h => h) (Or.inl ⟨by kernel_rfl, ?_⟩) hS ?_
                          rotate_left
                          · intro w' hSw; have m2 := hSw.1.cell 2; have l0 := hSw.1.lt; go_simp; with_reducible rfl
                          try simp only [Act.put, List.getElem_toArray, List.getElem_cons_zero, List.getElem_cons_succ, List.setIfInBounds_toArray, List.set_cons_zero, List.set_cons_succ]
                          refine wpAnyY_takeC (v := ?_) [24, 23, 16, 15] rB16_14 rB16o_14 (fun _ _ _ h => h) (Or.inl ⟨by kernel_rfl, ?_⟩) hS ?_
                          rotate_left
                          · intro w' hSw; go_simp; with_reducible rfl
                          try simp only [Act.put, List.getElem_toArray, List.getElem_cons_zero, List.getElem_cons_succ, List.setIfInBounds_toArray, List.set_cons_zero, List.set_cons_succ]
                          refine wpAnyY_takeC (v := ?_) [24, 23, 16] rB16_15 rB16o_15 (fun _ _ _ h => h) (Or.inl ⟨by kernel_rfl, ?_⟩) hS ?_
                          rotate_left
                          · intro w' hSw; go_simp; with_reducible rfl
                          try simp only [Act.put, List.getElem_toArray, List.getElem_cons_zero, List.getElem_cons_succ, List.setIfInBounds_toArray, List.set_cons_zero, List.set_cons_succ]
                          refine wpAnyY_takeC (v := ?_) [24, 23] rB16_16 rB16o_16 (fun _ _ _ h => h) (Or.inl ⟨by kernel_rfl, ?_⟩) hS ?_
                          rotate_left
                          · intro w' hSw; have q1 := hSw.2.1; go_simp; with_reducible rfl
                          try simp only [Act.put, List.getElem_toArray, List.getElem_cons_zero, List.getElem_cons_succ, List.setIfInBounds_toArray, List.set_cons_zero, List.set_cons_succ]
                          refine wpAnyY_takeC (v := ?_) [24, 23, 22, 21, 18] rB16_17 rB16o_17 (fun _ _ _ h => h) (Or.inl ⟨by kernel_rfl, ?_⟩) hS ?_
                          rotate_left
                          · intro w' hSw; have l0 := hSw.1.lt; go_simp; with_reducible rfl
                          try simp only [Act.put, List.getElem_toArray, List.getElem_cons_zero, List.getElem_cons_succ, List.setIfInBounds_toArray, List.set_cons_zero, List.set_cons_succ]
                          refine wpAnyY_takeC (v := ?_) [24, 23, 22, 21] rB16_18 rB16o_18 (fun _ _ _ h => h) (Or.inl ⟨by kernel_rfl, ?_⟩) hS ?_
                          rotate_left
                          · intro w' hSw; have m2 := hSw.1.cell 2; have l0 := hSw.1.lt; go_simp; with_reducible rfl
                          try simp only [Act.put, List.getElem_toArray, List.getElem_cons_zero, List.getElem_cons_succ, List.setIfInBounds_toArray, List.set_cons_zero, List.set_cons_succ]
                          refine wpAnyY_takeC (v := ?_) [24, 23, 22, 21, 20] rB16_19 rB16o_19 (fun _ _ _ h => h) (Or.inl ⟨by kernel_rfl, ?_⟩) hS ?_
                          rotate_left
                          · intro w' hSw; go_simp; with_reducible rfl
                          try simp only [Act.put, List.getElem_toArray, List.getElem_cons_zero, List.getElem_cons_succ, List.setIfInBounds_toArray, List.set_cons_zero, List.set_cons_succ]
                          refine wpAnyY_takeC (v := ?_) [24, 23, 22, 21] rB16_20 rB16o_20 (fun _ _ _ h => h) (Or.inl ⟨by kernel_rfl, ?_⟩) hS ?_
                          rotate_left
                          · intro w' hSw; go_simp; with_reducible rfl
                          try simp only [Act.put, List.getElem_toArray, List.getElem_cons_zero, List.getElem_cons_succ, List.setIfInBounds_toArray, List.set_cons_zero, List.set_cons_succ]
                          refine wpAnyY_takeC (v := ?_) [24, 23, 22] rB16_21 rB16o_21 (fun _ _ _ h => h) (Or.inl ⟨by kernel_rfl, ?_⟩) hS ?_
                          rotate_left
                          · intro w' hSw; go_simp; with_reducible rfl
                          try simp only [Act.put, List.getElem_toArray, List.getElem_cons_zero, List.getElem_cons_succ, List.setIfInBounds_toArray, List.set_cons_zero, List.set_cons_succ]
                          refine wpAnyY_takeC (v := ?_) [24, 23] rB16_22 rB16o_22 (fun _ _ _ h => h) (Or.inl ⟨by kernel_rfl, ?_⟩) hS ?_
                          rotate_left
                          · intro w' hSw; have q2 := hSw.2.2; go_simp; with_reducible rfl
                          try simp only [Act.put, List.getElem_toArray, List.getElem_cons_zero, List.getElem_cons_succ, List.setIfInBounds_toArray, List.set_cons_zero, List.set_cons_succ]
                          refine wpAnyY_takeC (v := ?_) [24] rB16_23 rB16o_23 (fun _ _ _ h => h) (Or.inl ⟨by kernel_rfl, ?_⟩) hS ?_
                          rotate_left
                          · intro w' hSw; go_simp; with_reducible rfl
                          try simp only [Act.put, List.getElem_toArray, List.getElem_cons_zero, List.getElem_cons_succ, List.setIfInBounds_toArray, List.set_cons_zero, List.set_cons_succ]
                          refine wpAnyY_takeC (v := ?_) [] rB16_24 rB16o_24 (fun _ _ _ h => h) (Or.inl ⟨by kernel_rfl, ?_⟩) hS ?_
                          rotate_left
                          · intro w' hSw; go_simp; with_reducible rfl
                          try simp only [Act.put, List.getElem_toArray, List.getElem_cons_zero, List.getElem_cons_succ, List.setIfInBounds_toArray, List.set_cons_zero, List.set_cons_succ]
                          refine wpAnyY_oneW (i := 25) (by kernel_rfl) rB16o_25 (by kernel_rfl) (by kernel_rfl) (fun K25 hK25 => ?_)
                          go_simp
                          refine hK25.out _ _ ?_
                          clear hK25
                          try simp only [Act.put, List.getElem_toArray, List.getElem_cons_zero, List.getElem_cons_succ, List.setIfInBounds_toArray, List.set_cons_zero, List.set_cons_succ]
                          refine wpAnyY_done (by kernel_rfl) ?_ _
                          clear hS hSk
                          have hGz := hG.t ga
                          have HZ := Lib.hid (HF.out _ HBADK.out (g0.t hGz))
                          go_wp2_with fail
                          first | exact HZ.out | (go_ret; exact HZ.out)
                        · have hdl : decide (x ≤ y) = false := decide_eq_false hle
                          have HZN := Lib.hid hzn
                          have HLE := Lib.hid hle
                          clear HBAD
                          go_upto_region 16 with fail
                          refine wp_region_Y (S := fun W' => Blk W' w.heap.size 26 #[.slice ra racers.length rc, .slice pa pools.length pc, .slice (some ⟨gt, oft, none⟩) protests.length tc] ∧ W'.cell? ⟨gt, oft + k, none⟩ = some (.int .i64 x) ∧ W'.cell? ⟨gt, oft + q, none⟩ = some (.int .i64 y)) 25 26 rfl (by kernel_rfl) (hSk _ (G.rf _).d) (fun hS => ?_)
                          have ga := (G.rf wo).d
                          change wpAnyY _ _ opsB16 _ _ 25 26 #[false, false, false, false, false, false, false, false, false, false, false, false, false, false, false, false, false, false, false, false, false, false, false, false, false, false] _ _
                          refine wpAnyY_takeC (v := ?_) [8, 6] rB16_0 rB16o_0 (fun _ _ _ h => h) (Or.inl ⟨by kernel_rfl, ?_⟩) hS ?_
                          rotate_left
                          · intro w' hSw; have m0 := hSw.1.cell 0; have m1 := hSw.1.cell 1; have m2 := hSw.1.cell 2; have l0 := hSw.1.lt; go_simp; with_reducible rfl
                          try simp only [Act.put, List.getElem_toArray, List.getElem_cons_zero, List.getElem_cons_succ, List.setIfInBounds_toArray, List.set_cons_zero, List.set_cons_succ]
                          refine wpAnyY_takeC (v := ?_) [8, 6, 5, 4, 2] rB16_1 rB16o_1 (fun _ _ _ h => h) (Or.inl ⟨by kernel_rfl, ?_⟩) hS ?_
                          rotate_left
                          · intro w' hSw; have l0 := hSw.1.lt; go_simp; with_reducible rfl
                          try simp only [Act.put, List.getElem_toArray, List.getElem_cons_zero, List.getElem_cons_succ, List.setIfInBounds_toArray, List.set_cons_zero, List.set_cons_succ]
                          refine wpAnyY_takeC (v := ?_) [8, 6, 5, 4] rB16_2 rB16o_2 (fun _ _ _ h => h) (Or.inl ⟨by kernel_rfl, ?_⟩) hS ?_
                          rotate_left
                          · intro w' hSw; have m2 := hSw.1.cell 2; have l0 := hSw.1.lt; go_simp; with_reducible rfl
                          try simp only [Act.put, List.getElem_toArray, List.getElem_cons_zero, List.getElem_cons_succ, List.setIfInBounds_toArray, List.set_cons_zero, List.set_cons_succ]
                          refine wpAnyY_takeC (v := ?_) [8, 6, 5, 4] rB16_3 rB16o_3 (fun _ _ _ h => h) (Or.inl ⟨by kernel_rfl, ?_⟩) hS ?_
                          rotate_left
                          · intro w' hSw; go_simp; with_reducible rfl
                          try simp only [Act.put, List.getElem_toArray, List.getElem_cons_zero, List.getElem_cons_succ, List.setIfInBounds_toArray, List.set_cons_zero, List.set_cons_succ]
                          refine wpAnyY_takeC (v := ?_) [8, 6, 5] rB16_4 rB16o_4 (fun _ _ _ h => h) (Or.inl ⟨by kernel_rfl, ?_⟩) hS ?_
                          rotate_left
                          · intro w' hSw; go_simp; with_reducible rfl
                          try simp only [Act.put, List.getElem_toArray, List.getElem_cons_zero, List.getElem_cons_succ, List.setIfInBounds_toArray, List.set_cons_zero, List.set_cons_succ]
                          refine wpAnyY_takeC (v := ?_) [8, 6] rB16_5 rB16o_5 (fun _ _ _ h => h) (Or.inl ⟨by kernel_rfl, ?_⟩) hS ?_
                          rotate_left
                          · intro w' hSw; have q1 := hSw.2.1; go_simp; with_reducible rfl
                          try simp only [Act.put, List.getElem_toArray, List.getElem_cons_zero, List.getElem_cons_succ, List.setIfInBounds_toArray, List.set_cons_zero, List.set_cons_succ]
                          refine wpAnyY_oneSWC rB16_6 rB16o_6 (by kernel_rfl) (fun K6 hK6 => ?_)
                          go_simp
                          refine (HIX.out _ ga).mono ?_
                          rintro e w5 ⟨rfl, hG5⟩
                          replace ga := ga.t hG5
                          refine hK6.out _ _ (hSk _ ga) (fun hS => ?_)
                          clear hK6
                          try simp only [Act.put, List.getElem_toArray, List.getElem_cons_zero, List.getElem_cons_succ, List.setIfInBounds_toArray, List.set_cons_zero, List.set_cons_succ]
                          refine wpAnyY_takeC (v := ?_) [8] rB16_7 rB16o_7 (fun _ _ _ h => h) (Or.inl ⟨by kernel_rfl, ?_⟩) hS ?_
                          rotate_left
                          · intro w' hSw; go_simp; with_reducible rfl
                          try simp only [Act.put, List.getElem_toArray, List.getElem_cons_zero, List.getElem_cons_succ, List.setIfInBounds_toArray, List.set_cons_zero, List.set_cons_succ]
                          refine wpAnyY_takeC (v := ?_) [] rB16_8 rB16o_8 (fun _ _ _ h => h) (Or.inl ⟨by kernel_rfl, ?_⟩) hS ?_
                          rotate_left
                          · intro w' hSw; go_simp; with_reducible rfl
                          try simp only [Act.put, List.getElem_toArray, List.getElem_cons_zero, List.getElem_cons_succ, List.setIfInBounds_toArray, List.set_cons_zero, List.set_cons_succ]
                          refine wpAnyY_takeC (v := ?_) [24, 11, 10] rB16_9 rB16o_9 (fun _ _ _ h => h) (Or.inl ⟨by kernel_rfl, ?_⟩) hS ?_
                          rotate_left
                          · intro w' hSw; go_simp; with_reducible rfl
                          try simp only [Act.put, List.getElem_toArray, List.getElem_cons_zero, List.getElem_cons_succ, List.setIfInBounds_toArray, List.set_cons_zero, List.set_cons_succ]
                          refine wpAnyY_takeC (v := ?_) [24, 11] rB16_10 rB16o_10 (fun _ _ _ h => h) (Or.inl ⟨by kernel_rfl, ?_⟩) hS ?_
                          rotate_left
                          · intro w' hSw; go_simp; with_reducible rfl
                          try simp only [Act.put, List.getElem_toArray, List.getElem_cons_zero, List.getElem_cons_succ, List.setIfInBounds_toArray, List.set_cons_zero, List.set_cons_succ]
                          refine wpAnyY_takeC (v := ?_) [24] rB16_11 rB16o_11 (fun _ _ _ h => h) (Or.inl ⟨by kernel_rfl, ?_⟩) hS ?_
                          rotate_left
                          · intro w' hSw; go_simp; with_reducible rfl
                          try simp only [Act.put, List.getElem_toArray, List.getElem_cons_zero, List.getElem_cons_succ, List.setIfInBounds_toArray, List.set_cons_zero, List.set_cons_succ]
                          refine wpAnyY_takeC (v := ?_) [24, 23, 16, 15, 13] rB16_12 rB16o_12 (fun _ _ _ h => h) (Or.inl ⟨by kernel_rfl, ?_⟩) hS ?_
                          rotate_left
                          · intro w' hSw; have l0 := hSw.1.lt; go_simp; with_reducible rfl
                          try simp only [Act.put, List.getElem_toArray, List.getElem_cons_zero, List.getElem_cons_succ, List.setIfInBounds_toArray, List.set_cons_zero, List.set_cons_succ]
                          refine wpAnyY_takeC (v := ?_) [24, 23, 16, 15] rB16_13 rB16o_13 (fun _ _ _ h => h) (Or.inl ⟨by kernel_rfl, ?_⟩) hS ?_
                          rotate_left
                          · intro w' hSw; have m2 := hSw.1.cell 2; have l0 := hSw.1.lt; go_simp; with_reducible rfl
                          try simp only [Act.put, List.getElem_toArray, List.getElem_cons_zero, List.getElem_cons_succ, List.setIfInBounds_toArray, List.set_cons_zero, List.set_cons_succ]
                          refine wpAnyY_takeC (v := ?_) [24, 23, 16, 15] rB16_14 rB16o_14 (fun _ _ _ h => h) (Or.inl ⟨by kernel_rfl, ?_⟩) hS ?_
                          rotate_left
                          · intro w' hSw; go_simp; with_reducible rfl
                          try simp only [Act.put, List.getElem_toArray, List.getElem_cons_zero, List.getElem_cons_succ, List.setIfInBounds_toArray, List.set_cons_zero, List.set_cons_succ]
                          refine wpAnyY_takeC (v := ?_) [24, 23, 16] rB16_15 rB16o_15 (fun _ _ _ h => h) (Or.inl ⟨by kernel_rfl, ?_⟩) hS ?_
                          rotate_left
                          · intro w' hSw; go_simp; with_reducible rfl
                          try simp only [Act.put, List.getElem_toArray, List.getElem_cons_zero, List.getElem_cons_succ, List.setIfInBounds_toArray, List.set_cons_zero, List.set_cons_succ]
                          refine wpAnyY_takeC (v := ?_) [24, 23] rB16_16 rB16o_16 (fun _ _ _ h => h) (Or.inl ⟨by kernel_rfl, ?_⟩) hS ?_
                          rotate_left
                          · intro w' hSw; have q1 := hSw.2.1; go_simp; with_reducible rfl
                          try simp only [Act.put, List.getElem_toArray, List.getElem_cons_zero, List.getElem_cons_succ, List.setIfInBounds_toArray, List.set_cons_zero, List.set_cons_succ]
                          refine wpAnyY_takeC (v := ?_) [24, 23, 22, 21, 18] rB16_17 rB16o_17 (fun _ _ _ h => h) (Or.inl ⟨by kernel_rfl, ?_⟩) hS ?_
                          rotate_left
                          · intro w' hSw; have l0 := hSw.1.lt; go_simp; with_reducible rfl
                          try simp only [Act.put, List.getElem_toArray, List.getElem_cons_zero, List.getElem_cons_succ, List.setIfInBounds_toArray, List.set_cons_zero, List.set_cons_succ]
                          refine wpAnyY_takeC (v := ?_) [24, 23, 22, 21] rB16_18 rB16o_18 (fun _ _ _ h => h) (Or.inl ⟨by kernel_rfl, ?_⟩) hS ?_
                          rotate_left
                          · intro w' hSw; have m2 := hSw.1.cell 2; have l0 := hSw.1.lt; go_simp; with_reducible rfl
                          try simp only [Act.put, List.getElem_toArray, List.getElem_cons_zero, List.getElem_cons_succ, List.setIfInBounds_toArray, List.set_cons_zero, List.set_cons_succ]
                          refine wpAnyY_takeC (v := ?_) [24, 23, 22, 21, 20] rB16_19 rB16o_19 (fun _ _ _ h => h) (Or.inl ⟨by kernel_rfl, ?_⟩) hS ?_
                          rotate_left
                          · intro w' hSw; go_simp; with_reducible rfl
                          try simp only [Act.put, List.getElem_toArray, List.getElem_cons_zero, List.getElem_cons_succ, List.setIfInBounds_toArray, List.set_cons_zero, List.set_cons_succ]
                          refine wpAnyY_takeC (v := ?_) [24, 23, 22, 21] rB16_20 rB16o_20 (fun _ _ _ h => h) (Or.inl ⟨by kernel_rfl, ?_⟩) hS ?_
                          rotate_left
                          · intro w' hSw; go_simp; with_reducible rfl
                          try simp only [Act.put, List.getElem_toArray, List.getElem_cons_zero, List.getElem_cons_succ, List.setIfInBounds_toArray, List.set_cons_zero, List.set_cons_succ]
                          refine wpAnyY_takeC (v := ?_) [24, 23, 22] rB16_21 rB16o_21 (fun _ _ _ h => h) (Or.inl ⟨by kernel_rfl, ?_⟩) hS ?_
                          rotate_left
                          · intro w' hSw; go_simp; with_reducible rfl
                          try simp only [Act.put, List.getElem_toArray, List.getElem_cons_zero, List.getElem_cons_succ, List.setIfInBounds_toArray, List.set_cons_zero, List.set_cons_succ]
                          refine wpAnyY_takeC (v := ?_) [24, 23] rB16_22 rB16o_22 (fun _ _ _ h => h) (Or.inl ⟨by kernel_rfl, ?_⟩) hS ?_
                          rotate_left
                          · intro w' hSw; have q2 := hSw.2.2; go_simp; with_reducible rfl
                          try simp only [Act.put, List.getElem_toArray, List.getElem_cons_zero, List.getElem_cons_succ, List.setIfInBounds_toArray, List.set_cons_zero, List.set_cons_succ]
                          refine wpAnyY_takeC (v := ?_) [24] rB16_23 rB16o_23 (fun _ _ _ h => h) (Or.inl ⟨by kernel_rfl, ?_⟩) hS ?_
                          rotate_left
                          · intro w' hSw; go_simp; with_reducible rfl
                          try simp only [Act.put, List.getElem_toArray, List.getElem_cons_zero, List.getElem_cons_succ, List.setIfInBounds_toArray, List.set_cons_zero, List.set_cons_succ]
                          refine wpAnyY_takeC (v := ?_) [] rB16_24 rB16o_24 (fun _ _ _ h => h) (Or.inl ⟨by kernel_rfl, ?_⟩) hS ?_
                          rotate_left
                          · intro w' hSw; go_simp; with_reducible rfl
                          try simp only [Act.put, List.getElem_toArray, List.getElem_cons_zero, List.getElem_cons_succ, List.setIfInBounds_toArray, List.set_cons_zero, List.set_cons_succ]
                          refine wpAnyY_oneW (i := 25) (by kernel_rfl) rB16o_25 (by kernel_rfl) (by kernel_rfl) (fun K25 hK25 => ?_)
                          go_simp
                          refine hK25.out _ _ ?_
                          clear hK25
                          try simp only [Act.put, List.getElem_toArray, List.getElem_cons_zero, List.getElem_cons_succ, List.setIfInBounds_toArray, List.set_cons_zero, List.set_cons_succ]
                          refine wpAnyY_done (by kernel_rfl) ?_ _
                          clear hS hSk
                          have hGz := hG.t ga
                          go_wp2_with fail
                          go_roundw
                          case rel => exact ⟨k + 1, by omega, by go_num, fun j hj => by
                            rcases Nat.lt_or_ge j k with h4 | h4
                            · exact HN.out j h4
                            · obtain rfl : j = k := by omega
                              rw [← HX.out, ← HZZ.out, ← HQQ.out, ← HY2.out]
                              exact ⟨HZN.out, fun hh => HLE.out hh.2⟩, hGz⟩
                          case measure => simp [intOf] <;> omega
                  · obtain rfl : k = protests.length := by omega
                    have hki : ¬ ((protests.length : Nat) : Int) < protests.length := by omega
                    have HZ := Lib.hid (HT.out wo (HY.out (by omega) (by omega) (by omega) HRA.out HPA.out (fun k hk => ⟨by have := (HN.out k hk).1; omega, (HN.out k hk).2⟩)) (g0.t hG))
                    go_wp2_with fail
                    first | exact HZ.out | (go_ret; exact HZ.out)
end Go.Proofs.YtnkmcoljijmgpaaGreat
