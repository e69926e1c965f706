import Derived.Laws.StructEq
import Derived.Test.YtnkmcoljijmgpaaGreatCc
set_option linter.unusedSimpArgs false
set_option linter.unusedVariables false
namespace Go.Proofs.YtnkmcoljijmgpaaGreat
open Go.RowKit Go.Shelf Go.Sort Go.Maps
attribute [local go_sem] Oper.semAt_some
def valR (r : Ra) (p : Int) : Bool := !farR r && (raceB r && (decide (0 ≤ p) && decide (p < r.pools.length)))
theorem valR_at {r : Ra} {p : Int} {W : World} (h : r.Laid W) (hv : valR r p = true) : r.At W ∧ raceB r = true ∧ 0 ≤ p ∧ p < r.pools.length := by
  unfold valR at hv
  simp only [Bool.and_eq_true, Bool.not_eq_true', decide_eq_true_eq] at hv
  exact ⟨h.at hv.1, hv.2.1, hv.2.2.1, hv.2.2.2⟩
theorem valR_q {r : Ra} {p : Int} (hv : valR r p = true) : qE r p [] = 0 := by
  unfold valR at hv
  simp only [Bool.and_eq_true, Bool.not_eq_true', decide_eq_true_eq] at hv
  have h : isInB p 0 ((r.pools.length : Int) - 1) = true := by
    unfold isInB
    simp only [Bool.and_eq_true, decide_eq_true_eq]
    omega
  unfold qE
  rw [if_pos hv.2.1, if_pos h]
  rfl
set_option maxRecDepth 100000 in
set_option maxHeartbeats 8000000 in
theorem valid8_any (r : Ra) (p : Int) (w : World) (h : r.Laid w) : Calls Tryz.prog 20 #[.agg r.v, .int .i64 p] w fun e w' => e = .returned (.bool (valR r p)) ∧ G w w' := by
  have HFA := Lib.hid (fun (W : World) (hW : G w W) => Far8_any r W (h.keep hW))
  have HCH := Lib.hid (fun (hf : farR r = false) (W : World) (hW : G w W) => refCheck8_any r W ((h.keep hW).at hf))
  have HZ : Hid (∀ bb W', valR r p = bb → G w W' → ((Ending.returned (.bool bb) = .returned (.bool (valR r p))) ∧ G w W')) := fun bb W' a b => ⟨by rw [a], b⟩
  have HE : Hid (valR r p = (!farR r && (raceB r && (decide (0 ≤ p) && decide (p < r.pools.length))))) := rfl
  generalize valR r p = VB at *
  unfold chk8 at HCH
  have hrv : r.v = #[.slice r.ra r.racers.length r.rc, .slice r.pa r.pools.length r.pc, .slice r.ta r.protests.length r.tc] := rfl
  rw [hrv] at HFA HCH ⊢
  clear hrv h
  have g0 : G w (w.alloc (.cells #[.slice r.ra r.racers.length r.rc, .slice r.pa r.pools.length r.pc, .slice r.ta r.protests.length r.tc] 26)) := (G.rf _).a _
  have b0 : Blk (w.alloc (.cells #[.slice r.ra r.racers.length r.rc, .slice r.pa r.pools.length r.pc, .slice r.ta r.protests.length r.tc] 26)) w.heap.size 26 #[.slice r.ra r.racers.length r.rc, .slice r.pa r.pools.length r.pc, .slice r.ta r.protests.length r.tc] := Blk.new _ _ _
  go_enter Tryz.func20, Tryz.ntmps20
  go_upto_region 1 with fail
  change Code.wp _ _ _ _ (w.alloc (.cells #[.slice r.ra r.racers.length r.rc, .slice r.pa r.pools.length r.pc, .slice r.ta r.protests.length r.tc] 26))
  generalize w.alloc (.cells #[.slice r.ra r.racers.length r.rc, .slice r.pa r.pools.length r.pc, .slice r.ta r.protests.length r.tc] 26) = W1 at *
  have m0 := b0.cell 0
  have m1 := b0.cell 1
  have m2 := b0.cell 2
  have l0 := b0.lt
  generalize farR r = FR at *
  cases FR
  · have HCH2 := Lib.hid (HCH.out rfl)
    clear HCH
    generalize raceB r = RB at *
    cases RB
    · simp only [Bool.false_eq_true, if_false] at HCH2
      go_wp2_with (first | (go_at_call 13; refine (HFA.out _ g0).mono ?_; rintro e w2 ⟨rfl, hG2⟩; clear m0 m1 m2 l0; have m0 := (b0.keep hG2).cell 0; have m1 := (b0.keep hG2).cell 1; have m2 := (b0.keep hG2).cell 2; have l0 := (b0.keep hG2).lt) | (go_at_call 14; refine (HCH2.out _ (g0.t hG2)).mono ?_; rintro e w3 ⟨rfl, hG3⟩))
      have HF := Lib.hid (HZ.out false _ (by rw [HE.out]; simp) ((g0.t hG2).t hG3))
      first | exact HF.out | (go_ret; exact HF.out)
    · simp only [if_true] at HCH2
      by_cases h1 : 0 ≤ p
      · by_cases h2 : p < r.pools.length
        · have HV : Hid ((!false && (true && (decide (0 ≤ p) && decide (p < r.pools.length)))) = true) := by show _ = _; simp [h1, h2]
          go_wp2_with (first | (go_at_call 13; refine (HFA.out _ g0).mono ?_; rintro e w2 ⟨rfl, hG2⟩; clear m0 m1 m2 l0; have m0 := (b0.keep hG2).cell 0; have m1 := (b0.keep hG2).cell 1; have m2 := (b0.keep hG2).cell 2; have l0 := (b0.keep hG2).lt) | (go_at_call 14; refine (HCH2.out _ (g0.t hG2)).mono ?_; rintro e w3 ⟨rfl, hG3⟩; clear m0 m1 m2 l0; have m1 := ((b0.keep hG2).keep hG3).cell 1; have l0 := ((b0.keep hG2).keep hG3).lt))
          have HF := Lib.hid (HZ.out true _ (HE.out.trans HV.out) ((g0.t hG2).t hG3))
          first | exact HF.out | (go_ret; exact HF.out)
        · have HV : Hid ((!false && (true && (decide (0 ≤ p) && decide (p < r.pools.length)))) = false) := by show _ = _; simp [h2]
          have hd : decide (p < r.pools.length) = false := decide_eq_false h2
          go_wp2_with (first | (go_at_call 13; refine (HFA.out _ g0).mono ?_; rintro e w2 ⟨rfl, hG2⟩; clear m0 m1 m2 l0; have m0 := (b0.keep hG2).cell 0; have m1 := (b0.keep hG2).cell 1; have m2 := (b0.keep hG2).cell 2; have l0 := (b0.keep hG2).lt) | (go_at_call 14; refine (HCH2.out _ (g0.t hG2)).mono ?_; rintro e w3 ⟨rfl, hG3⟩; clear m0 m1 m2 l0; have m1 := ((b0.keep hG2).keep hG3).cell 1; have l0 := ((b0.keep hG2).keep hG3).lt))
          have HF := Lib.hid (HZ.out false _ (HE.out.trans HV.out) ((g0.t hG2).t hG3))
          first | exact HF.out | (go_ret; exact HF.out) | (go_ret; rw [hd]; exact HF.out)
      · have HV : Hid ((!false && (true && (decide (0 ≤ p) && decide (p < r.pools.length)))) = false) := by show _ = _; simp [h1]
        have hd : decide (0 ≤ p) = false := decide_eq_false h1
        have hd2 : decide (p ≥ 0) = false := decide_eq_false h1
        go_wp2_with (first | (go_at_call 13; refine (HFA.out _ g0).mono ?_; rintro e w2 ⟨rfl, hG2⟩; clear m0 m1 m2 l0; have m0 := (b0.keep hG2).cell 0; have m1 := (b0.keep hG2).cell 1; have m2 := (b0.keep hG2).cell 2; have l0 := (b0.keep hG2).lt) | (go_at_call 14; refine (HCH2.out _ (g0.t hG2)).mono ?_; rintro e w3 ⟨rfl, hG3⟩; clear m0 m1 m2 l0))
        have HF := Lib.hid (HZ.out false _ (HE.out.trans HV.out) ((g0.t hG2).t hG3))
        first | exact HF.out | (go_ret; exact HF.out)
  · go_wp2_with (go_at_call 13; refine (HFA.out _ g0).mono ?_; rintro e w2 ⟨rfl, hG2⟩)
    have HF := Lib.hid (HZ.out false _ (by rw [HE.out]; simp) (g0.t hG2))
    first | exact HF.out | (go_ret; exact HF.out)
theorem In_any (l : List Int) (a : Option Addr) (cap : Nat) (n : Int) (w : World) (h : IntsAt w a l) (hl : l.length ≤ 1000) : Calls Tryz.prog 28 #[.slice a l.length cap, .int .i64 n] w fun e w' => e = .returned (.bool (inL l n)) ∧ G w w' := by
  go_enter Tryz.func28, Tryz.ntmps28
  go_wp2_with fail
  go_loopw [5] (fun i wr => ∃ k : Nat, k ≤ l.length ∧ i = .int .i64 k ∧ Hid (∀ j, j < k → (n == l.getD j 0) = false) ∧ G w wr) (fun i _ => l.length - (intOf i).toNat)
  case atStart => exact ⟨0, Nat.zero_le _, rfl, fun j hj => by omega, G.rf _⟩
  case round =>
    obtain ⟨k, hk, rfl, hno, hG⟩ := hrel
    by_cases hlt : k < l.length
    · have hki : (k : Int) < l.length := by omega
      rcases h with rfl | ⟨g, off, rfl, hg, hcell⟩
      · simp at hlt
      have lg := Nat.lt_of_lt_of_le hg hG.size
      have q0 := ((bcellB hG).1 g _ hg).trans (hcell k hlt)
      obtain ⟨y, hy⟩ : ∃ y, y = l.getD k 0 := ⟨_, rfl⟩
      have HY := Lib.hid hy
      rw [← hy] at q0
      clear hy hcell
      cases hp : (n == y)
      · have HP := Lib.hid hp
        have hne : ¬ y = n := fun e => by rw [e] at hp; simp at hp
        have hnb : (y == n) = false := by simpa using hne
        clear hp
        go_wp2_with fail
        go_roundw
        case rel => exact ⟨k + 1, by omega, by go_num, fun j hj => by
          rcases Nat.lt_or_ge j k with h | h
          · exact hno.out j h
          · obtain rfl : j = k := by omega
            rw [← HY.out]; exact HP.out, hG⟩
        case measure => simp [intOf] <;> omega
      · have HP : Hid (inL l n = true) := anyU_yes hlt (by rw [← HY.out]; exact hp)
        have hne : y = n := by have : n = y := by simpa using hp
                               exact this.symm
        subst hne
        clear hp
        go_wp2_with fail
        go_ret
        exact ⟨by rw [HP.out]; rfl, hG⟩
    · have hki : ¬ (k : Int) < l.length := by omega
      obtain rfl : k = l.length := by omega
      have HP : Hid (inL l n = false) := anyU_no hno.out
      go_wp2_with fail
      go_ret
      exact ⟨by rw [HP.out]; rfl, hG⟩
theorem neq40 (a b c : Int) (w : World) : (binOp .neq 40 (.agg #[.int .i64 a, .int .i64 b, .int .i64 c]) (.agg #[.int .i64 a, .int .i64 b, .int .i64 c])).run Tryz.prog w = .ok (.bool false) w := by
  go_simp
theorem neq47 (a b c : Int) (w : World) : (binOp .neq 47 (.agg #[.int .i64 a, .int .i64 b, .int .i64 c]) (.agg #[.int .i64 a, .int .i64 b, .int .i64 c])).run Tryz.prog w = .ok (.bool false) w := by
  go_simp
set_option maxRecDepth 100000 in
set_option maxHeartbeats 4000000 in
theorem same26_any (l : List Pz) (a b : Option Addr) (c d : Nat) (w : World) (h1 : RowE Pz.v 3 w a l) (h2 : RowE Pz.v 3 w b l) (hl : l.length ≤ 1000) : Calls Tryz.prog 26 #[.slice a l.length c, .slice b l.length d] w fun e w' => e = .returned (.bool true) ∧ G w w' := by
  go_enter Tryz.func26, Tryz.ntmps26
  go_wp2_with fail
  go_loopw [5] (fun i wr => ∃ k : Nat, k ≤ l.length ∧ i = .int .i64 k ∧ G w wr) (fun i _ => l.length - (intOf i).toNat)
  case atStart => exact ⟨0, Nat.zero_le _, rfl, G.rf _⟩
  case round =>
    obtain ⟨k, hk, rfl, hG⟩ := hrel
    obtain ⟨wo, rfl⟩ : ∃ wo, wo = wr := ⟨_, rfl⟩
    by_cases hlt : k < l.length
    · have hki : (k : Int) < l.length := by omega
      rcases h1 with h | ⟨g1, o1, rfl, hg1, hc1⟩
      · omega
      rcases h2 with h | ⟨g2, o2, rfl, hg2, hc2⟩
      · omega
      have e1 := hc1 k hlt
      have e2 := hc2 k hlt
      obtain ⟨y, hy⟩ : ∃ y, y = l.getD k default := ⟨_, rfl⟩
      rw [← hy] at e1 e2
      clear hy hc1 hc2
      obtain ⟨x0, x1, x2⟩ := y
      unfold Pz.v at e1 e2
      have hSk : ∀ W', G wo W' → (W'.cell? ⟨g1, o1 + k * 3, none⟩ = some (.int .i64 x0) ∧ W'.cell? ⟨g1, o1 + k * 3 + 1, none⟩ = some (.int .i64 x1) ∧ W'.cell? ⟨g1, o1 + k * 3 + 2, none⟩ = some (.int .i64 x2) ∧ g1 < W'.heap.size) ∧ W'.cell? ⟨g2, o2 + k * 3, none⟩ = some (.int .i64 x0) ∧ W'.cell? ⟨g2, o2 + k * 3 + 1, none⟩ = some (.int .i64 x1) ∧ W'.cell? ⟨g2, o2 + k * 3 + 2, none⟩ = some (.int .i64 x2) ∧ g2 < W'.heap.size := fun W' hW => ⟨⟨((bcellB (hG.t hW)).1 g1 _ hg1).trans (e1 0 (by omega)), ((bcellB (hG.t hW)).1 g1 _ hg1).trans (e1 1 (by omega)), ((bcellB (hG.t hW)).1 g1 _ hg1).trans (e1 2 (by omega)), Nat.lt_of_lt_of_le hg1 (hG.t hW).size⟩, ((bcellB (hG.t hW)).1 g2 _ hg2).trans (e2 0 (by omega)), ((bcellB (hG.t hW)).1 g2 _ hg2).trans (e2 1 (by omega)), ((bcellB (hG.t hW)).1 g2 _ hg2).trans (e2 2 (by omega)), Nat.lt_of_lt_of_le hg2 (hG.t hW).size⟩
      clear e1 e2
      have hnq := neq40
      go_upto_region 6 with fail
      refine wp_region_Y (S := fun W' => (W'.cell? ⟨g1, o1 + k * 3, none⟩ = some (.int .i64 x0) ∧ W'.cell? ⟨g1, o1 + k * 3 + 1, none⟩ = some (.int .i64 x1) ∧ W'.cell? ⟨g1, o1 + k * 3 + 2, none⟩ = some (.int .i64 x2) ∧ g1 < W'.heap.size) ∧ W'.cell? ⟨g2, o2 + k * 3, none⟩ = some (.int .i64 x0) ∧ W'.cell? ⟨g2, o2 + k * 3 + 1, none⟩ = some (.int .i64 x1) ∧ W'.cell? ⟨g2, o2 + k * 3 + 2, none⟩ = some (.int .i64 x2) ∧ g2 < W'.heap.size) 8 9 rfl (by kernel_rfl) (hSk _ (G.rf _).d) (fun hS => ?_)
      have ga := (G.rf wo).d
      refine wpAnyY_take (i := 0) (v := ?_) rfl (by kernel_rfl) (by kernel_rfl) (by kernel_rfl) (by kernel_rfl) (fun _ _ _ h => h) (Or.inl ⟨by kernel_rfl, ?_⟩) hS ?_
      rotate_left
      · intro w' hSw; go_simp; with_reducible rfl
      try simp only [Act.put, List.getElem_toArray, List.getElem_cons_zero, List.getElem_cons_succ, List.setIfInBounds_toArray, List.set_cons_zero, List.set_cons_succ]
      refine wpAnyY_take (i := 1) (v := ?_) rfl (by kernel_rfl) (by kernel_rfl) (by kernel_rfl) (by kernel_rfl) (fun _ _ _ h => h) (Or.inl ⟨by kernel_rfl, ?_⟩) hS ?_
      rotate_left
      · intro w' hSw; go_simp; with_reducible rfl
      try simp only [Act.put, List.getElem_toArray, List.getElem_cons_zero, List.getElem_cons_succ, List.setIfInBounds_toArray, List.set_cons_zero, List.set_cons_succ]
      refine wpAnyY_take (i := 2) (v := ?_) rfl (by kernel_rfl) (by kernel_rfl) (by kernel_rfl) (by kernel_rfl) (fun _ _ _ h => h) (Or.inl ⟨by kernel_rfl, ?_⟩) hS ?_
      rotate_left
      · intro w' hSw; obtain ⟨⟨a0, a1, a2, la⟩, b0, b1, b2, lb⟩ := hSw; go_simp; with_reducible rfl
      try simp only [Act.put, List.getElem_toArray, List.getElem_cons_zero, List.getElem_cons_succ, List.setIfInBounds_toArray, List.set_cons_zero, List.set_cons_succ]
      refine wpAnyY_take (i := 3) (v := ?_) rfl (by kernel_rfl) (by kernel_rfl) (by kernel_rfl) (by kernel_rfl) (fun _ _ _ h => h) (Or.inl ⟨by kernel_rfl, ?_⟩) hS ?_
      rotate_left
      · intro w' hSw; obtain ⟨⟨a0, a1, a2, la⟩, b0, b1, b2, lb⟩ := hSw; go_simp; with_reducible rfl
      try simp only [Act.put, List.getElem_toArray, List.getElem_cons_zero, List.getElem_cons_succ, List.setIfInBounds_toArray, List.set_cons_zero, List.set_cons_succ]
      refine wpAnyY_take (i := 4) (v := ?_) rfl (by kernel_rfl) (by kernel_rfl) (by kernel_rfl) (by kernel_rfl) (fun _ _ _ h => h) (Or.inl ⟨by kernel_rfl, ?_⟩) hS ?_
      rotate_left
      · intro w' hSw; go_simp; with_reducible rfl
      try simp only [Act.put, List.getElem_toArray, List.getElem_cons_zero, List.getElem_cons_succ, List.setIfInBounds_toArray, List.set_cons_zero, List.set_cons_succ]
      refine wpAnyY_take (i := 5) (v := ?_) rfl (by kernel_rfl) (by kernel_rfl) (by kernel_rfl) (by kernel_rfl) (fun _ _ _ h => h) (Or.inl ⟨by kernel_rfl, ?_⟩) hS ?_
      rotate_left
      · intro w' hSw; go_simp; with_reducible rfl
      try simp only [Act.put, List.getElem_toArray, List.getElem_cons_zero, List.getElem_cons_succ, List.setIfInBounds_toArray, List.set_cons_zero, List.set_cons_succ]
      refine wpAnyY_take (i := 6) (v := ?_) rfl (by kernel_rfl) (by kernel_rfl) (by kernel_rfl) (by kernel_rfl) (fun _ _ _ h => h) (Or.inl ⟨by kernel_rfl, ?_⟩) hS ?_
      rotate_left
      · intro w' hSw; obtain ⟨⟨a0, a1, a2, la⟩, b0, b1, b2, lb⟩ := hSw; go_simp; with_reducible rfl
      try simp only [Act.put, List.getElem_toArray, List.getElem_cons_zero, List.getElem_cons_succ, List.setIfInBounds_toArray, List.set_cons_zero, List.set_cons_succ]
      refine wpAnyY_take (i := 7) (v := ?_) rfl (by kernel_rfl) (by kernel_rfl) (by kernel_rfl) (by kernel_rfl) (fun _ _ _ h => h) (Or.inl ⟨by kernel_rfl, ?_⟩) hS ?_
      rotate_left
      · intro w' hSw; obtain ⟨⟨a0, a1, a2, la⟩, b0, b1, b2, lb⟩ := hSw; go_simp; with_reducible rfl
      try simp only [Act.put, List.getElem_toArray, List.getElem_cons_zero, List.getElem_cons_succ, List.setIfInBounds_toArray, List.set_cons_zero, List.set_cons_succ]
      refine wpAnyY_oneW (i := 8) (by kernel_rfl) rfl (by kernel_rfl) (by kernel_rfl) (fun K8 hK8 => ?_)
      go_simp
      refine hK8.out _ _ ?_
      clear hK8
      try simp only [Act.put, List.getElem_toArray, List.getElem_cons_zero, List.getElem_cons_succ, List.setIfInBounds_toArray, List.set_cons_zero, List.set_cons_succ]
      refine wpAnyY_done (by kernel_rfl) ?_ _
      clear hS hSk
      go_wp2_with fail
      go_roundw
      case rel => exact ⟨k + 1, by omega, by go_num, hG.t ga⟩
      case measure => simp [intOf] <;> omega
    · obtain rfl : k = l.length := by omega
      have hki : ¬ ((l.length : Nat) : Int) < l.length := by omega
      go_wp2_with fail
      go_ret
      exact ⟨rfl, hG⟩
set_option maxRecDepth 100000 in
set_option maxHeartbeats 4000000 in
theorem same27_any (l : List Pu) (a b : Option Addr) (c d : Nat) (w : World) (h1 : RowE Pu.v 3 w a l) (h2 : RowE Pu.v 3 w b l) (hl : l.length ≤ 1000) : Calls Tryz.prog 27 #[.slice a l.length c, .slice b l.length d] w fun e w' => e = .returned (.bool true) ∧ G w w' := by
  go_enter Tryz.func27, Tryz.ntmps27
  go_wp2_with fail
  go_loopw [5] (fun i wr => ∃ k : Nat, k ≤ l.length ∧ i = .int .i64 k ∧ G w wr) (fun i _ => l.length - (intOf i).toNat)
  case atStart => exact ⟨0, Nat.zero_le _, rfl, G.rf _⟩
  case round =>
    obtain ⟨k, hk, rfl, hG⟩ := hrel
    obtain ⟨wo, rfl⟩ : ∃ wo, wo = wr := ⟨_, rfl⟩
    by_cases hlt : k < l.length
    · have hki : (k : Int) < l.length := by omega
      rcases h1 with h | ⟨g1, o1, rfl, hg1, hc1⟩
      · omega
      rcases h2 with h | ⟨g2, o2, rfl, hg2, hc2⟩
      · omega
      have e1 := hc1 k hlt
      have e2 := hc2 k hlt
      obtain ⟨y, hy⟩ : ∃ y, y = l.getD k default := ⟨_, rfl⟩
      rw [← hy] at e1 e2
      clear hy hc1 hc2
      obtain ⟨x0, x1, x2⟩ := y
      unfold Pu.v at e1 e2
      have hSk : ∀ W', G wo W' → (W'.cell? ⟨g1, o1 + k * 3, none⟩ = some (.int .i64 x0) ∧ W'.cell? ⟨g1, o1 + k * 3 + 1, none⟩ = some (.int .i64 x1) ∧ W'.cell? ⟨g1, o1 + k * 3 + 2, none⟩ = some (.int .i64 x2) ∧ g1 < W'.heap.size) ∧ W'.cell? ⟨g2, o2 + k * 3, none⟩ = some (.int .i64 x0) ∧ W'.cell? ⟨g2, o2 + k * 3 + 1, none⟩ = some (.int .i64 x1) ∧ W'.cell? ⟨g2, o2 + k * 3 + 2, none⟩ = some (.int .i64 x2) ∧ g2 < W'.heap.size := fun W' hW => ⟨⟨((bcellB (hG.t hW)).1 g1 _ hg1).trans (e1 0 (by omega)), ((bcellB (hG.t hW)).1 g1 _ hg1).trans (e1 1 (by omega)), ((bcellB (hG.t hW)).1 g1 _ hg1).trans (e1 2 (by omega)), Nat.lt_of_lt_of_le hg1 (hG.t hW).size⟩, ((bcellB (hG.t hW)).1 g2 _ hg2).trans (e2 0 (by omega)), ((bcellB (hG.t hW)).1 g2 _ hg2).trans (e2 1 (by omega)), ((bcellB (hG.t hW)).1 g2 _ hg2).trans (e2 2 (by omega)), Nat.lt_of_lt_of_le hg2 (hG.t hW).size⟩
      clear e1 e2
      have hnq := neq47
      go_upto_region 6 with fail
      refine wp_region_Y (S := fun W' => (W'.cell? ⟨g1, o1 + k * 3, none⟩ = some (.int .i64 x0) ∧ W'.cell? ⟨g1, o1 + k * 3 + 1, none⟩ = some (.int .i64 x1) ∧ W'.cell? ⟨g1, o1 + k * 3 + 2, none⟩ = some (.int .i64 x2) ∧ g1 < W'.heap.size) ∧ W'.cell? ⟨g2, o2 + k * 3, none⟩ = some (.int .i64 x0) ∧ W'.cell? ⟨g2, o2 + k * 3 + 1, none⟩ = some (.int .i64 x1) ∧ W'.cell? ⟨g2, o2 + k * 3 + 2, none⟩ = some (.int .i64 x2) ∧ g2 < W'.heap.size) 8 9 rfl (by kernel_rfl) (hSk _ (G.rf _).d) (fun hS => ?_)
      have ga := (G.rf wo).d
      refine wpAnyY_take (i := 0) (v := ?_) rfl (by kernel_rfl) (by kernel_rfl) (by kernel_rfl) (by kernel_rfl) (fun _ _ _ h => h) (Or.inl ⟨by kernel_rfl, ?_⟩) hS ?_
      rotate_left
      · intro w' hSw; go_simp; with_reducible rfl
      try simp only [Act.put, List.getElem_toArray, List.getElem_cons_zero, List.getElem_cons_succ, List.setIfInBounds_toArray, List.set_cons_zero, List.set_cons_succ]
      refine wpAnyY_take (i := 1) (v := ?_) rfl (by kernel_rfl) (by kernel_rfl) (by kernel_rfl) (by kernel_rfl) (fun _ _ _ h => h) (Or.inl ⟨by kernel_rfl, ?_⟩) hS ?_
      rotate_left
      · intro w' hSw; go_simp; with_reducible rfl
      try simp only [Act.put, List.getElem_toArray, List.getElem_cons_zero, List.getElem_cons_succ, List.setIfInBounds_toArray, List.set_cons_zero, List.set_cons_succ]
      refine wpAnyY_take (i := 2) (v := ?_) rfl (by kernel_rfl) (by kernel_rfl) (by kernel_rfl) (by kernel_rfl) (fun _ _ _ h => h) (Or.inl ⟨by kernel_rfl, ?_⟩) hS ?_
      rotate_left
      · intro w' hSw; obtain ⟨⟨a0, a1, a2, la⟩, b0, b1, b2, lb⟩ := hSw; go_simp; with_reducible rfl
      try simp only [Act.put, List.getElem_toArray, List.getElem_cons_zero, List.getElem_cons_succ, List.setIfInBounds_toArray, List.set_cons_zero, List.set_cons_succ]
      refine wpAnyY_take (i := 3) (v := ?_) rfl (by kernel_rfl) (by kernel_rfl) (by kernel_rfl) (by kernel_rfl) (fun _ _ _ h => h) (Or.inl ⟨by kernel_rfl, ?_⟩) hS ?_
      rotate_left
      · intro w' hSw; obtain ⟨⟨a0, a1, a2, la⟩, b0, b1, b2, lb⟩ := hSw; go_simp; with_reducible rfl
      try simp only [Act.put, List.getElem_toArray, List.getElem_cons_zero, List.getElem_cons_succ, List.setIfInBounds_toArray, List.set_cons_zero, List.set_cons_succ]
      refine wpAnyY_take (i := 4) (v := ?_) rfl (by kernel_rfl) (by kernel_rfl) (by kernel_rfl) (by kernel_rfl) (fun _ _ _ h => h) (Or.inl ⟨by kernel_rfl, ?_⟩) hS ?_
      rotate_left
      · intro w' hSw; go_simp; with_reducible rfl
      try simp only [Act.put, List.getElem_toArray, List.getElem_cons_zero, List.getElem_cons_succ, List.setIfInBounds_toArray, List.set_cons_zero, List.set_cons_succ]
      refine wpAnyY_take (i := 5) (v := ?_) rfl (by kernel_rfl) (by kernel_rfl) (by kernel_rfl) (by kernel_rfl) (fun _ _ _ h => h) (Or.inl ⟨by kernel_rfl, ?_⟩) hS ?_
      rotate_left
      · intro w' hSw; go_simp; with_reducible rfl
      try simp only [Act.put, List.getElem_toArray, List.getElem_cons_zero, List.getElem_cons_succ, List.setIfInBounds_toArray, List.set_cons_zero, List.set_cons_succ]
      refine wpAnyY_take (i := 6) (v := ?_) rfl (by kernel_rfl) (by kernel_rfl) (by kernel_rfl) (by kernel_rfl) (fun _ _ _ h => h) (Or.inl ⟨by kernel_rfl, ?_⟩) hS ?_
      rotate_left
      · intro w' hSw; obtain ⟨⟨a0, a1, a2, la⟩, b0, b1, b2, lb⟩ := hSw; go_simp; with_reducible rfl
      try simp only [Act.put, List.getElem_toArray, List.getElem_cons_zero, List.getElem_cons_succ, List.setIfInBounds_toArray, List.set_cons_zero, List.set_cons_succ]
      refine wpAnyY_take (i := 7) (v := ?_) rfl (by kernel_rfl) (by kernel_rfl) (by kernel_rfl) (by kernel_rfl) (fun _ _ _ h => h) (Or.inl ⟨by kernel_rfl, ?_⟩) hS ?_
      rotate_left
      · intro w' hSw; obtain ⟨⟨a0, a1, a2, la⟩, b0, b1, b2, lb⟩ := hSw; go_simp; with_reducible rfl
      try simp only [Act.put, List.getElem_toArray, List.getElem_cons_zero, List.getElem_cons_succ, List.setIfInBounds_toArray, List.set_cons_zero, List.set_cons_succ]
      refine wpAnyY_oneW (i := 8) (by kernel_rfl) rfl (by kernel_rfl) (by kernel_rfl) (fun K8 hK8 => ?_)
      go_simp
      refine hK8.out _ _ ?_
      clear hK8
      try simp only [Act.put, List.getElem_toArray, List.getElem_cons_zero, List.getElem_cons_succ, List.setIfInBounds_toArray, List.set_cons_zero, List.set_cons_succ]
      refine wpAnyY_done (by kernel_rfl) ?_ _
      clear hS hSk
      go_wp2_with fail
      go_roundw
      case rel => exact ⟨k + 1, by omega, by go_num, hG.t ga⟩
      case measure => simp [intOf] <;> omega
    · obtain rfl : k = l.length := by omega
      have hki : ¬ ((l.length : Nat) : Int) < l.length := by omega
      go_wp2_with fail
      go_ret
      exact ⟨rfl, hG⟩
end Go.Proofs.YtnkmcoljijmgpaaGreat
