import Derived.Test.YtcekdljjmfkacaaGreatXe
import Derived.Test.YtcekdljjmfkacaaGreatXh
set_option linter.unusedSimpArgs false
set_option linter.unusedVariables false
namespace Go.Proofs.YtcekdljjmfkacaaGreat
open Go.RowKit Go.Shelf
attribute [local go_sem] Oper.semAt_some wide_fn wide_dep wideR_fn wideR_dep
theorem eqIn30 (d : Nat) (a b c e : Int) (w : World) : (Op.equalIn (d + 2) 30 (.agg #[.int .i64 a, .int .i64 b]) (.agg #[.int .i64 c, .int .i64 e])).run Tryz.prog w = .ok (a == c && b == e) w := by
  have u3 := Tryz.underlying3
  have hS : Tryz.prog.underlying 30 = some (.struct (Tryz.prog.fieldsOf 30)) := by kernel_rfl
  have hp : Tryz.prog.stoodInHeld 30 = false := by kernel_rfl
  rw [run_equalIn_agg w (d + 1) 30 _ _ hS hp]
  simp only [Program.fieldsOf, Tryz.underlying30]
  go_simp
  by_cases h1 : a = c <;> by_cases h2 : b = e <;> simp [h1, h2]
theorem eqIn49 (d : Nat) (a b c e f g : Int) (w : World) : (Op.equalIn (d + 5) 49 (.agg #[.int .i64 a, .int .i64 b, .int .i64 c, .int .i64 e, .int .i64 f, .int .i64 g]) (.agg #[.int .i64 a, .int .i64 b, .int .i64 c, .int .i64 e, .int .i64 f, .int .i64 g])).run Tryz.prog w = .ok true w := by
  have hS : Tryz.prog.underlying 49 = some (.struct (Tryz.prog.fieldsOf 49)) := by kernel_rfl
  have hp : Tryz.prog.stoodInHeld 49 = false := by kernel_rfl
  rw [run_equalIn_agg w (d + 4) 49 _ _ hS hp]
  simp only [Program.fieldsOf, Tryz.underlying49]
  clear hS hp
  have e4 := fun (d : Nat) (x y : Int) (w : World) => eqIn30 d x y x y w
  simp only [beq_self_eq_true, Bool.and_self] at e4
  go_simp
theorem eq49 (a b c e f g : Int) (w : World) : (binOp .eql 49 (.agg #[.int .i64 a, .int .i64 b, .int .i64 c, .int .i64 e, .int .i64 f, .int .i64 g]) (.agg #[.int .i64 a, .int .i64 b, .int .i64 c, .int .i64 e, .int .i64 f, .int .i64 g])).run Tryz.prog w = .ok (.bool true) w := by
  have e1 := eqIn49 9995 a b c e f g w
  rw [run_eql_struct, show (10000 : Nat) = 9995 + 5 from rfl, e1]
  rfl
theorem neq27 (a b : Int) (w : World) : (binOp .neq 27 (.agg #[.int .i64 a, .int .i64 b]) (.agg #[.int .i64 a, .int .i64 b])).run Tryz.prog w = .ok (.bool false) w := by
  go_simp
theorem neq30 (a b : Int) (w : World) : (binOp .neq 30 (.agg #[.int .i64 a, .int .i64 b]) (.agg #[.int .i64 a, .int .i64 b])).run Tryz.prog w = .ok (.bool false) w := by
  go_simp
theorem neq67 (a b c : Int) (w : World) : (binOp .neq 67 (.agg #[.int .i64 a, .int .i64 b, .int .i64 c]) (.agg #[.int .i64 a, .int .i64 b, .int .i64 c])).run Tryz.prog w = .ok (.bool false) w := by
  go_simp
set_option maxRecDepth 20000 in
set_option maxHeartbeats 2000000 in
theorem neq71 (a0 a1 a2 a3 a4 a5 a6 a7 a8 a9 a10 a11 : Int) (w : World) : (binOp .neq 71 (.agg #[.int .i64 a0, .int .i64 a1, .int .i64 a2, .int .i64 a3, .int .i64 a4, .int .i64 a5, .int .i64 a6, .int .i64 a7, .int .i64 a8, .int .i64 a9, .int .i64 a10, .int .i64 a11]) (.agg #[.int .i64 a0, .int .i64 a1, .int .i64 a2, .int .i64 a3, .int .i64 a4, .int .i64 a5, .int .i64 a6, .int .i64 a7, .int .i64 a8, .int .i64 a9, .int .i64 a10, .int .i64 a11])).run Tryz.prog w = .ok (.bool false) w := by
  have hS : Tryz.prog.underlying 71 = some (.struct (Tryz.prog.fieldsOf 71)) := by kernel_rfl
  have hp : Tryz.prog.stoodInHeld 71 = false := by kernel_rfl
  rw [run_neq_struct, show (10000 : Nat) = 9999 + 1 from rfl, run_equalIn_agg w 9999 71 _ _ hS hp]
  simp only [Program.fieldsOf, Tryz.underlying71]
  clear hS hp
  have e4 := fun (d : Nat) (x y : Int) (w : World) => eqIn30 d x y x y w
  simp only [beq_self_eq_true, Bool.and_self] at e4
  have e5 := fun (d : Nat) (a b c e f g : Int) (w : World) => eqIn49 d a b c e f g w
  go_simp
set_option maxRecDepth 100000 in
set_option maxHeartbeats 4000000 in
theorem sameBlocks_any (ra rb : Option Addr) (ca cb n : Nat) (c : Nat → Nat → Int) (w : World) (ha : RowAt w ra n 3 c) (hb : RowAt w rb n 3 c) (hn : n ≤ 1000) : Calls Tryz.prog 24 #[.slice ra n ca, .slice rb n cb] w fun e w' => e = .returned (.bool true) ∧ G w w' := by
  go_enter Tryz.func24, Tryz.ntmps24
  go_wp2_with fail
  go_loopw [5] (fun v5 wr => ∃ q : Nat, q ≤ n ∧ v5 = .int .i64 q ∧ G w wr) (fun v5 _ => n - (intOf v5).toNat)
  case atStart => exact ⟨0, Nat.zero_le _, rfl, G.rf _⟩
  case round =>
    obtain ⟨q, hq, rfl, hG⟩ := hrel
    obtain ⟨wo, rfl⟩ : ∃ wo, wo = wr := ⟨_, rfl⟩
    by_cases hlt : q < n
    · have hki : (q : Int) < n := by omega
      rcases ha with h | ⟨g1, o1, rfl, hg1, hc1⟩
      · omega
      rcases hb with h | ⟨g2, o2, rfl, hg2, hc2⟩
      · omega
      have l1 := Nat.lt_of_lt_of_le hg1 hG.size
      have l2 := Nat.lt_of_lt_of_le hg2 hG.size
      have hSk : ∀ W', G wo W' → (W'.cell? ⟨g1, o1 + q * 3, none⟩ = some (.int .i64 (c q 0)) ∧ W'.cell? ⟨g1, o1 + q * 3 + 1, none⟩ = some (.int .i64 (c q 1)) ∧ W'.cell? ⟨g1, o1 + q * 3 + 2, none⟩ = some (.int .i64 (c q 2)) ∧ W'.cell? ⟨g2, o2 + q * 3, none⟩ = some (.int .i64 (c q 0)) ∧ W'.cell? ⟨g2, o2 + q * 3 + 1, none⟩ = some (.int .i64 (c q 1)) ∧ W'.cell? ⟨g2, o2 + q * 3 + 2, none⟩ = some (.int .i64 (c q 2))) := fun W' h => ⟨((bcellB (hG.t h)).1 g1 _ hg1).trans (hc1 q hlt 0 (by omega)), ((bcellB (hG.t h)).1 g1 _ hg1).trans (hc1 q hlt 1 (by omega)), ((bcellB (hG.t h)).1 g1 _ hg1).trans (hc1 q hlt 2 (by omega)), ((bcellB (hG.t h)).1 g2 _ hg2).trans (hc2 q hlt 0 (by omega)), ((bcellB (hG.t h)).1 g2 _ hg2).trans (hc2 q hlt 1 (by omega)), ((bcellB (hG.t h)).1 g2 _ hg2).trans (hc2 q hlt 2 (by omega))⟩
      have hne := neq67 (c q 0) (c q 1) (c q 2)
      clear hc1 hc2
      go_upto_region 6 with fail
      refine wp_region_Y (S := fun W' => W'.cell? ⟨g1, o1 + q * 3, none⟩ = some (.int .i64 (c q 0)) ∧ W'.cell? ⟨g1, o1 + q * 3 + 1, none⟩ = some (.int .i64 (c q 1)) ∧ W'.cell? ⟨g1, o1 + q * 3 + 2, none⟩ = some (.int .i64 (c q 2)) ∧ W'.cell? ⟨g2, o2 + q * 3, none⟩ = some (.int .i64 (c q 0)) ∧ W'.cell? ⟨g2, o2 + q * 3 + 1, none⟩ = some (.int .i64 (c q 1)) ∧ W'.cell? ⟨g2, o2 + q * 3 + 2, none⟩ = some (.int .i64 (c q 2))) 8 9 rfl (by kernel_rfl) (hSk _ (G.rf _).d) (fun hS => ?_)
      have ga := (G.rf wo).d
      refine wpAnyY_take (i := 0) (v := ?_) rfl (by kernel_rfl) (by kernel_rfl) (by kernel_rfl) (by kernel_rfl) (fun _ _ _ h => h) (Or.inl ⟨by kernel_rfl, ?_⟩) hS ?_
      rotate_left
      · intro w' hSw; go_simp; with_reducible rfl
      try simp only [Act.put, List.getElem_toArray, List.getElem_cons_zero, List.getElem_cons_succ, List.setIfInBounds_toArray, List.set_cons_zero, List.set_cons_succ]
      refine wpAnyY_take (i := 1) (v := ?_) rfl (by kernel_rfl) (by kernel_rfl) (by kernel_rfl) (by kernel_rfl) (fun _ _ _ h => h) (Or.inl ⟨by kernel_rfl, ?_⟩) hS ?_
      rotate_left
      · intro w' hSw; go_simp; with_reducible rfl
      try simp only [Act.put, List.getElem_toArray, List.getElem_cons_zero, List.getElem_cons_succ, List.setIfInBounds_toArray, List.set_cons_zero, List.set_cons_succ]
      refine wpAnyY_take (i := 2) (v := ?_) rfl (by kernel_rfl) (by kernel_rfl) (by kernel_rfl) (by kernel_rfl) (fun _ _ _ h => h) (Or.inl ⟨by kernel_rfl, ?_⟩) hS ?_
      rotate_left
      · intro w' hSw; go_simp; with_reducible rfl
      try simp only [Act.put, List.getElem_toArray, List.getElem_cons_zero, List.getElem_cons_succ, List.setIfInBounds_toArray, List.set_cons_zero, List.set_cons_succ]
      refine wpAnyY_take (i := 3) (v := ?_) rfl (by kernel_rfl) (by kernel_rfl) (by kernel_rfl) (by kernel_rfl) (fun _ _ _ h => h) (Or.inl ⟨by kernel_rfl, ?_⟩) hS ?_
      rotate_left
      · intro w' hSw; obtain ⟨y0, y1, y2, y3, y4, y5⟩ := hSw; go_simp; with_reducible rfl
      try simp only [Act.put, List.getElem_toArray, List.getElem_cons_zero, List.getElem_cons_succ, List.setIfInBounds_toArray, List.set_cons_zero, List.set_cons_succ]
      refine wpAnyY_take (i := 4) (v := ?_) rfl (by kernel_rfl) (by kernel_rfl) (by kernel_rfl) (by kernel_rfl) (fun _ _ _ h => h) (Or.inl ⟨by kernel_rfl, ?_⟩) hS ?_
      rotate_left
      · intro w' hSw; go_simp; with_reducible rfl
      try simp only [Act.put, List.getElem_toArray, List.getElem_cons_zero, List.getElem_cons_succ, List.setIfInBounds_toArray, List.set_cons_zero, List.set_cons_succ]
      refine wpAnyY_take (i := 5) (v := ?_) rfl (by kernel_rfl) (by kernel_rfl) (by kernel_rfl) (by kernel_rfl) (fun _ _ _ h => h) (Or.inl ⟨by kernel_rfl, ?_⟩) hS ?_
      rotate_left
      · intro w' hSw; go_simp; with_reducible rfl
      try simp only [Act.put, List.getElem_toArray, List.getElem_cons_zero, List.getElem_cons_succ, List.setIfInBounds_toArray, List.set_cons_zero, List.set_cons_succ]
      refine wpAnyY_take (i := 6) (v := ?_) rfl (by kernel_rfl) (by kernel_rfl) (by kernel_rfl) (by kernel_rfl) (fun _ _ _ h => h) (Or.inl ⟨by kernel_rfl, ?_⟩) hS ?_
      rotate_left
      · intro w' hSw; go_simp; with_reducible rfl
      try simp only [Act.put, List.getElem_toArray, List.getElem_cons_zero, List.getElem_cons_succ, List.setIfInBounds_toArray, List.set_cons_zero, List.set_cons_succ]
      refine wpAnyY_take (i := 7) (v := ?_) rfl (by kernel_rfl) (by kernel_rfl) (by kernel_rfl) (by kernel_rfl) (fun _ _ _ h => h) (Or.inl ⟨by kernel_rfl, ?_⟩) hS ?_
      rotate_left
      · intro w' hSw; obtain ⟨y0, y1, y2, y3, y4, y5⟩ := hSw; go_simp; with_reducible rfl
      try simp only [Act.put, List.getElem_toArray, List.getElem_cons_zero, List.getElem_cons_succ, List.setIfInBounds_toArray, List.set_cons_zero, List.set_cons_succ]
      refine wpAnyY_oneW (i := 8) (by kernel_rfl) rfl (by kernel_rfl) (by kernel_rfl) (fun K8 hK8 => ?_)
      go_simp
      refine hK8.out _ _ ?_
      clear hK8
      try simp only [Act.put, List.getElem_toArray, List.getElem_cons_zero, List.getElem_cons_succ, List.setIfInBounds_toArray, List.set_cons_zero, List.set_cons_succ]
      refine wpAnyY_done (by kernel_rfl) ?_ _
      have gz := hG.t ga
      clear hSk hS hne
      go_wp2_with fail
      go_roundw
      case rel => exact ⟨q + 1, by omega, by go_num, gz⟩
      case measure => simp [intOf] <;> omega
    · obtain rfl : q = n := by omega
      have hki : ¬ ((q : Nat) : Int) < q := by omega
      go_wp2_with fail
      go_ret
      exact ⟨rfl, hG⟩
set_option maxRecDepth 100000 in
set_option maxHeartbeats 4000000 in
theorem samePoints_any (ra rb : Option Addr) (ca cb n : Nat) (c : Nat → Nat → Int) (w : World) (ha : RowAt w ra n 2 c) (hb : RowAt w rb n 2 c) (hn : n ≤ 1000) : Calls Tryz.prog 17 #[.slice ra n ca, .slice rb n cb] w fun e w' => e = .returned (.bool true) ∧ G w w' := by
  go_enter Tryz.func17, Tryz.ntmps17
  go_wp2_with fail
  go_loopw [5] (fun v5 wr => ∃ q : Nat, q ≤ n ∧ v5 = .int .i64 q ∧ G w wr) (fun v5 _ => n - (intOf v5).toNat)
  case atStart => exact ⟨0, Nat.zero_le _, rfl, G.rf _⟩
  case round =>
    obtain ⟨q, hq, rfl, hG⟩ := hrel
    obtain ⟨wo, rfl⟩ : ∃ wo, wo = wr := ⟨_, rfl⟩
    by_cases hlt : q < n
    · have hki : (q : Int) < n := by omega
      rcases ha with h | ⟨g1, o1, rfl, hg1, hc1⟩
      · omega
      rcases hb with h | ⟨g2, o2, rfl, hg2, hc2⟩
      · omega
      have l1 := Nat.lt_of_lt_of_le hg1 hG.size
      have l2 := Nat.lt_of_lt_of_le hg2 hG.size
      have hSk : ∀ W', G wo W' → (W'.cell? ⟨g1, o1 + q * 2, none⟩ = some (.int .i64 (c q 0)) ∧ W'.cell? ⟨g1, o1 + q * 2 + 1, none⟩ = some (.int .i64 (c q 1)) ∧ W'.cell? ⟨g2, o2 + q * 2, none⟩ = some (.int .i64 (c q 0)) ∧ W'.cell? ⟨g2, o2 + q * 2 + 1, none⟩ = some (.int .i64 (c q 1))) := fun W' h => ⟨((bcellB (hG.t h)).1 g1 _ hg1).trans (hc1 q hlt 0 (by omega)), ((bcellB (hG.t h)).1 g1 _ hg1).trans (hc1 q hlt 1 (by omega)), ((bcellB (hG.t h)).1 g2 _ hg2).trans (hc2 q hlt 0 (by omega)), ((bcellB (hG.t h)).1 g2 _ hg2).trans (hc2 q hlt 1 (by omega))⟩
      have hne := neq27 (c q 0) (c q 1)
      clear hc1 hc2
      go_upto_region 6 with fail
      refine wp_region_Y (S := fun W' => W'.cell? ⟨g1, o1 + q * 2, none⟩ = some (.int .i64 (c q 0)) ∧ W'.cell? ⟨g1, o1 + q * 2 + 1, none⟩ = some (.int .i64 (c q 1)) ∧ W'.cell? ⟨g2, o2 + q * 2, none⟩ = some (.int .i64 (c q 0)) ∧ W'.cell? ⟨g2, o2 + q * 2 + 1, none⟩ = some (.int .i64 (c q 1))) 8 9 rfl (by kernel_rfl) (hSk _ (G.rf _).d) (fun hS => ?_)
      have ga := (G.rf wo).d
      refine wpAnyY_take (i := 0) (v := ?_) rfl (by kernel_rfl) (by kernel_rfl) (by kernel_rfl) (by kernel_rfl) (fun _ _ _ h => h) (Or.inl ⟨by kernel_rfl, ?_⟩) hS ?_
      rotate_left
      · intro w' hSw; go_simp; with_reducible rfl
      try simp only [Act.put, List.getElem_toArray, List.getElem_cons_zero, List.getElem_cons_succ, List.setIfInBounds_toArray, List.set_cons_zero, List.set_cons_succ]
      refine wpAnyY_take (i := 1) (v := ?_) rfl (by kernel_rfl) (by kernel_rfl) (by kernel_rfl) (by kernel_rfl) (fun _ _ _ h => h) (Or.inl ⟨by kernel_rfl, ?_⟩) hS ?_
      rotate_left
      · intro w' hSw; go_simp; with_reducible rfl
      try simp only [Act.put, List.getElem_toArray, List.getElem_cons_zero, List.getElem_cons_succ, List.setIfInBounds_toArray, List.set_cons_zero, List.set_cons_succ]
      refine wpAnyY_take (i := 2) (v := ?_) rfl (by kernel_rfl) (by kernel_rfl) (by kernel_rfl) (by kernel_rfl) (fun _ _ _ h => h) (Or.inl ⟨by kernel_rfl, ?_⟩) hS ?_
      rotate_left
      · intro w' hSw; go_simp; with_reducible rfl
      try simp only [Act.put, List.getElem_toArray, List.getElem_cons_zero, List.getElem_cons_succ, List.setIfInBounds_toArray, List.set_cons_zero, List.set_cons_succ]
      refine wpAnyY_take (i := 3) (v := ?_) rfl (by kernel_rfl) (by kernel_rfl) (by kernel_rfl) (by kernel_rfl) (fun _ _ _ h => h) (Or.inl ⟨by kernel_rfl, ?_⟩) hS ?_
      rotate_left
      · intro w' hSw; obtain ⟨y0, y1, y2, y3⟩ := hSw; go_simp; with_reducible rfl
      try simp only [Act.put, List.getElem_toArray, List.getElem_cons_zero, List.getElem_cons_succ, List.setIfInBounds_toArray, List.set_cons_zero, List.set_cons_succ]
      refine wpAnyY_take (i := 4) (v := ?_) rfl (by kernel_rfl) (by kernel_rfl) (by kernel_rfl) (by kernel_rfl) (fun _ _ _ h => h) (Or.inl ⟨by kernel_rfl, ?_⟩) hS ?_
      rotate_left
      · intro w' hSw; go_simp; with_reducible rfl
      try simp only [Act.put, List.getElem_toArray, List.getElem_cons_zero, List.getElem_cons_succ, List.setIfInBounds_toArray, List.set_cons_zero, List.set_cons_succ]
      refine wpAnyY_take (i := 5) (v := ?_) rfl (by kernel_rfl) (by kernel_rfl) (by kernel_rfl) (by kernel_rfl) (fun _ _ _ h => h) (Or.inl ⟨by kernel_rfl, ?_⟩) hS ?_
      rotate_left
      · intro w' hSw; go_simp; with_reducible rfl
      try simp only [Act.put, List.getElem_toArray, List.getElem_cons_zero, List.getElem_cons_succ, List.setIfInBounds_toArray, List.set_cons_zero, List.set_cons_succ]
      refine wpAnyY_take (i := 6) (v := ?_) rfl (by kernel_rfl) (by kernel_rfl) (by kernel_rfl) (by kernel_rfl) (fun _ _ _ h => h) (Or.inl ⟨by kernel_rfl, ?_⟩) hS ?_
      rotate_left
      · intro w' hSw; go_simp; with_reducible rfl
      try simp only [Act.put, List.getElem_toArray, List.getElem_cons_zero, List.getElem_cons_succ, List.setIfInBounds_toArray, List.set_cons_zero, List.set_cons_succ]
      refine wpAnyY_take (i := 7) (v := ?_) rfl (by kernel_rfl) (by kernel_rfl) (by kernel_rfl) (by kernel_rfl) (fun _ _ _ h => h) (Or.inl ⟨by kernel_rfl, ?_⟩) hS ?_
      rotate_left
      · intro w' hSw; obtain ⟨y0, y1, y2, y3⟩ := hSw; go_simp; with_reducible rfl
      try simp only [Act.put, List.getElem_toArray, List.getElem_cons_zero, List.getElem_cons_succ, List.setIfInBounds_toArray, List.set_cons_zero, List.set_cons_succ]
      refine wpAnyY_oneW (i := 8) (by kernel_rfl) rfl (by kernel_rfl) (by kernel_rfl) (fun K8 hK8 => ?_)
      go_simp
      refine hK8.out _ _ ?_
      clear hK8
      try simp only [Act.put, List.getElem_toArray, List.getElem_cons_zero, List.getElem_cons_succ, List.setIfInBounds_toArray, List.set_cons_zero, List.set_cons_succ]
      refine wpAnyY_done (by kernel_rfl) ?_ _
      have gz := hG.t ga
      clear hSk hS hne
      go_wp2_with fail
      go_roundw
      case rel => exact ⟨q + 1, by omega, by go_num, gz⟩
      case measure => simp [intOf] <;> omega
    · obtain rfl : q = n := by omega
      have hki : ¬ ((q : Nat) : Int) < q := by omega
      go_wp2_with fail
      go_ret
      exact ⟨rfl, hG⟩
set_option maxRecDepth 100000 in
set_option maxHeartbeats 4000000 in
theorem sameSpans_any (ra rb : Option Addr) (ca cb n : Nat) (c : Nat → Nat → Int) (w : World) (ha : RowAt w ra n 2 c) (hb : RowAt w rb n 2 c) (hn : n ≤ 1000) : Calls Tryz.prog 18 #[.slice ra n ca, .slice rb n cb] w fun e w' => e = .returned (.bool true) ∧ G w w' := by
  go_enter Tryz.func18, Tryz.ntmps18
  go_wp2_with fail
  go_loopw [5] (fun v5 wr => ∃ q : Nat, q ≤ n ∧ v5 = .int .i64 q ∧ G w wr) (fun v5 _ => n - (intOf v5).toNat)
  case atStart => exact ⟨0, Nat.zero_le _, rfl, G.rf _⟩
  case round =>
    obtain ⟨q, hq, rfl, hG⟩ := hrel
    obtain ⟨wo, rfl⟩ : ∃ wo, wo = wr := ⟨_, rfl⟩
    by_cases hlt : q < n
    · have hki : (q : Int) < n := by omega
      rcases ha with h | ⟨g1, o1, rfl, hg1, hc1⟩
      · omega
      rcases hb with h | ⟨g2, o2, rfl, hg2, hc2⟩
      · omega
      have l1 := Nat.lt_of_lt_of_le hg1 hG.size
      have l2 := Nat.lt_of_lt_of_le hg2 hG.size
      have hSk : ∀ W', G wo W' → (W'.cell? ⟨g1, o1 + q * 2, none⟩ = some (.int .i64 (c q 0)) ∧ W'.cell? ⟨g1, o1 + q * 2 + 1, none⟩ = some (.int .i64 (c q 1)) ∧ W'.cell? ⟨g2, o2 + q * 2, none⟩ = some (.int .i64 (c q 0)) ∧ W'.cell? ⟨g2, o2 + q * 2 + 1, none⟩ = some (.int .i64 (c q 1))) := fun W' h => ⟨((bcellB (hG.t h)).1 g1 _ hg1).trans (hc1 q hlt 0 (by omega)), ((bcellB (hG.t h)).1 g1 _ hg1).trans (hc1 q hlt 1 (by omega)), ((bcellB (hG.t h)).1 g2 _ hg2).trans (hc2 q hlt 0 (by omega)), ((bcellB (hG.t h)).1 g2 _ hg2).trans (hc2 q hlt 1 (by omega))⟩
      have hne := neq30 (c q 0) (c q 1)
      clear hc1 hc2
      go_upto_region 6 with fail
      refine wp_region_Y (S := fun W' => W'.cell? ⟨g1, o1 + q * 2, none⟩ = some (.int .i64 (c q 0)) ∧ W'.cell? ⟨g1, o1 + q * 2 + 1, none⟩ = some (.int .i64 (c q 1)) ∧ W'.cell? ⟨g2, o2 + q * 2, none⟩ = some (.int .i64 (c q 0)) ∧ W'.cell? ⟨g2, o2 + q * 2 + 1, none⟩ = some (.int .i64 (c q 1))) 8 9 rfl (by kernel_rfl) (hSk _ (G.rf _).d) (fun hS => ?_)
      have ga := (G.rf wo).d
      refine wpAnyY_take (i := 0) (v := ?_) rfl (by kernel_rfl) (by kernel_rfl) (by kernel_rfl) (by kernel_rfl) (fun _ _ _ h => h) (Or.inl ⟨by kernel_rfl, ?_⟩) hS ?_
      rotate_left
      · intro w' hSw; go_simp; with_reducible rfl
      try simp only [Act.put, List.getElem_toArray, List.getElem_cons_zero, List.getElem_cons_succ, List.setIfInBounds_toArray, List.set_cons_zero, List.set_cons_succ]
      refine wpAnyY_take (i := 1) (v := ?_) rfl (by kernel_rfl) (by kernel_rfl) (by kernel_rfl) (by kernel_rfl) (fun _ _ _ h => h) (Or.inl ⟨by kernel_rfl, ?_⟩) hS ?_
      rotate_left
      · intro w' hSw; go_simp; with_reducible rfl
      try simp only [Act.put, List.getElem_toArray, List.getElem_cons_zero, List.getElem_cons_succ, List.setIfInBounds_toArray, List.set_cons_zero, List.set_cons_succ]
      refine wpAnyY_take (i := 2) (v := ?_) rfl (by kernel_rfl) (by kernel_rfl) (by kernel_rfl) (by kernel_rfl) (fun _ _ _ h => h) (Or.inl ⟨by kernel_rfl, ?_⟩) hS ?_
      rotate_left
      · intro w' hSw; go_simp; with_reducible rfl
      try simp only [Act.put, List.getElem_toArray, List.getElem_cons_zero, List.getElem_cons_succ, List.setIfInBounds_toArray, List.set_cons_zero, List.set_cons_succ]
      refine wpAnyY_take (i := 3) (v := ?_) rfl (by kernel_rfl) (by kernel_rfl) (by kernel_rfl) (by kernel_rfl) (fun _ _ _ h => h) (Or.inl ⟨by kernel_rfl, ?_⟩) hS ?_
      rotate_left
      · intro w' hSw; obtain ⟨y0, y1, y2, y3⟩ := hSw; go_simp; with_reducible rfl
      try simp only [Act.put, List.getElem_toArray, List.getElem_cons_zero, List.getElem_cons_succ, List.setIfInBounds_toArray, List.set_cons_zero, List.set_cons_succ]
      refine wpAnyY_take (i := 4) (v := ?_) rfl (by kernel_rfl) (by kernel_rfl) (by kernel_rfl) (by kernel_rfl) (fun _ _ _ h => h) (Or.inl ⟨by kernel_rfl, ?_⟩) hS ?_
      rotate_left
      · intro w' hSw; go_simp; with_reducible rfl
      try simp only [Act.put, List.getElem_toArray, List.getElem_cons_zero, List.getElem_cons_succ, List.setIfInBounds_toArray, List.set_cons_zero, List.set_cons_succ]
      refine wpAnyY_take (i := 5) (v := ?_) rfl (by kernel_rfl) (by kernel_rfl) (by kernel_rfl) (by kernel_rfl) (fun _ _ _ h => h) (Or.inl ⟨by kernel_rfl, ?_⟩) hS ?_
      rotate_left
      · intro w' hSw; go_simp; with_reducible rfl
      try simp only [Act.put, List.getElem_toArray, List.getElem_cons_zero, List.getElem_cons_succ, List.setIfInBounds_toArray, List.set_cons_zero, List.set_cons_succ]
      refine wpAnyY_take (i := 6) (v := ?_) rfl (by kernel_rfl) (by kernel_rfl) (by kernel_rfl) (by kernel_rfl) (fun _ _ _ h => h) (Or.inl ⟨by kernel_rfl, ?_⟩) hS ?_
      rotate_left
      · intro w' hSw; go_simp; with_reducible rfl
      try simp only [Act.put, List.getElem_toArray, List.getElem_cons_zero, List.getElem_cons_succ, List.setIfInBounds_toArray, List.set_cons_zero, List.set_cons_succ]
      refine wpAnyY_take (i := 7) (v := ?_) rfl (by kernel_rfl) (by kernel_rfl) (by kernel_rfl) (by kernel_rfl) (fun _ _ _ h => h) (Or.inl ⟨by kernel_rfl, ?_⟩) hS ?_
      rotate_left
      · intro w' hSw; obtain ⟨y0, y1, y2, y3⟩ := hSw; go_simp; with_reducible rfl
      try simp only [Act.put, List.getElem_toArray, List.getElem_cons_zero, List.getElem_cons_succ, List.setIfInBounds_toArray, List.set_cons_zero, List.set_cons_succ]
      refine wpAnyY_oneW (i := 8) (by kernel_rfl) rfl (by kernel_rfl) (by kernel_rfl) (fun K8 hK8 => ?_)
      go_simp
      refine hK8.out _ _ ?_
      clear hK8
      try simp only [Act.put, List.getElem_toArray, List.getElem_cons_zero, List.getElem_cons_succ, List.setIfInBounds_toArray, List.set_cons_zero, List.set_cons_succ]
      refine wpAnyY_done (by kernel_rfl) ?_ _
      have gz := hG.t ga
      clear hSk hS hne
      go_wp2_with fail
      go_roundw
      case rel => exact ⟨q + 1, by omega, by go_num, gz⟩
      case measure => simp [intOf] <;> omega
    · obtain rfl : q = n := by omega
      have hki : ¬ ((q : Nat) : Int) < q := by omega
      go_wp2_with fail
      go_ret
      exact ⟨rfl, hG⟩
set_option maxRecDepth 100000 in
set_option maxHeartbeats 4000000 in
theorem sameFronts_any (ra rb : Option Addr) (ca cb n : Nat) (c : Nat → Nat → Int) (w : World) (ha : RowAt w ra n 12 c) (hb : RowAt w rb n 12 c) (hn : n ≤ 1000) : Calls Tryz.prog 19 #[.slice ra n ca, .slice rb n cb] w fun e w' => e = .returned (.bool true) ∧ G w w' := by
  go_enter Tryz.func19, Tryz.ntmps19
  go_wp2_with fail
  go_loopw [5] (fun v5 wr => ∃ q : Nat, q ≤ n ∧ v5 = .int .i64 q ∧ G w wr) (fun v5 _ => n - (intOf v5).toNat)
  case atStart => exact ⟨0, Nat.zero_le _, rfl, G.rf _⟩
  case round =>
    obtain ⟨q, hq, rfl, hG⟩ := hrel
    obtain ⟨wo, rfl⟩ : ∃ wo, wo = wr := ⟨_, rfl⟩
    by_cases hlt : q < n
    · have hki : (q : Int) < n := by omega
      rcases ha with h | ⟨g1, o1, rfl, hg1, hc1⟩
      · omega
      rcases hb with h | ⟨g2, o2, rfl, hg2, hc2⟩
      · omega
      have l1 := Nat.lt_of_lt_of_le hg1 hG.size
      have l2 := Nat.lt_of_lt_of_le hg2 hG.size
      have hSk : ∀ W', G wo W' → (W'.cell? ⟨g1, o1 + q * 12, none⟩ = some (.int .i64 (c q 0)) ∧ W'.cell? ⟨g1, o1 + q * 12 + 1, none⟩ = some (.int .i64 (c q 1)) ∧ W'.cell? ⟨g1, o1 + q * 12 + 2, none⟩ = some (.int .i64 (c q 2)) ∧ W'.cell? ⟨g1, o1 + q * 12 + 3, none⟩ = some (.int .i64 (c q 3)) ∧ W'.cell? ⟨g1, o1 + q * 12 + 4, none⟩ = some (.int .i64 (c q 4)) ∧ W'.cell? ⟨g1, o1 + q * 12 + 5, none⟩ = some (.int .i64 (c q 5)) ∧ W'.cell? ⟨g1, o1 + q * 12 + 6, none⟩ = some (.int .i64 (c q 6)) ∧ W'.cell? ⟨g1, o1 + q * 12 + 7, none⟩ = some (.int .i64 (c q 7)) ∧ W'.cell? ⟨g1, o1 + q * 12 + 8, none⟩ = some (.int .i64 (c q 8)) ∧ W'.cell? ⟨g1, o1 + q * 12 + 9, none⟩ = some (.int .i64 (c q 9)) ∧ W'.cell? ⟨g1, o1 + q * 12 + 10, none⟩ = some (.int .i64 (c q 10)) ∧ W'.cell? ⟨g1, o1 + q * 12 + 11, none⟩ = some (.int .i64 (c q 11)) ∧ W'.cell? ⟨g2, o2 + q * 12, none⟩ = some (.int .i64 (c q 0)) ∧ W'.cell? ⟨g2, o2 + q * 12 + 1, none⟩ = some (.int .i64 (c q 1)) ∧ W'.cell? ⟨g2, o2 + q * 12 + 2, none⟩ = some (.int .i64 (c q 2)) ∧ W'.cell? ⟨g2, o2 + q * 12 + 3, none⟩ = some (.int .i64 (c q 3)) ∧ W'.cell? ⟨g2, o2 + q * 12 + 4, none⟩ = some (.int .i64 (c q 4)) ∧ W'.cell? ⟨g2, o2 + q * 12 + 5, none⟩ = some (.int .i64 (c q 5)) ∧ W'.cell? ⟨g2, o2 + q * 12 + 6, none⟩ = some (.int .i64 (c q 6)) ∧ W'.cell? ⟨g2, o2 + q * 12 + 7, none⟩ = some (.int .i64 (c q 7)) ∧ W'.cell? ⟨g2, o2 + q * 12 + 8, none⟩ = some (.int .i64 (c q 8)) ∧ W'.cell? ⟨g2, o2 + q * 12 + 9, none⟩ = some (.int .i64 (c q 9)) ∧ W'.cell? ⟨g2, o2 + q * 12 + 10, none⟩ = some (.int .i64 (c q 10)) ∧ W'.cell? ⟨g2, o2 + q * 12 + 11, none⟩ = some (.int .i64 (c q 11))) := fun W' h => ⟨((bcellB (hG.t h)).1 g1 _ hg1).trans (hc1 q hlt 0 (by omega)), ((bcellB (hG.t h)).1 g1 _ hg1).trans (hc1 q hlt 1 (by omega)), ((bcellB (hG.t h)).1 g1 _ hg1).trans (hc1 q hlt 2 (by omega)), ((bcellB (hG.t h)).1 g1 _ hg1).trans (hc1 q hlt 3 (by omega)), ((bcellB (hG.t h)).1 g1 _ hg1).trans (hc1 q hlt 4 (by omega)), ((bcellB (hG.t h)).1 g1 _ hg1).trans (hc1 q hlt 5 (by omega)), ((bcellB (hG.t h)).1 g1 _ hg1).trans (hc1 q hlt 6 (by omega)), ((bcellB (hG.t h)).1 g1 _ hg1).trans (hc1 q hlt 7 (by omega)), ((bcellB (hG.t h)).1 g1 _ hg1).trans (hc1 q hlt 8 (by omega)), ((bcellB (hG.t h)).1 g1 _ hg1).trans (hc1 q hlt 9 (by omega)), ((bcellB (hG.t h)).1 g1 _ hg1).trans (hc1 q hlt 10 (by omega)), ((bcellB (hG.t h)).1 g1 _ hg1).trans (hc1 q hlt 11 (by omega)), ((bcellB (hG.t h)).1 g2 _ hg2).trans (hc2 q hlt 0 (by omega)), ((bcellB (hG.t h)).1 g2 _ hg2).trans (hc2 q hlt 1 (by omega)), ((bcellB (hG.t h)).1 g2 _ hg2).trans (hc2 q hlt 2 (by omega)), ((bcellB (hG.t h)).1 g2 _ hg2).trans (hc2 q hlt 3 (by omega)), ((bcellB (hG.t h)).1 g2 _ hg2).trans (hc2 q hlt 4 (by omega)), ((bcellB (hG.t h)).1 g2 _ hg2).trans (hc2 q hlt 5 (by omega)), ((bcellB (hG.t h)).1 g2 _ hg2).trans (hc2 q hlt 6 (by omega)), ((bcellB (hG.t h)).1 g2 _ hg2).trans (hc2 q hlt 7 (by omega)), ((bcellB (hG.t h)).1 g2 _ hg2).trans (hc2 q hlt 8 (by omega)), ((bcellB (hG.t h)).1 g2 _ hg2).trans (hc2 q hlt 9 (by omega)), ((bcellB (hG.t h)).1 g2 _ hg2).trans (hc2 q hlt 10 (by omega)), ((bcellB (hG.t h)).1 g2 _ hg2).trans (hc2 q hlt 11 (by omega))⟩
      have hne := neq71 (c q 0) (c q 1) (c q 2) (c q 3) (c q 4) (c q 5) (c q 6) (c q 7) (c q 8) (c q 9) (c q 10) (c q 11)
      clear hc1 hc2
      go_upto_region 6 with fail
      refine wp_region_Y (S := fun W' => W'.cell? ⟨g1, o1 + q * 12, none⟩ = some (.int .i64 (c q 0)) ∧ W'.cell? ⟨g1, o1 + q * 12 + 1, none⟩ = some (.int .i64 (c q 1)) ∧ W'.cell? ⟨g1, o1 + q * 12 + 2, none⟩ = some (.int .i64 (c q 2)) ∧ W'.cell? ⟨g1, o1 + q * 12 + 3, none⟩ = some (.int .i64 (c q 3)) ∧ W'.cell? ⟨g1, o1 + q * 12 + 4, none⟩ = some (.int .i64 (c q 4)) ∧ W'.cell? ⟨g1, o1 + q * 12 + 5, none⟩ = some (.int .i64 (c q 5)) ∧ W'.cell? ⟨g1, o1 + q * 12 + 6, none⟩ = some (.int .i64 (c q 6)) ∧ W'.cell? ⟨g1, o1 + q * 12 + 7, none⟩ = some (.int .i64 (c q 7)) ∧ W'.cell? ⟨g1, o1 + q * 12 + 8, none⟩ = some (.int .i64 (c q 8)) ∧ W'.cell? ⟨g1, o1 + q * 12 + 9, none⟩ = some (.int .i64 (c q 9)) ∧ W'.cell? ⟨g1, o1 + q * 12 + 10, none⟩ = some (.int .i64 (c q 10)) ∧ W'.cell? ⟨g1, o1 + q * 12 + 11, none⟩ = some (.int .i64 (c q 11)) ∧ W'.cell? ⟨g2, o2 + q * 12, none⟩ = some (.int .i64 (c q 0)) ∧ W'.cell? ⟨g2, o2 + q * 12 + 1, none⟩ = some (.int .i64 (c q 1)) ∧ W'.cell? ⟨g2, o2 + q * 12 + 2, none⟩ = some (.int .i64 (c q 2)) ∧ W'.cell? ⟨g2, o2 + q * 12 + 3, none⟩ = some (.int .i64 (c q 3)) ∧ W'.cell? ⟨g2, o2 + q * 12 + 4, none⟩ = some (.int .i64 (c q 4)) ∧ W'.cell? ⟨g2, o2 + q * 12 + 5, none⟩ = some (.int .i64 (c q 5)) ∧ W'.cell? ⟨g2, o2 + q * 12 + 6, none⟩ = some (.int .i64 (c q 6)) ∧ W'.cell? ⟨g2, o2 + q * 12 + 7, none⟩ = some (.int .i64 (c q 7)) ∧ W'.cell? ⟨g2, o2 + q * 12 + 8, none⟩ = some (.int .i64 (c q 8)) ∧ W'.cell? ⟨g2, o2 + q * 12 + 9, none⟩ = some (.int .i64 (c q 9)) ∧ W'.cell? ⟨g2, o2 + q * 12 + 10, none⟩ = some (.int .i64 (c q 10)) ∧ W'.cell? ⟨g2, o2 + q * 12 + 11, none⟩ = some (.int .i64 (c q 11))) 8 9 rfl (by kernel_rfl) (hSk _ (G.rf _).d) (fun hS => ?_)
      have ga := (G.rf wo).d
      refine wpAnyY_take (i := 0) (v := ?_) rfl (by kernel_rfl) (by kernel_rfl) (by kernel_rfl) (by kernel_rfl) (fun _ _ _ h => h) (Or.inl ⟨by kernel_rfl, ?_⟩) hS ?_
      rotate_left
      · intro w' hSw; go_simp; with_reducible rfl
      try simp only [Act.put, List.getElem_toArray, List.getElem_cons_zero, List.getElem_cons_succ, List.setIfInBounds_toArray, List.set_cons_zero, List.set_cons_succ]
      refine wpAnyY_take (i := 1) (v := ?_) rfl (by kernel_rfl) (by kernel_rfl) (by kernel_rfl) (by kernel_rfl) (fun _ _ _ h => h) (Or.inl ⟨by kernel_rfl, ?_⟩) hS ?_
      rotate_left
      · intro w' hSw; go_simp; with_reducible rfl
      try simp only [Act.put, List.getElem_toArray, List.getElem_cons_zero, List.getElem_cons_succ, List.setIfInBounds_toArray, List.set_cons_zero, List.set_cons_succ]
      refine wpAnyY_take (i := 2) (v := ?_) rfl (by kernel_rfl) (by kernel_rfl) (by kernel_rfl) (by kernel_rfl) (fun _ _ _ h => h) (Or.inl ⟨by kernel_rfl, ?_⟩) hS ?_
      rotate_left
      · intro w' hSw; go_simp; with_reducible rfl
      try simp only [Act.put, List.getElem_toArray, List.getElem_cons_zero, List.getElem_cons_succ, List.setIfInBounds_toArray, List.set_cons_zero, List.set_cons_succ]
      refine wpAnyY_take (i := 3) (v := ?_) rfl (by kernel_rfl) (by kernel_rfl) (by kernel_rfl) (by kernel_rfl) (fun _ _ _ h => h) (Or.inl ⟨by kernel_rfl, ?_⟩) hS ?_
      rotate_left
      · intro w' hSw; obtain ⟨y0, y1, y2, y3, y4, y5, y6, y7, y8, y9, y10, y11, y12, y13, y14, y15, y16, y17, y18, y19, y20, y21, y22, y23⟩ := hSw; go_simp; with_reducible rfl
      try simp only [Act.put, List.getElem_toArray, List.getElem_cons_zero, List.getElem_cons_succ, List.setIfInBounds_toArray, List.set_cons_zero, List.set_cons_succ]
      refine wpAnyY_take (i := 4) (v := ?_) rfl (by kernel_rfl) (by kernel_rfl) (by kernel_rfl) (by kernel_rfl) (fun _ _ _ h => h) (Or.inl ⟨by kernel_rfl, ?_⟩) hS ?_
      rotate_left
      · intro w' hSw; go_simp; with_reducible rfl
      try simp only [Act.put, List.getElem_toArray, List.getElem_cons_zero, List.getElem_cons_succ, List.setIfInBounds_toArray, List.set_cons_zero, List.set_cons_succ]
      refine wpAnyY_take (i := 5) (v := ?_) rfl (by kernel_rfl) (by kernel_rfl) (by kernel_rfl) (by kernel_rfl) (fun _ _ _ h => h) (Or.inl ⟨by kernel_rfl, ?_⟩) hS ?_
      rotate_left
      · intro w' hSw; go_simp; with_reducible rfl
      try simp only [Act.put, List.getElem_toArray, List.getElem_cons_zero, List.getElem_cons_succ, List.setIfInBounds_toArray, List.set_cons_zero, List.set_cons_succ]
      refine wpAnyY_take (i := 6) (v := ?_) rfl (by kernel_rfl) (by kernel_rfl) (by kernel_rfl) (by kernel_rfl) (fun _ _ _ h => h) (Or.inl ⟨by kernel_rfl, ?_⟩) hS ?_
      rotate_left
      · intro w' hSw; go_simp; with_reducible rfl
      try simp only [Act.put, List.getElem_toArray, List.getElem_cons_zero, List.getElem_cons_succ, List.setIfInBounds_toArray, List.set_cons_zero, List.set_cons_succ]
      refine wpAnyY_take (i := 7) (v := ?_) rfl (by kernel_rfl) (by kernel_rfl) (by kernel_rfl) (by kernel_rfl) (fun _ _ _ h => h) (Or.inl ⟨by kernel_rfl, ?_⟩) hS ?_
      rotate_left
      · intro w' hSw; obtain ⟨y0, y1, y2, y3, y4, y5, y6, y7, y8, y9, y10, y11, y12, y13, y14, y15, y16, y17, y18, y19, y20, y21, y22, y23⟩ := hSw; go_simp; with_reducible rfl
      try simp only [Act.put, List.getElem_toArray, List.getElem_cons_zero, List.getElem_cons_succ, List.setIfInBounds_toArray, List.set_cons_zero, List.set_cons_succ]
      refine wpAnyY_oneW (i := 8) (by kernel_rfl) rfl (by kernel_rfl) (by kernel_rfl) (fun K8 hK8 => ?_)
      go_simp
      refine hK8.out _ _ ?_
      clear hK8
      try simp only [Act.put, List.getElem_toArray, List.getElem_cons_zero, List.getElem_cons_succ, List.setIfInBounds_toArray, List.set_cons_zero, List.set_cons_succ]
      refine wpAnyY_done (by kernel_rfl) ?_ _
      have gz := hG.t ga
      clear hSk hS hne
      go_wp2_with fail
      go_roundw
      case rel => exact ⟨q + 1, by omega, by go_num, gz⟩
      case measure => simp [intOf] <;> omega
    · obtain rfl : q = n := by omega
      have hki : ¬ ((q : Nat) : Int) < q := by omega
      go_wp2_with fail
      go_ret
      exact ⟨rfl, hG⟩
end Go.Proofs.YtcekdljjmfkacaaGreat
