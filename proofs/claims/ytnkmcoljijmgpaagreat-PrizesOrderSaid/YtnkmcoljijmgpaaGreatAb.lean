import Derived.Test.YtnkmcoljijmgpaaGreatAa
import Derived.Test.YtnkmcoljijmgpaaGreatKa
set_option linter.unusedSimpArgs false
set_option linter.unusedVariables false
namespace Go.Proofs.YtnkmcoljijmgpaaGreat
open Go.RowKit Go.Shelf
attribute [local go_sem] Oper.semAt_some
/-- ascending, each above the one before -/
def ascB (l : List Int) : Bool := allU (fun i => decide (i = 0) || decide (l.getD (i - 1) 0 < l.getD i 0)) l.length
set_option maxRecDepth 100000 in
set_option maxHeartbeats 4000000 in
theorem asc_any (l : List Int) (a : Option Addr) (cap : Nat) (w : World) (h : IntsAt w a l) (hl : l.length ≤ 1000) : Calls Tryz.prog 92 #[.slice a l.length cap] w fun e w' => e = .returned (.bool (ascB l)) ∧ G w w' := by
  go_enter Tryz.func92, Tryz.ntmps92
  go_wp2_with fail
  go_loopw [6] (fun i wr => ∃ k : Nat, k ≤ l.length ∧ i = .int .i64 k ∧ Hid (∀ j, j < k → (decide (j = 0) || decide (l.getD (j - 1) 0 < l.getD j 0)) = true) ∧ G w wr) (fun i _ => l.length - (intOf i).toNat)
  case atStart => exact ⟨0, Nat.zero_le _, rfl, fun j hj => by omega, G.rf _⟩
  case round =>
    obtain ⟨k, hk, rfl, hno, hG⟩ := hrel
    obtain ⟨wo, rfl⟩ : ∃ wo, wo = wr := ⟨_, rfl⟩
    by_cases hlt : k < l.length
    · have hki : (k : Int) < l.length := by omega
      rcases h with rfl | ⟨g, off, rfl, hg, hcell⟩
      · simp at hlt
      have lg := Nat.lt_of_lt_of_le hg hG.size
      by_cases h0 : k = 0
      · subst h0
        have hki0 : ¬ (0 : Int) < ((0 : Nat) : Int) := by omega
        clear hcell
        go_upto_region 4 with fail
        refine wp_region_Y (S := fun W' => True) 13 14 rfl (by kernel_rfl) trivial (fun hS => ?_)
        have ga := (G.rf wo).d
        refine wpAnyY_take (i := 0) (v := ?_) rfl (by kernel_rfl) (by kernel_rfl) (by kernel_rfl) (by kernel_rfl) (fun _ _ _ h => h) (Or.inl ⟨by kernel_rfl, ?_⟩) hS ?_
        rotate_left
        · intro w' hSw; go_simp; with_reducible rfl
        try simp only [Act.put, List.getElem_toArray, List.getElem_cons_zero, List.getElem_cons_succ, List.setIfInBounds_toArray, List.set_cons_zero, List.set_cons_succ]
        refine wpAnyY_take (i := 1) (v := ?_) rfl (by kernel_rfl) (by kernel_rfl) (by kernel_rfl) (by kernel_rfl) (fun _ _ _ h => h) (Or.inl ⟨by kernel_rfl, ?_⟩) hS ?_
        rotate_left
        · intro w' hSw; go_simp; with_reducible rfl
        try simp only [Act.put, List.getElem_toArray, List.getElem_cons_zero, List.getElem_cons_succ, List.setIfInBounds_toArray, List.set_cons_zero, List.set_cons_succ]
        refine wpAnyY_take (i := 2) (v := ?_) rfl (by kernel_rfl) (by kernel_rfl) (by kernel_rfl) (by kernel_rfl) (fun _ _ _ h => h) (Or.inl ⟨by kernel_rfl, ?_⟩) hS ?_
        rotate_left
        · intro w' hSw; go_simp; with_reducible rfl
        try simp only [Act.put, List.getElem_toArray, List.getElem_cons_zero, List.getElem_cons_succ, List.setIfInBounds_toArray, List.set_cons_zero, List.set_cons_succ]
        refine wpAnyY_take (i := 3) (v := undef) rfl (by kernel_rfl) (by kernel_rfl) (by kernel_rfl) (by kernel_rfl) (fun _ _ _ h => h) (Or.inr ⟨by kernel_rfl, rfl⟩) hS ?_
        try simp only [Act.put, List.getElem_toArray, List.getElem_cons_zero, List.getElem_cons_succ, List.setIfInBounds_toArray, List.set_cons_zero, List.set_cons_succ]
        refine wpAnyY_take (i := 4) (v := undef) rfl (by kernel_rfl) (by kernel_rfl) (by kernel_rfl) (by kernel_rfl) (fun _ _ _ h => h) (Or.inr ⟨by kernel_rfl, rfl⟩) hS ?_
        try simp only [Act.put, List.getElem_toArray, List.getElem_cons_zero, List.getElem_cons_succ, List.setIfInBounds_toArray, List.set_cons_zero, List.set_cons_succ]
        refine wpAnyY_take (i := 5) (v := undef) rfl (by kernel_rfl) (by kernel_rfl) (by kernel_rfl) (by kernel_rfl) (fun _ _ _ h => h) (Or.inr ⟨by kernel_rfl, rfl⟩) hS ?_
        try simp only [Act.put, List.getElem_toArray, List.getElem_cons_zero, List.getElem_cons_succ, List.setIfInBounds_toArray, List.set_cons_zero, List.set_cons_succ]
        refine wpAnyY_take (i := 6) (v := undef) rfl (by kernel_rfl) (by kernel_rfl) (by kernel_rfl) (by kernel_rfl) (fun _ _ _ h => h) (Or.inr ⟨by kernel_rfl, rfl⟩) hS ?_
        try simp only [Act.put, List.getElem_toArray, List.getElem_cons_zero, List.getElem_cons_succ, List.setIfInBounds_toArray, List.set_cons_zero, List.set_cons_succ]
        refine wpAnyY_take (i := 7) (v := undef) rfl (by kernel_rfl) (by kernel_rfl) (by kernel_rfl) (by kernel_rfl) (fun _ _ _ h => h) (Or.inr ⟨by kernel_rfl, rfl⟩) hS ?_
        try simp only [Act.put, List.getElem_toArray, List.getElem_cons_zero, List.getElem_cons_succ, List.setIfInBounds_toArray, List.set_cons_zero, List.set_cons_succ]
        refine wpAnyY_take (i := 8) (v := undef) rfl (by kernel_rfl) (by kernel_rfl) (by kernel_rfl) (by kernel_rfl) (fun _ _ _ h => h) (Or.inr ⟨by kernel_rfl, rfl⟩) hS ?_
        try simp only [Act.put, List.getElem_toArray, List.getElem_cons_zero, List.getElem_cons_succ, List.setIfInBounds_toArray, List.set_cons_zero, List.set_cons_succ]
        refine wpAnyY_take (i := 9) (v := undef) rfl (by kernel_rfl) (by kernel_rfl) (by kernel_rfl) (by kernel_rfl) (fun _ _ _ h => h) (Or.inr ⟨by kernel_rfl, rfl⟩) hS ?_
        try simp only [Act.put, List.getElem_toArray, List.getElem_cons_zero, List.getElem_cons_succ, List.setIfInBounds_toArray, List.set_cons_zero, List.set_cons_succ]
        refine wpAnyY_take (i := 10) (v := undef) rfl (by kernel_rfl) (by kernel_rfl) (by kernel_rfl) (by kernel_rfl) (fun _ _ _ h => h) (Or.inr ⟨by kernel_rfl, rfl⟩) hS ?_
        try simp only [Act.put, List.getElem_toArray, List.getElem_cons_zero, List.getElem_cons_succ, List.setIfInBounds_toArray, List.set_cons_zero, List.set_cons_succ]
        refine wpAnyY_take (i := 11) (v := undef) rfl (by kernel_rfl) (by kernel_rfl) (by kernel_rfl) (by kernel_rfl) (fun _ _ _ h => h) (Or.inr ⟨by kernel_rfl, rfl⟩) hS ?_
        try simp only [Act.put, List.getElem_toArray, List.getElem_cons_zero, List.getElem_cons_succ, List.setIfInBounds_toArray, List.set_cons_zero, List.set_cons_succ]
        refine wpAnyY_take (i := 12) (v := undef) rfl (by kernel_rfl) (by kernel_rfl) (by kernel_rfl) (by kernel_rfl) (fun _ _ _ h => h) (Or.inr ⟨by kernel_rfl, rfl⟩) hS ?_
        try simp only [Act.put, List.getElem_toArray, List.getElem_cons_zero, List.getElem_cons_succ, List.setIfInBounds_toArray, List.set_cons_zero, List.set_cons_succ]
        refine wpAnyY_oneW (i := 13) (by kernel_rfl) rfl (by kernel_rfl) (by kernel_rfl) (fun K13 hK13 => ?_)
        go_simp
        refine hK13.out _ _ ?_
        clear hK13
        try simp only [Act.put, List.getElem_toArray, List.getElem_cons_zero, List.getElem_cons_succ, List.setIfInBounds_toArray, List.set_cons_zero, List.set_cons_succ]
        refine wpAnyY_done (by kernel_rfl) ?_ _
        go_wp2_with fail
        go_roundw
        case rel => exact ⟨1, by omega, by go_num, fun j hj => by
          obtain rfl : j = 0 := by omega
          rfl, hG.t ga⟩
        case measure => simp [intOf] <;> omega
      · have hki0 : (0 : Int) < (k : Int) := by omega
        have hn0 : 0 < k := by omega
        have hd1 : decide ((0 : Int) < (k : Int)) = true := decide_eq_true hki0
        have hd2 : decide (0 < k) = true := decide_eq_true hn0
        obtain ⟨q, hq⟩ : ∃ q, q = k - 1 := ⟨_, rfl⟩
        have x1 : IntKind.i64.wrap ((k : Int) - 1) = (q : Nat) := by rw [IntWalk.i64_in _ (by omega)]; omega
        have hqi : (q : Int) < l.length := by omega
        have hck := hcell k hlt
        have hcq := hcell q (by omega)
        obtain ⟨x, hx⟩ : ∃ x, x = l.getD k 0 := ⟨_, rfl⟩
        obtain ⟨y, hy⟩ : ∃ y, y = l.getD q 0 := ⟨_, rfl⟩
        rw [← hx] at hck
        rw [← hy] at hcq
        have HXY : Hid ((decide (k = 0) || decide (l.getD (k - 1) 0 < l.getD k 0)) = decide (y < x)) := by
          show _ = _
          rw [← hq, hx, hy, decide_eq_false h0]
          rfl
        have hSk : ∀ W', G wo W' → (W'.cell? ⟨g, off + k, none⟩ = some (.int .i64 x) ∧ W'.cell? ⟨g, off + q, none⟩ = some (.int .i64 y)) := fun W' hW => ⟨((bcellB (hG.t hW)).1 g _ hg).trans hck, ((bcellB (hG.t hW)).1 g _ hg).trans hcq⟩
        clear hcell hck hcq hx hy hq h0
        go_upto_region 4 with fail
        refine wp_region_Y (S := fun W' => W'.cell? ⟨g, off + k, none⟩ = some (.int .i64 x) ∧ W'.cell? ⟨g, off + q, none⟩ = some (.int .i64 y)) 13 14 rfl (by kernel_rfl) (hSk _ (G.rf _).d) (fun hS => ?_)
        have ga := (G.rf wo).d
        refine wpAnyY_take (i := 0) (v := ?_) rfl (by kernel_rfl) (by kernel_rfl) (by kernel_rfl) (by kernel_rfl) (fun _ _ _ h => h) (Or.inl ⟨by kernel_rfl, ?_⟩) hS ?_
        rotate_left
        · intro w' hSw; go_simp; with_reducible rfl
        try simp only [Act.put, List.getElem_toArray, List.getElem_cons_zero, List.getElem_cons_succ, List.setIfInBounds_toArray, List.set_cons_zero, List.set_cons_succ]
        refine wpAnyY_take (i := 1) (v := ?_) rfl (by kernel_rfl) (by kernel_rfl) (by kernel_rfl) (by kernel_rfl) (fun _ _ _ h => h) (Or.inl ⟨by kernel_rfl, ?_⟩) hS ?_
        rotate_left
        · intro w' hSw; go_simp; with_reducible rfl
        try simp only [Act.put, List.getElem_toArray, List.getElem_cons_zero, List.getElem_cons_succ, List.setIfInBounds_toArray, List.set_cons_zero, List.set_cons_succ]
        refine wpAnyY_take (i := 2) (v := ?_) rfl (by kernel_rfl) (by kernel_rfl) (by kernel_rfl) (by kernel_rfl) (fun _ _ _ h => h) (Or.inl ⟨by kernel_rfl, ?_⟩) hS ?_
        rotate_left
        · intro w' hSw; go_simp; with_reducible rfl
        try simp only [Act.put, List.getElem_toArray, List.getElem_cons_zero, List.getElem_cons_succ, List.setIfInBounds_toArray, List.set_cons_zero, List.set_cons_succ]
        refine wpAnyY_take (i := 3) (v := ?_) rfl (by kernel_rfl) (by kernel_rfl) (by kernel_rfl) (by kernel_rfl) (fun _ _ _ h => h) (Or.inl ⟨by kernel_rfl, ?_⟩) hS ?_
        rotate_left
        · intro w' hSw; go_simp; with_reducible rfl
        try simp only [Act.put, List.getElem_toArray, List.getElem_cons_zero, List.getElem_cons_succ, List.setIfInBounds_toArray, List.set_cons_zero, List.set_cons_succ]
        refine wpAnyY_take (i := 4) (v := ?_) rfl (by kernel_rfl) (by kernel_rfl) (by kernel_rfl) (by kernel_rfl) (fun _ _ _ h => h) (Or.inl ⟨by kernel_rfl, ?_⟩) hS ?_
        rotate_left
        · intro w' hSw; go_simp; with_reducible rfl
        try simp only [Act.put, List.getElem_toArray, List.getElem_cons_zero, List.getElem_cons_succ, List.setIfInBounds_toArray, List.set_cons_zero, List.set_cons_succ]
        refine wpAnyY_take (i := 5) (v := ?_) rfl (by kernel_rfl) (by kernel_rfl) (by kernel_rfl) (by kernel_rfl) (fun _ _ _ h => h) (Or.inl ⟨by kernel_rfl, ?_⟩) hS ?_
        rotate_left
        · intro w' hSw; go_simp; with_reducible rfl
        try simp only [Act.put, List.getElem_toArray, List.getElem_cons_zero, List.getElem_cons_succ, List.setIfInBounds_toArray, List.set_cons_zero, List.set_cons_succ]
        refine wpAnyY_take (i := 6) (v := ?_) rfl (by kernel_rfl) (by kernel_rfl) (by kernel_rfl) (by kernel_rfl) (fun _ _ _ h => h) (Or.inl ⟨by kernel_rfl, ?_⟩) hS ?_
        rotate_left
        · intro w' hSw; obtain ⟨y0, y1⟩ := hSw; go_simp; with_reducible rfl
        try simp only [Act.put, List.getElem_toArray, List.getElem_cons_zero, List.getElem_cons_succ, List.setIfInBounds_toArray, List.set_cons_zero, List.set_cons_succ]
        refine wpAnyY_take (i := 7) (v := ?_) rfl (by kernel_rfl) (by kernel_rfl) (by kernel_rfl) (by kernel_rfl) (fun _ _ _ h => h) (Or.inl ⟨by kernel_rfl, ?_⟩) hS ?_
        rotate_left
        · intro w' hSw; go_simp; with_reducible rfl
        try simp only [Act.put, List.getElem_toArray, List.getElem_cons_zero, List.getElem_cons_succ, List.setIfInBounds_toArray, List.set_cons_zero, List.set_cons_succ]
        refine wpAnyY_take (i := 8) (v := ?_) rfl (by kernel_rfl) (by kernel_rfl) (by kernel_rfl) (by kernel_rfl) (fun _ _ _ h => h) (Or.inl ⟨by kernel_rfl, ?_⟩) hS ?_
        rotate_left
        · intro w' hSw; go_simp; with_reducible rfl
        try simp only [Act.put, List.getElem_toArray, List.getElem_cons_zero, List.getElem_cons_succ, List.setIfInBounds_toArray, List.set_cons_zero, List.set_cons_succ]
        refine wpAnyY_take (i := 9) (v := ?_) rfl (by kernel_rfl) (by kernel_rfl) (by kernel_rfl) (by kernel_rfl) (fun _ _ _ h => h) (Or.inl ⟨by kernel_rfl, ?_⟩) hS ?_
        rotate_left
        · intro w' hSw; go_simp; with_reducible rfl
        try simp only [Act.put, List.getElem_toArray, List.getElem_cons_zero, List.getElem_cons_succ, List.setIfInBounds_toArray, List.set_cons_zero, List.set_cons_succ]
        refine wpAnyY_take (i := 10) (v := ?_) rfl (by kernel_rfl) (by kernel_rfl) (by kernel_rfl) (by kernel_rfl) (fun _ _ _ h => h) (Or.inl ⟨by kernel_rfl, ?_⟩) hS ?_
        rotate_left
        · intro w' hSw; go_simp; with_reducible rfl
        try simp only [Act.put, List.getElem_toArray, List.getElem_cons_zero, List.getElem_cons_succ, List.setIfInBounds_toArray, List.set_cons_zero, List.set_cons_succ]
        refine wpAnyY_take (i := 11) (v := ?_) rfl (by kernel_rfl) (by kernel_rfl) (by kernel_rfl) (by kernel_rfl) (fun _ _ _ h => h) (Or.inl ⟨by kernel_rfl, ?_⟩) hS ?_
        rotate_left
        · intro w' hSw; obtain ⟨y0, y1⟩ := hSw; go_simp; with_reducible rfl
        try simp only [Act.put, List.getElem_toArray, List.getElem_cons_zero, List.getElem_cons_succ, List.setIfInBounds_toArray, List.set_cons_zero, List.set_cons_succ]
        refine wpAnyY_take (i := 12) (v := ?_) rfl (by kernel_rfl) (by kernel_rfl) (by kernel_rfl) (by kernel_rfl) (fun _ _ _ h => h) (Or.inl ⟨by kernel_rfl, ?_⟩) hS ?_
        rotate_left
        · intro w' hSw; go_simp; with_reducible rfl
        try simp only [Act.put, List.getElem_toArray, List.getElem_cons_zero, List.getElem_cons_succ, List.setIfInBounds_toArray, List.set_cons_zero, List.set_cons_succ]
        refine wpAnyY_oneW (i := 13) (by kernel_rfl) rfl (by kernel_rfl) (by kernel_rfl) (fun K13 hK13 => ?_)
        go_simp
        refine hK13.out _ _ ?_
        clear hK13
        try simp only [Act.put, List.getElem_toArray, List.getElem_cons_zero, List.getElem_cons_succ, List.setIfInBounds_toArray, List.set_cons_zero, List.set_cons_succ]
        refine wpAnyY_done (by kernel_rfl) ?_ _
        clear hS hSk
        by_cases hyx : y < x
        · have hxy : ¬ x ≤ y := by omega
          go_wp2_with fail
          go_roundw
          case rel => exact ⟨k + 1, by omega, by go_num, fun j hj => by
            rcases Nat.lt_or_ge j k with h | h
            · exact hno.out j h
            · obtain rfl : j = k := by omega
              rw [HXY.out]; exact decide_eq_true hyx, hG.t ga⟩
          case measure => simp [intOf] <;> omega
        · have hxy : x ≤ y := by omega
          have HF : Hid (ascB l = false) := by
            show _ = _
            unfold ascB
            cases hv : allU (fun i => decide (i = 0) || decide (l.getD (i - 1) 0 < l.getD i 0)) l.length
            · rfl
            · have := allU_iff.1 hv k hlt
              rw [HXY.out] at this
              exact absurd (of_decide_eq_true this) hyx
          go_wp2_with fail
          go_ret
          exact ⟨by rw [HF.out]; rfl, hG.t ga⟩
    · obtain rfl : k = l.length := by omega
      have hki : ¬ ((l.length : Nat) : Int) < l.length := by omega
      have HT : Hid (ascB l = true) := allU_iff.2 hno.out
      go_wp2_with fail
      go_ret
      exact ⟨by rw [HT.out]; rfl, hG⟩
/-- a bird is among the first racers -/
def hasB (l : List Rc) (b : Int) : Bool := anyU (fun i => (l.getD i default).bird == b) l.length
theorem has98 (x : Rc) (b : Int) (B : Nat) (W : World) (hB : Blk W B 3 #[.int .i64 b]) : Calls Tryz.prog 98 #[.agg x.v, .pointer (some ⟨B, 0, none⟩)] W fun e w' => e = .returned (.bool (x.bird == b)) ∧ G W w' := by
  obtain ⟨ybird, yowner, yrank, yday, ypa, ypc, ypools⟩ := x
  unfold Rc.v
  have g0 : G W (W.alloc (.cells #[.int .i64 ybird, .int .i64 yowner, .int .i64 yrank, .int .i64 yday, .slice ypa ypools.length ypc] 60)) := (G.rf _).a _
  have b0 := hB.keep g0
  have m0 := b0.cell 0
  have l0 := b0.lt
  go_enter Tryz.func98, Tryz.ntmps98
  go_wp2
  go_ret
  exact ⟨rfl, g0⟩
theorem has_any (l : List Rc) (a : Option Addr) (cap : Nat) (b : Int) (w : World) (h : RowE Rc.v 5 w a l) (hl : l.length ≤ 1000) : Calls Tryz.prog 73 #[.slice a l.length cap, .int .i64 b] w fun e w' => e = .returned (.bool (hasB l b)) ∧ G w w' := by
  have g0 : G w (w.alloc (.cells #[.int .i64 b] 3)) := (G.rf _).a _
  have b0 : Blk (w.alloc (.cells #[.int .i64 b] 3)) w.heap.size 3 #[.int .i64 b] := Blk.new _ _ _
  have HCT := Lib.hid (CtRc_any 98 (enters_of Tryz.func98 (by kernel_rfl) rfl) #[.pointer (some ⟨w.heap.size, 0, none⟩)] (w.alloc (.cells #[.int .i64 b] 3)) a cap l (fun i => (l.getD i default).bird == b) hl (h.below g0) (fun W' hW i hi => has98 _ b w.heap.size W' (b0.keep hW)))
  clear h
  go_enter Tryz.func73, Tryz.ntmps73
  go_wp2_with (go_at_call 97; refine (HCT.out).mono ?_; rintro e w1 ⟨rfl, hG1⟩)
  go_ret
  exact ⟨rfl, g0.t hG1⟩
def rankB (x : Rc) : Bool := if x.day = 0 then decide (x.rank = 0) else isInB x.day 1 2 && isInB x.rank 1 12
theorem rank_any (x : Rc) (w : World) : Calls Tryz.prog 149 #[.agg x.v] w fun e w' => e = .returned (.bool (rankB x)) ∧ G w w' := by
  obtain ⟨ybird, yowner, yrank, yday, ypa, ypc, ypools⟩ := x
  unfold rankB Rc.v
  have g0 : G w (w.alloc (.cells #[.int .i64 ybird, .int .i64 yowner, .int .i64 yrank, .int .i64 yday, .slice ypa ypools.length ypc] 60)) := (G.rf _).a _
  have b0 : Blk (w.alloc (.cells #[.int .i64 ybird, .int .i64 yowner, .int .i64 yrank, .int .i64 yday, .slice ypa ypools.length ypc] 60)) w.heap.size 60 #[.int .i64 ybird, .int .i64 yowner, .int .i64 yrank, .int .i64 yday, .slice ypa ypools.length ypc] := Blk.new _ _ _
  have HD := Lib.hid (fun (W : World) => isIn_any yday 1 2 W)
  have HR := Lib.hid (fun (W : World) => isIn_any yrank 1 12 W)
  dsimp only
  by_cases h0 : yday = 0
  · subst h0
    rw [if_pos rfl]
    go_enter Tryz.func149, Tryz.ntmps149
    go_wp2_with fail
    go_ret
    exact ⟨by first | rfl | simp, g0⟩
  · rw [if_neg h0]
    have h1 : (yday == 0) = false := by simpa using h0
    generalize isInB yday 1 2 = A at *
    generalize isInB yrank 1 12 = B at *
    cases A
    all_goals
      go_enter Tryz.func149, Tryz.ntmps149
      go_wp2_with (first | (go_at_call 94; refine (HD.out _).mono ?_; rintro e w1 ⟨rfl, hG1⟩; clear HD; replace b0 := b0.keep hG1; replace g0 := g0.t hG1; clear hG1; have m2 := b0.cell 2; have l0 := b0.lt) | (go_at_call 94; refine (HR.out _).mono ?_; rintro e w2 ⟨rfl, hG1⟩; replace g0 := g0.t hG1; clear hG1))
      go_ret
      exact ⟨rfl, g0⟩
theorem in163 (n : Int) (w : World) : Calls Tryz.prog 163 #[.int .i64 n] w fun e w' => e = .returned (.bool (isInB n 0 1000)) ∧ G w w' := by
  have HD := Lib.hid (fun (W : World) => isIn_any n 0 1000 W)
  go_enter Tryz.func163, Tryz.ntmps163
  go_wp2_with (go_at_call 94; refine (HD.out _).mono ?_; rintro e w1 ⟨rfl, hG1⟩)
  go_ret
  exact ⟨rfl, hG1⟩
def tableB (l : List Int) : Bool := isInB l.length 1 8 && (allU (fun i => isInB (l.getD i 0) 0 1000) l.length && decide (l.sum ≤ 1000))
theorem sumTo_bd {l : List Int} (h : ∀ i, i < l.length → 0 ≤ l.getD i 0 ∧ l.getD i 0 ≤ 1000) : ∀ k, k ≤ l.length → 0 ≤ sumTo l k ∧ sumTo l k ≤ k * 1000
  | 0, _ => by simp [sumTo]
  | k + 1, hk => by
    have a := sumTo_bd h k (by omega)
    have b := h k (by omega)
    rw [sumTo_succ l k (by omega)]
    omega
theorem table_any (l : List Int) (a : Option Addr) (cap : Nat) (w : World) (h : IntsAt w a l) (hl : l.length ≤ 1000) : Calls Tryz.prog 148 #[.slice a l.length cap] w fun e w' => e = .returned (.bool (tableB l)) ∧ G w w' := by
  have HL := Lib.hid (fun (W : World) => isIn_any (l.length : Nat) 1 8 W)
  have HE := Lib.hid (fun (W : World) (hW : G w W) => eachInt_any 163 (enters_of Tryz.func163 (by kernel_rfl) rfl) #[] W a cap l (fun i => isInB (l.getD i 0) 0 1000) hl (h.below hW) (fun W' _ i _ => in163 _ W'))
  have HS := Lib.hid (fun (hb : allU (fun i => isInB (l.getD i 0) 0 1000) l.length = true) (W : World) (hW : G w W) => sum_any l a cap W (h.below hW) hl (fun k hk => by
    have hb2 : ∀ i, i < l.length → 0 ≤ l.getD i 0 ∧ l.getD i 0 ≤ 1000 := fun i hi => by
      have := allU_iff.1 hb i hi
      unfold isInB at this
      simp only [Bool.and_eq_true, decide_eq_true_eq] at this
      exact this
    have := sumTo_bd hb2 k hk
    omega))
  clear h
  have g0 := G.rf w
  unfold tableB
  generalize isInB (l.length : Nat) 1 8 = A at *
  generalize allU (fun i => isInB (l.getD i 0) 0 1000) l.length = B at *
  cases A
  · clear HE HS
    go_enter Tryz.func148, Tryz.ntmps148
    go_wp2_with (go_at_call 94; refine (HL.out _).mono ?_; rintro e w1 ⟨rfl, hG1⟩; replace g0 := g0.t hG1)
    go_ret
    exact ⟨rfl, g0⟩
  · cases B
    · clear HS
      go_enter Tryz.func148, Tryz.ntmps148
      go_wp2_with (first | (go_at_call 94; refine (HL.out _).mono ?_; rintro e w1 ⟨rfl, hG1⟩; replace g0 := g0.t hG1; clear hG1) | (go_at_call 71; refine (HE.out _ g0).mono ?_; rintro e w2 ⟨rfl, hG1⟩; replace g0 := g0.t hG1; clear hG1))
      go_ret
      exact ⟨rfl, g0⟩
    · have HS2 := Lib.hid (HS.out rfl)
      clear HS
      go_enter Tryz.func148, Tryz.ntmps148
      go_wp2_with (first | (go_at_call 94; refine (HL.out _).mono ?_; rintro e w1 ⟨rfl, hG1⟩; replace g0 := g0.t hG1; clear hG1) | (go_at_call 71; refine (HE.out _ g0).mono ?_; rintro e w2 ⟨rfl, hG1⟩; replace g0 := g0.t hG1; clear hG1) | (go_at_call 75; refine (HS2.out _ g0).mono ?_; rintro e w3 ⟨rfl, hG1⟩; replace g0 := g0.t hG1; clear hG1))
      go_ret
      exact ⟨rfl, g0⟩
def kindB (x : Po) : Bool := if x.kind = 1 then tableB x.table && decide (x.quota = 0) else if x.kind = 2 then decide (x.table.length = 0) && isInB x.quota 1 20 else if x.kind = 3 then decide (x.table.length = 0) && decide (x.quota = 0) else false
set_option maxHeartbeats 1000000 in
theorem kind_any (x : Po) (w : World) (h : IntsAt w x.ta x.table) (hl : x.table.length ≤ 1000) : Calls Tryz.prog 115 #[.agg x.v] w fun e w' => e = .returned (.bool (kindB x)) ∧ G w w' := by
  obtain ⟨ystake, ycut, ykind, yta, ytc, ytable, yquota, yfirst⟩ := x
  dsimp only at h hl
  have HT := Lib.hid (fun (W : World) (hW : G w W) => table_any ytable yta ytc W (h.below hW) hl)
  have HQ := Lib.hid (fun (W : World) => isIn_any yquota 1 20 W)
  clear h
  unfold kindB Po.v
  dsimp only
  have g0 : G w (w.alloc (.cells #[.int .i64 ystake, .int .i64 ycut, .int .i64 ykind, .slice yta ytable.length ytc, .int .i64 yquota, .bool yfirst] 42)) := (G.rf _).a _
  have b0 : Blk (w.alloc (.cells #[.int .i64 ystake, .int .i64 ycut, .int .i64 ykind, .slice yta ytable.length ytc, .int .i64 yquota, .bool yfirst] 42)) w.heap.size 42 #[.int .i64 ystake, .int .i64 ycut, .int .i64 ykind, .slice yta ytable.length ytc, .int .i64 yquota, .bool yfirst] := Blk.new _ _ _
  by_cases h1 : ykind = 1
  · subst h1
    rw [if_pos rfl]
    generalize tableB ytable = A at *
    cases A
    all_goals
      go_enter Tryz.func115, Tryz.ntmps115
      go_wp2_with (go_at_call 148; refine (HT.out _ g0).mono ?_; rintro e w1 ⟨rfl, hG1⟩; replace b0 := b0.keep hG1; replace g0 := g0.t hG1; clear hG1; have m4 := b0.cell 4; have l0 := b0.lt)
      go_ret
      exact ⟨by first | rfl | (simp; done) | (congr 1; simp), g0⟩
  have k1 : (ykind == 1) = false := by simpa using h1
  rw [if_neg h1]
  by_cases h2 : ykind = 2
  · subst h2
    rw [if_pos rfl]
    clear HT
    generalize ytable.length = n at *
    rcases n with _ | n
    · go_enter Tryz.func115, Tryz.ntmps115
      go_wp2_with (go_at_call 94; refine (HQ.out _).mono ?_; rintro e w1 ⟨rfl, hG1⟩; replace g0 := g0.t hG1; clear hG1)
      go_ret
      exact ⟨by first | rfl | (simp; done) | (congr 1; simp), g0⟩
    · have t1 : (((n + 1 : Nat) : Int) == 0) = false := by simp; omega
      have t2 : ((n : Int) + 1 == 0) = false := by simp; omega
      go_enter Tryz.func115, Tryz.ntmps115
      go_wp2_with fail
      go_ret
      exact ⟨by first | rfl | (simp; done) | (congr 1; simp), g0⟩
  have k2 : (ykind == 2) = false := by simpa using h2
  rw [if_neg h2]
  by_cases h3 : ykind = 3
  · subst h3
    rw [if_pos rfl]
    clear HT
    generalize ytable.length = n at *
    rcases n with _ | n
    · go_enter Tryz.func115, Tryz.ntmps115
      go_wp2_with fail
      go_ret
      exact ⟨by first | rfl | (simp; done) | (congr 1; simp), g0⟩
    · have t1 : (((n + 1 : Nat) : Int) == 0) = false := by simp; omega
      have t2 : ((n : Int) + 1 == 0) = false := by simp; omega
      go_enter Tryz.func115, Tryz.ntmps115
      go_wp2_with fail
      go_ret
      exact ⟨by first | rfl | (simp; done) | (congr 1; simp), g0⟩
  have k3 : (ykind == 3) = false := by simpa using h3
  rw [if_neg h3]
  go_enter Tryz.func115, Tryz.ntmps115
  go_wp2_with fail
  go_ret
  exact ⟨rfl, g0⟩
def poolB (x : Po) : Bool := isInB x.stake 0 100000 && (isInB x.cut 0 1000 && kindB x)
set_option maxHeartbeats 1000000 in
theorem pool_any (x : Po) (w : World) (h : IntsAt w x.ta x.table) (hl : x.table.length ≤ 1000) : Calls Tryz.prog 90 #[.agg x.v] w fun e w' => e = .returned (.bool (poolB x)) ∧ G w w' := by
  have HK := Lib.hid (fun (W : World) (hW : G w W) => kind_any x W (h.below hW) hl)
  have HS := Lib.hid (fun (W : World) => isIn_any x.stake 0 100000 W)
  have HC := Lib.hid (fun (W : World) => isIn_any x.cut 0 1000 W)
  clear h
  unfold poolB
  generalize kindB x = C at *
  obtain ⟨ystake, ycut, ykind, yta, ytc, ytable, yquota, yfirst⟩ := x
  unfold Po.v at *
  dsimp only at *
  have g0 : G w (w.alloc (.cells #[.int .i64 ystake, .int .i64 ycut, .int .i64 ykind, .slice yta ytable.length ytc, .int .i64 yquota, .bool yfirst] 42)) := (G.rf _).a _
  have b0 : Blk (w.alloc (.cells #[.int .i64 ystake, .int .i64 ycut, .int .i64 ykind, .slice yta ytable.length ytc, .int .i64 yquota, .bool yfirst] 42)) w.heap.size 42 #[.int .i64 ystake, .int .i64 ycut, .int .i64 ykind, .slice yta ytable.length ytc, .int .i64 yquota, .bool yfirst] := Blk.new _ _ _
  generalize isInB ystake 0 100000 = A at *
  generalize isInB ycut 0 1000 = B at *
  cases A
  · go_enter Tryz.func90, Tryz.ntmps90
    go_wp2_with (go_at_call 94; refine (HS.out _).mono ?_; rintro e w1 ⟨rfl, hG1⟩; replace g0 := g0.t hG1; clear hG1)
    go_ret
    exact ⟨rfl, g0⟩
  · cases B
    all_goals
      go_enter Tryz.func90, Tryz.ntmps90
      go_wp2_with (first | (go_at_call 94; refine (HS.out _).mono ?_; rintro e w1 ⟨rfl, hG1⟩; clear HS; replace b0 := b0.keep hG1; replace g0 := g0.t hG1; clear hG1; have m1 := b0.cell 1; have l0 := b0.lt) | (go_at_call 94; refine (HC.out _).mono ?_; rintro e w2 ⟨rfl, hG1⟩; clear HC m1 l0; replace b0 := b0.keep hG1; replace g0 := g0.t hG1; clear hG1; have m0 := b0.cell 0; have m1 := b0.cell 1; have m2 := b0.cell 2; have m3 := b0.cell 3; have m4 := b0.cell 4; have m5 := b0.cell 5; have l0 := b0.lt) | (go_at_call 115; refine (HK.out _ g0).mono ?_; rintro e w3 ⟨rfl, hG1⟩; replace g0 := g0.t hG1; clear hG1))
      go_ret
      exact ⟨rfl, g0⟩
end Go.Proofs.YtnkmcoljijmgpaaGreat
