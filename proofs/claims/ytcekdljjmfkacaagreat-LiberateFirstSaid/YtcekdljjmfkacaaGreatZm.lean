import Derived.Test.YtcekdljjmfkacaaGreatZl
import Derived.Test.YtcekdljjmfkacaaGreatXi
set_option linter.unusedSimpArgs false
set_option linter.unusedVariables false
namespace Go.Proofs.YtcekdljjmfkacaaGreat
open Go.RowKit Go.Shelf
attribute [local go_sem] Oper.semAt_some wide_fn wide_dep wideR_fn wideR_dep
theorem wpList_load35g {w : World} {ops : Array Oper} {rest : List Oper} {o : Oper} {a : Act} {Q : Exit → Act → World → Prop} (g t : Nat) {REL : Array Value} (hR : IsRel REL) (hw : Region.wanted o (yielded ops a.tmps) = true) (ho : o.op = .load 35 (.tmp t)) (hv : a.eval (.tmp t) = .pointer (some ⟨g, 0, none⟩)) (hB : Blk w g 35 REL)
    (h : wpList Tryz.prog ops Q rest (a.put o.dst (.agg REL)) w) : wpList Tryz.prog ops Q (o :: rest) a w := by
  refine wpList_step fun K hK => ?_
  rw [if_pos hw]
  unfold Oper.wp
  rw [load46o w g t hR o a.eval ho hv hB]
  exact hK _ _ h
section
variable (a b N : Nat) (ai bi Z : Int) (b1 b2 : Bool) (REL : Array Value) (lit : Nat → Bool) (nb : Nat → Nat) (w : World)
set_option maxRecDepth 100000 in
set_option maxHeartbeats 8000000 in
theorem rFirst6_walk (hIs : IsRel REL) (hab : Z = 0 → ai = a ∧ bi = b ∧ a ≤ 1000000 ∧ b ≤ 1000000) (hN : N = b + 1 - a) (hI : ∀ W, Calls Tryz.prog 46 #[.int .i64 ai] W fun e w' => e = .returned (.bool b1) ∧ G W w') (hM : ∀ W, Calls Tryz.prog 46 #[.int .i64 bi] W fun e w' => e = .returned (.bool b2) ∧ G W w')
    (hQ : ∀ W, G w W → Calls Tryz.prog 52 #[.agg REL, .bool (b1 && b2)] W fun e w' => e = .returned (.int .i64 Z) ∧ G W w')
    (hL : Z = 0 → ∀ W m, G w W → m ≤ 1000000 → Calls Tryz.prog 61 #[.agg REL, .int .i64 (m : Nat)] W fun e w' => e = .returned (.bool (lit m)) ∧ G W w')
    (hB : Z = 0 → ∀ W m, G w W → m ≤ 1000000 → Calls Tryz.prog 59 #[.agg REL, .int .i64 (m : Nat)] W fun e w' => (∃ (p : Option Addr) (c : Nat), e = .returned (.slice p (nb m) c)) ∧ G W w') :
    Calls Tryz.prog 26 #[.agg REL, .int .i64 ai, .int .i64 bi] w (FiPost w Z (firstR (fun m => lit m && decide (nb m = 0)) a N)) := by
  obtain ⟨fly, hfly⟩ : ∃ fly : Nat → Bool, fly = fun m => lit m && decide (nb m = 0) := ⟨_, rfl⟩
  have HFY : Hid (∀ m, fly m = (lit m && decide (nb m = 0))) := fun m => by rw [hfly]
  rw [← hfly]
  clear hfly
  have HOK : Hid (∀ w' x y, Z = 0 → firstR fly a N = (x, y) → G w w' → FiPost w Z (firstR fly a N) (.returned (.tuple #[.int .i64 x, .int .i64 y])) w') := fun w' x y h hf a => ⟨by rw [if_pos h, if_pos h, hf], a⟩
  have HER : Hid (∀ w', Z ≠ 0 → G w w' → FiPost w Z (firstR fly a N) (.returned (.tuple #[.int .i64 0, .int .i64 Z])) w') := fun w' h a => ⟨by rw [if_neg h, if_neg h], a⟩
  generalize FiPost w Z (firstR fly a N) = PP at *
  have HIS := Lib.hid hIs
  have HI := Lib.hid hI
  have HM := Lib.hid hM
  have HQ := Lib.hid hQ
  have HL := Lib.hid hL
  have HB := Lib.hid hB
  have HAB := Lib.hid hab
  clear hI hM hQ hL hB hIs hab
  have g0 : G w (w.alloc (.cells REL 35)) := (G.rf _).a _
  have b0 : Blk (w.alloc (.cells REL 35)) w.heap.size 35 REL := Blk.new w 35 REL
  go_enter Tryz.func26, Tryz.ntmps26
  go_upto_region 1 with fail
  change Code.wp _ _ _ _ (w.alloc (.cells REL 35))
  generalize w.alloc (.cells REL 35) = w1 at *
  refine wp_region_Y (S := fun W' => Blk W' w.heap.size 35 REL) 8 9 rfl (by kernel_rfl) (b0.keep (G.rf _).d) (fun hS => ?_)
  have ga := (G.rf w1).d
  refine wpAnyY_take (i := 0) (v := .agg REL) rfl (by kernel_rfl) (by kernel_rfl) (by kernel_rfl) (by kernel_rfl) (fun _ _ _ h => h) (Or.inl ⟨by kernel_rfl, ?_⟩) hS ?_
  · intro w' hSw; exact load46o w' w.heap.size 3 HIS.out _ _ rfl (by kernel_rfl) hSw
  try simp only [Act.put, List.getElem_toArray, List.getElem_cons_zero, List.getElem_cons_succ, List.setIfInBounds_toArray, List.set_cons_zero, List.set_cons_succ]
  refine wpAnyY_take (i := 1) (v := ?_) rfl (by kernel_rfl) (by kernel_rfl) (by kernel_rfl) (by kernel_rfl) (fun _ _ _ h => h) (Or.inl ⟨by kernel_rfl, ?_⟩) hS ?_
  rotate_left
  · intro w' hSw; go_simp; with_reducible rfl
  try simp only [Act.put, List.getElem_toArray, List.getElem_cons_zero, List.getElem_cons_succ, List.setIfInBounds_toArray, List.set_cons_zero, List.set_cons_succ]
  refine wpAnyY_oneSW (i := 2) (by kernel_rfl) rfl (by kernel_rfl) (fun K2 hK2 => ?_)
  go_simp
  refine (HI.out _).mono ?_
  rintro e w2 ⟨rfl, hG2⟩
  replace ga := ga.t hG2
  refine hK2.out _ _ (b0.keep ga) (fun hS => ?_)
  try simp only [Act.put, List.getElem_toArray, List.getElem_cons_zero, List.getElem_cons_succ, List.setIfInBounds_toArray, List.set_cons_zero, List.set_cons_succ]
  refine wpAnyY_take (i := 3) (v := ?_) rfl (by kernel_rfl) (by kernel_rfl) (by kernel_rfl) (by kernel_rfl) (fun _ _ _ h => h) (Or.inl ⟨by kernel_rfl, ?_⟩) hS ?_
  rotate_left
  · intro w' hSw; go_simp; with_reducible rfl
  try simp only [Act.put, List.getElem_toArray, List.getElem_cons_zero, List.getElem_cons_succ, List.setIfInBounds_toArray, List.set_cons_zero, List.set_cons_succ]
  cases b1
  ·
    refine wpAnyY_take (i := 4) (v := undef) rfl (by kernel_rfl) (by kernel_rfl) (by kernel_rfl) (by kernel_rfl) (fun _ _ _ h => h) (Or.inr ⟨by kernel_rfl, rfl⟩) hS ?_
    try simp only [Act.put, List.getElem_toArray, List.getElem_cons_zero, List.getElem_cons_succ, List.setIfInBounds_toArray, List.set_cons_zero, List.set_cons_succ]
    refine wpAnyY_take (i := 5) (v := undef) rfl (by kernel_rfl) (by kernel_rfl) (by kernel_rfl) (by kernel_rfl) (fun _ _ _ h => h) (Or.inr ⟨by kernel_rfl, rfl⟩) hS ?_
    try simp only [Act.put, List.getElem_toArray, List.getElem_cons_zero, List.getElem_cons_succ, List.setIfInBounds_toArray, List.set_cons_zero, List.set_cons_succ]
    refine wpAnyY_take (i := 6) (v := ?_) rfl (by kernel_rfl) (by kernel_rfl) (by kernel_rfl) (by kernel_rfl) (fun _ _ _ h => h) (Or.inl ⟨by kernel_rfl, ?_⟩) hS ?_
    rotate_left
    · intro w' hSw; go_simp; with_reducible rfl
    try simp only [Act.put, List.getElem_toArray, List.getElem_cons_zero, List.getElem_cons_succ, List.setIfInBounds_toArray, List.set_cons_zero, List.set_cons_succ]
    refine wpAnyY_oneSW (i := 7) (by kernel_rfl) rfl (by kernel_rfl) (fun K7 hK7 => ?_)
    go_simp
    refine (HQ.out _ (g0.t ga)).mono ?_
    rintro e w4 ⟨rfl, hG7⟩
    replace ga := ga.t hG7
    refine hK7.out _ _ (b0.keep ga) (fun hS => ?_)
    try simp only [Act.put, List.getElem_toArray, List.getElem_cons_zero, List.getElem_cons_succ, List.setIfInBounds_toArray, List.set_cons_zero, List.set_cons_succ]
    refine wpAnyY_oneW (i := 8) (by kernel_rfl) rfl (by kernel_rfl) (by kernel_rfl) (fun K8 hK8 => ?_)
    go_simp
    refine hK8.out _ _ ?_
    try simp only [Act.put, List.getElem_toArray, List.getElem_cons_zero, List.getElem_cons_succ, List.setIfInBounds_toArray, List.set_cons_zero, List.set_cons_succ]
    refine wpAnyY_done (by kernel_rfl) ?_ _
    have gz := g0.t ga
    have bz : Blk w4 w.heap.size 35 REL := b0.keep ga
    clear b0 hS HI HM HQ g0 ga
    by_cases hz : Z = 0
    · obtain ⟨rfl, rfl, ha, hb⟩ := HAB.out hz
      have HLz := Lib.hid (HL.out hz)
      have HBz := Lib.hid (HB.out hz)
      have HO := Lib.hid (fun w' x y h => HOK.out w' x y hz h)
      subst hz
      clear HL HB HOK HER HAB
      go_wp2_with fail
      go_loopw [9] (fun i wr => ∃ k : Nat, k ≤ N ∧ i = .int .i64 ((a + k : Nat) : Int) ∧ Hid (∀ j, j < k → fly (a + j) = false) ∧ G w4 wr) (fun i _ => N - ((intOf i).toNat - a))
      case atStart => exact ⟨0, Nat.zero_le _, by go_num, fun j hj => absurd hj (Nat.not_lt_zero _), G.rf _⟩
      case round =>
        obtain ⟨k, hk, rfl, hno, hG⟩ := hrel
        obtain ⟨wo, rfl⟩ : ∃ wo, wo = wr := ⟨_, rfl⟩
        have bk := bz.keep hG
        have gk := gz.t hG
        by_cases hlt : k < N
        · obtain ⟨m, hm⟩ : ∃ m, m = a + k := ⟨_, rfl⟩
          have HMK := Lib.hid hm
          rw [← hm]
          have hml : ((m : Nat) : Int) ≤ b := by omega
          have hm2 : m ≤ 1000000 := by omega
          clear hm
          go_upto_region 7 with fail
          refine wp_region_lit ?_
          refine wpList_load35 w.heap.size 3 HIS.out rfl rfl rfl bk ?_
          try simp only [Act.put, List.getElem_toArray, List.getElem_cons_zero, List.getElem_cons_succ, List.setIfInBounds_toArray, List.set_cons_zero, List.set_cons_succ]
          refine wpList_plain rfl fun K hK => ?_
          go_simp
          refine hK _ _ ?_
          clear hK
          try simp only [Act.put, List.getElem_toArray, List.getElem_cons_zero, List.getElem_cons_succ, List.setIfInBounds_toArray, List.set_cons_zero, List.set_cons_succ]
          refine wpList_plain rfl fun K hK => ?_
          go_simp
          refine (HLz.out _ m gk hm2).mono ?_
          rintro e w5 ⟨rfl, hG5⟩
          refine hK _ _ ?_
          clear hK
          try simp only [Act.put, List.getElem_toArray, List.getElem_cons_zero, List.getElem_cons_succ, List.setIfInBounds_toArray, List.set_cons_zero, List.set_cons_succ]
          have gk5 := gk.t hG5
          have bk5 := bk.keep hG5
          have hgo := HFY.out m
          cases hl : lit m
          · have hff : fly m = false := by rw [hgo, hl]; rfl
            have HFF := Lib.hid hff
            clear hff hgo hl
            go_wp2_with fail
            go_roundw
            case rel => exact ⟨k + 1, by omega, by rw [HMK.out]; go_num, fun j hj => by
              rcases Nat.lt_or_ge j k with h | h
              · exact hno.out j h
              · obtain rfl : j = k := by omega
                rw [← HMK.out]; exact HFF.out, hG.t hG5⟩
            case measure => have := HMK.out; simp [intOf]; omega
          · refine wpList_plain rfl fun K hK => ?_
            go_simp
            refine hK _ _ ?_
            clear hK
            try simp only [Act.put, List.getElem_toArray, List.getElem_cons_zero, List.getElem_cons_succ, List.setIfInBounds_toArray, List.set_cons_zero, List.set_cons_succ]
            refine wpList_load35g w.heap.size 3 HIS.out rfl rfl rfl bk5 ?_
            try simp only [Act.put, List.getElem_toArray, List.getElem_cons_zero, List.getElem_cons_succ, List.setIfInBounds_toArray, List.set_cons_zero, List.set_cons_succ]
            have HX := Lib.hid (HBz.out _ m gk5 hm2)
            obtain ⟨M, hM⟩ : ∃ M, M = nb m := ⟨_, rfl⟩
            rw [← hM] at HX hgo
            by_cases h0 : M = 0
            · have hft : fly m = true := by rw [hgo, hl, h0]; rfl
              have hfr := firstR_some hlt (by rw [← HMK.out]; exact hft) hno.out
              rw [← HMK.out] at hfr
              have HFR := Lib.hid hfr
              rw [h0] at HX
              clear hfr hft hgo hl hM h0
              go_wp2_with (go_at_call 59; refine (HX.out).mono ?_; rintro e w6 ⟨⟨p, c, rfl⟩, hG6⟩)
              exact HO.out _ _ _ HFR.out (gk5.t hG6)
            · have hff : fly m = false := by rw [hgo, hl, decide_eq_false h0]; rfl
              have HFF := Lib.hid hff
              have hm0 : ((M : Int) == 0) = false := by simp [h0]
              clear hff hgo hl hM
              go_wp2_with (go_at_call 59; refine (HX.out).mono ?_; rintro e w6 ⟨⟨p, c, rfl⟩, hG6⟩)
              go_roundw
              case rel => exact ⟨k + 1, by omega, by rw [HMK.out]; go_num, fun j hj => by
                rcases Nat.lt_or_ge j k with h | h
                · exact hno.out j h
                · obtain rfl : j = k := by omega
                  rw [← HMK.out]; exact HFF.out, (hG.t hG5).t hG6⟩
              case measure => have := HMK.out; simp [intOf]; omega
        · obtain rfl : N = k := by omega
          have HFR := Lib.hid (firstR_none hno.out)
          have hkc : ¬ (((a + N : Nat) : Int) ≤ b) := by omega
          go_wp2_with fail
          exact HO.out _ _ _ HFR.out gk
    · have HE := Lib.hid (HER.out _ hz gz)
      clear HOK HER HL HB HIS bz
      go_wp2
      exact HE.out
  ·
    refine wpAnyY_take (i := 4) (v := ?_) rfl (by kernel_rfl) (by kernel_rfl) (by kernel_rfl) (by kernel_rfl) (fun _ _ _ h => h) (Or.inl ⟨by kernel_rfl, ?_⟩) hS ?_
    rotate_left
    · intro w' hSw; go_simp; with_reducible rfl
    try simp only [Act.put, List.getElem_toArray, List.getElem_cons_zero, List.getElem_cons_succ, List.setIfInBounds_toArray, List.set_cons_zero, List.set_cons_succ]
    refine wpAnyY_oneSW (i := 5) (by kernel_rfl) rfl (by kernel_rfl) (fun K5 hK5 => ?_)
    go_simp
    refine (HM.out _).mono ?_
    rintro e w3 ⟨rfl, hG5⟩
    replace ga := ga.t hG5
    refine hK5.out _ _ (b0.keep ga) (fun hS => ?_)
    try simp only [Act.put, List.getElem_toArray, List.getElem_cons_zero, List.getElem_cons_succ, List.setIfInBounds_toArray, List.set_cons_zero, List.set_cons_succ]
    refine wpAnyY_take (i := 6) (v := ?_) rfl (by kernel_rfl) (by kernel_rfl) (by kernel_rfl) (by kernel_rfl) (fun _ _ _ h => h) (Or.inl ⟨by kernel_rfl, ?_⟩) hS ?_
    rotate_left
    · intro w' hSw; go_simp; with_reducible rfl
    try simp only [Act.put, List.getElem_toArray, List.getElem_cons_zero, List.getElem_cons_succ, List.setIfInBounds_toArray, List.set_cons_zero, List.set_cons_succ]
    refine wpAnyY_oneSW (i := 7) (by kernel_rfl) rfl (by kernel_rfl) (fun K7 hK7 => ?_)
    go_simp
    refine (HQ.out _ (g0.t ga)).mono ?_
    rintro e w4 ⟨rfl, hG7⟩
    replace ga := ga.t hG7
    refine hK7.out _ _ (b0.keep ga) (fun hS => ?_)
    try simp only [Act.put, List.getElem_toArray, List.getElem_cons_zero, List.getElem_cons_succ, List.setIfInBounds_toArray, List.set_cons_zero, List.set_cons_succ]
    refine wpAnyY_oneW (i := 8) (by kernel_rfl) rfl (by kernel_rfl) (by kernel_rfl) (fun K8 hK8 => ?_)
    go_simp
    refine hK8.out _ _ ?_
    try simp only [Act.put, List.getElem_toArray, List.getElem_cons_zero, List.getElem_cons_succ, List.setIfInBounds_toArray, List.set_cons_zero, List.set_cons_succ]
    refine wpAnyY_done (by kernel_rfl) ?_ _
    have gz := g0.t ga
    have bz : Blk w4 w.heap.size 35 REL := b0.keep ga
    clear b0 hS HI HM HQ g0 ga
    by_cases hz : Z = 0
    · obtain ⟨rfl, rfl, ha, hb⟩ := HAB.out hz
      have HLz := Lib.hid (HL.out hz)
      have HBz := Lib.hid (HB.out hz)
      have HO := Lib.hid (fun w' x y h => HOK.out w' x y hz h)
      subst hz
      clear HL HB HOK HER HAB
      go_wp2_with fail
      go_loopw [9] (fun i wr => ∃ k : Nat, k ≤ N ∧ i = .int .i64 ((a + k : Nat) : Int) ∧ Hid (∀ j, j < k → fly (a + j) = false) ∧ G w4 wr) (fun i _ => N - ((intOf i).toNat - a))
      case atStart => exact ⟨0, Nat.zero_le _, by go_num, fun j hj => absurd hj (Nat.not_lt_zero _), G.rf _⟩
      case round =>
        obtain ⟨k, hk, rfl, hno, hG⟩ := hrel
        obtain ⟨wo, rfl⟩ : ∃ wo, wo = wr := ⟨_, rfl⟩
        have bk := bz.keep hG
        have gk := gz.t hG
        by_cases hlt : k < N
        · obtain ⟨m, hm⟩ : ∃ m, m = a + k := ⟨_, rfl⟩
          have HMK := Lib.hid hm
          rw [← hm]
          have hml : ((m : Nat) : Int) ≤ b := by omega
          have hm2 : m ≤ 1000000 := by omega
          clear hm
          go_upto_region 7 with fail
          refine wp_region_lit ?_
          refine wpList_load35 w.heap.size 3 HIS.out rfl rfl rfl bk ?_
          try simp only [Act.put, List.getElem_toArray, List.getElem_cons_zero, List.getElem_cons_succ, List.setIfInBounds_toArray, List.set_cons_zero, List.set_cons_succ]
          refine wpList_plain rfl fun K hK => ?_
          go_simp
          refine hK _ _ ?_
          clear hK
          try simp only [Act.put, List.getElem_toArray, List.getElem_cons_zero, List.getElem_cons_succ, List.setIfInBounds_toArray, List.set_cons_zero, List.set_cons_succ]
          refine wpList_plain rfl fun K hK => ?_
          go_simp
          refine (HLz.out _ m gk hm2).mono ?_
          rintro e w5 ⟨rfl, hG5⟩
          refine hK _ _ ?_
          clear hK
          try simp only [Act.put, List.getElem_toArray, List.getElem_cons_zero, List.getElem_cons_succ, List.setIfInBounds_toArray, List.set_cons_zero, List.set_cons_succ]
          have gk5 := gk.t hG5
          have bk5 := bk.keep hG5
          have hgo := HFY.out m
          cases hl : lit m
          · have hff : fly m = false := by rw [hgo, hl]; rfl
            have HFF := Lib.hid hff
            clear hff hgo hl
            go_wp2_with fail
            go_roundw
            case rel => exact ⟨k + 1, by omega, by rw [HMK.out]; go_num, fun j hj => by
              rcases Nat.lt_or_ge j k with h | h
              · exact hno.out j h
              · obtain rfl : j = k := by omega
                rw [← HMK.out]; exact HFF.out, hG.t hG5⟩
            case measure => have := HMK.out; simp [intOf]; omega
          · refine wpList_plain rfl fun K hK => ?_
            go_simp
            refine hK _ _ ?_
            clear hK
            try simp only [Act.put, List.getElem_toArray, List.getElem_cons_zero, List.getElem_cons_succ, List.setIfInBounds_toArray, List.set_cons_zero, List.set_cons_succ]
            refine wpList_load35g w.heap.size 3 HIS.out rfl rfl rfl bk5 ?_
            try simp only [Act.put, List.getElem_toArray, List.getElem_cons_zero, List.getElem_cons_succ, List.setIfInBounds_toArray, List.set_cons_zero, List.set_cons_succ]
            have HX := Lib.hid (HBz.out _ m gk5 hm2)
            obtain ⟨M, hM⟩ : ∃ M, M = nb m := ⟨_, rfl⟩
            rw [← hM] at HX hgo
            by_cases h0 : M = 0
            · have hft : fly m = true := by rw [hgo, hl, h0]; rfl
              have hfr := firstR_some hlt (by rw [← HMK.out]; exact hft) hno.out
              rw [← HMK.out] at hfr
              have HFR := Lib.hid hfr
              rw [h0] at HX
              clear hfr hft hgo hl hM h0
              go_wp2_with (go_at_call 59; refine (HX.out).mono ?_; rintro e w6 ⟨⟨p, c, rfl⟩, hG6⟩)
              exact HO.out _ _ _ HFR.out (gk5.t hG6)
            · have hff : fly m = false := by rw [hgo, hl, decide_eq_false h0]; rfl
              have HFF := Lib.hid hff
              have hm0 : ((M : Int) == 0) = false := by simp [h0]
              clear hff hgo hl hM
              go_wp2_with (go_at_call 59; refine (HX.out).mono ?_; rintro e w6 ⟨⟨p, c, rfl⟩, hG6⟩)
              go_roundw
              case rel => exact ⟨k + 1, by omega, by rw [HMK.out]; go_num, fun j hj => by
                rcases Nat.lt_or_ge j k with h | h
                · exact hno.out j h
                · obtain rfl : j = k := by omega
                  rw [← HMK.out]; exact HFF.out, (hG.t hG5).t hG6⟩
              case measure => have := HMK.out; simp [intOf]; omega
        · obtain rfl : N = k := by omega
          have HFR := Lib.hid (firstR_none hno.out)
          have hkc : ¬ (((a + N : Nat) : Int) ≤ b) := by omega
          go_wp2_with fail
          exact HO.out _ _ _ HFR.out gk
    · have HE := Lib.hid (HER.out _ hz gz)
      clear HOK HER HL HB HIS bz
      go_wp2
      exact HE.out
end
end Go.Proofs.YtcekdljjmfkacaaGreat
