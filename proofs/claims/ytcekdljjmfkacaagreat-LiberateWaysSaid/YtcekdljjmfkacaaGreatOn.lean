import Derived.Test.YtcekdljjmfkacaaGreatOm
set_option linter.unusedSimpArgs false
set_option linter.unusedVariables false
namespace Go.Proofs.YtcekdljjmfkacaaGreat
open Go.RowKit Go.Shelf
attribute [local go_sem] Oper.semAt_some wide_fn wide_dep wideR_fn wideR_dep
theorem rAbs_any (n : Int) (w : World) (h : -1000000000 ≤ n ∧ n ≤ 1000000000) : Calls Tryz.prog 76 #[.int .i64 n] w fun e w' => e = .returned (.int .i64 (max n (-n))) ∧ G w w' := by
  have x1 : IntKind.i64.wrap (-n) = -n := IntWalk.i64_in _ (by omega)
  have xm := max2 n (-n) w
  go_enter Tryz.func76, Tryz.ntmps76
  go_wp2
  go_ret
  exact ⟨rfl, G.rf _⟩
theorem rDown_any (a b : Int) (w : World) (h : -1000000000 ≤ a ∧ a ≤ 1000000000) (hb : 0 < b ∧ b ≤ 1000000000) : Calls Tryz.prog 77 #[.int .i64 a, .int .i64 b] w fun e w' => e = .returned (.int .i64 (a / b)) ∧ G w w' := by
  have hb0 : (b == 0) = false := by simp; omega
  have hb1 : ¬ b = 0 := by omega
  have h1 := Int.mul_tdiv_add_tmod a b
  have h2 := Int.tmod_lt_of_pos a hb.1
  have h3 := Int.lt_tmod_of_pos a hb.1
  obtain ⟨q, hq⟩ : ∃ q, a.tdiv b = q := ⟨_, rfl⟩
  obtain ⟨r, hr⟩ : ∃ r, a.tmod b = r := ⟨_, rfl⟩
  rw [hq, hr] at h1
  rw [hr] at h2 h3
  have hfl : a / b = if r < 0 then q - 1 else q := by
    have key : ∀ z, b * z ≤ a → a < b * (z + 1) → a / b = z := fun z u v => by
      have e1 : z ≤ a / b := (Int.le_ediv_iff_mul_le hb.1).2 (by rw [Int.mul_comm]; exact u)
      have e2 : a / b < z + 1 := (Int.ediv_lt_iff_lt_mul hb.1).2 (by rw [Int.mul_comm]; exact v)
      omega
    have m1 : b * (q - 1) = b * q - b := by rw [Int.mul_sub, Int.mul_one]
    have m2 : b * (q + 1) = b * q + b := by rw [Int.mul_add, Int.mul_one]
    split
    · refine key _ (by omega) ?_
      rw [Int.sub_add_cancel]; omega
    · exact key _ (by omega) (by omega)
  have hqb : -2000000000 ≤ q ∧ q ≤ 2000000000 := by
    have e : a / b ≤ 1000000000 := by
      have := (Int.ediv_le_iff_le_mul hb.1 (x := a) (y := 1000000000))
      have h4 : a < b * (1000000000 + 1) := by
        have : b * 1 ≤ b * 1000000001 := Int.mul_le_mul_of_nonneg_left (by decide) (by omega)
        have h5 : (1 : Int) * 1000000001 ≤ b * 1000000001 := Int.mul_le_mul_of_nonneg_right (by omega) (by decide)
        omega
      have h6 : a / b < 1000000001 := (Int.ediv_lt_iff_lt_mul hb.1).2 (by rw [Int.mul_comm]; exact h4)
      omega
    have e2 : -1000000001 ≤ a / b := (Int.le_ediv_iff_mul_le hb.1).2 (by
      have h5 : (-1000000001) * b ≤ (-1000000001) * 1 := by
        have : (1 : Int) ≤ b := by omega
        omega
      omega)
    rw [hfl] at e e2
    split at e <;> split at e2 <;> omega
  have x1 : IntKind.i64.wrap q = q := IntWalk.i64_in _ (by omega)
  have x2 : IntKind.i64.wrap (q - 1) = q - 1 := IntWalk.i64_in _ (by omega)
  have x3 : IntKind.i64.wrap r = r := IntWalk.i64_in _ (by omega)
  rw [hfl]
  clear h1 h2 h3 hfl hqb
  by_cases hr0 : r < 0
  · rw [if_pos hr0]
    go_enter Tryz.func77, Tryz.ntmps77
    go_wp2
    go_ret
    exact ⟨rfl, G.rf _⟩
  · rw [if_neg hr0]
    go_enter Tryz.func77, Tryz.ntmps77
    go_wp2
    go_ret
    exact ⟨rfl, G.rf _⟩
theorem btw_int (f t k n : Nat) (hk : k ≤ n) (hn : 1 ≤ n) : (f : Int) + (2 * (k : Int) * ((t : Int) - f) + n) / (2 * (n : Int)) = (btw f t k n : Nat) := by
  unfold btw
  have e : ((2 * (f * (n - k) + t * k) + n : Nat) : Int) = (2 * (k : Int) * ((t : Int) - f) + n) + f * (2 * (n : Int)) := by
    obtain ⟨d, rfl⟩ := Nat.le.dest hk
    rw [Nat.add_sub_cancel_left]
    simp only [Int.natCast_add, Int.natCast_mul]
    have h1 : (2 : Int) * (k : Int) * ((t : Int) - f) = 2 * ((t : Int) * k) - 2 * ((f : Int) * k) := by
      rw [Int.mul_sub, Int.mul_assoc, Int.mul_assoc, Int.mul_comm (k : Int) t, Int.mul_comm (k : Int) f]
    have h2 : (f : Int) * (2 * ((k : Int) + d)) = 2 * ((f : Int) * k) + 2 * ((f : Int) * d) := by
      rw [Int.mul_left_comm, Int.mul_add, Int.mul_add]
    rw [h1, h2]
    show (2 : Int) * ((f : Int) * d + (t : Int) * k) + ((k : Int) + d) = _
    omega
  have e2 : ((2 * n : Nat) : Int) = 2 * (n : Int) := by simp
  rw [Int.natCast_ediv, e, e2, Int.add_mul_ediv_right _ _ (by omega)]
  omega
theorem max_abs (fx fy tx ty : Nat) : max (max ((tx : Int) - fx) (-((tx : Int) - fx))) (max ((ty : Int) - fy) (-((ty : Int) - fy))) = (stepsN fx fy tx ty : Nat) := by
  unfold stepsN dst
  omega
section
variable (bx bY hx hy hi n hc gH oH : Nat) (REL : Array Value) (w : World)
set_option maxRecDepth 100000 in
set_option maxHeartbeats 8000000 in
theorem refWay_walk (hIs : IsRel REL) (h6 : REL[6]? = some (.int .i64 (bx : Nat))) (h7 : REL[7]? = some (.int .i64 (bY : Nat))) (h8 : REL[8]? = some (.slice (some ⟨gH, oH, none⟩) n hc)) (hin : hi < n) (hgH : gH < w.heap.size)
    (p0 : w.cell? ⟨gH, oH + hi * 2, none⟩ = some (.int .i64 (hx : Nat))) (p1 : w.cell? ⟨gH, oH + hi * 2 + 1, none⟩ = some (.int .i64 (hy : Nat))) (b1 : bx ≤ 99) (b2 : bY ≤ 99) (b3 : hx ≤ 99) (b4 : hy ≤ 99) :
    Calls Tryz.prog 42 #[.agg REL, .int .i64 (hi : Nat)] w (PbPost w (pbK bx bY hx hy (stepsN bx bY hx hy) (stepsN bx bY hx hy))) := by
  have hini : (hi : Int) < n := by omega
  have HAB := Lib.hid (fun (x : Int) (W : World) h => rAbs_any x W h)
  have HDN := Lib.hid (fun (x y : Int) (W : World) h h' => rDown_any x y W h h')
  have HMX := Lib.hid (fun (W : World) => max2 (max ((hx : Int) - bx) (-((hx : Int) - bx))) (max ((hy : Int) - bY) (-((hy : Int) - bY))) W)
  rw [max_abs bx bY hx hy] at HMX
  have hn99 : stepsN bx bY hx hy ≤ 99 := by unfold stepsN dst; omega
  have hbs : (-99 ≤ (hx : Int) - bx ∧ (hx : Int) - bx ≤ 99) ∧ (-99 ≤ (hy : Int) - bY ∧ (hy : Int) - bY ≤ 99) := by omega
  have HP : Hid (∀ w' v, w'.ownsRow w.heap.size 27 2 v (pbK bx bY hx hy (stepsN bx bY hx hy) (stepsN bx bY hx hy)).length (ptsV (pbK bx bY hx hy (stepsN bx bY hx hy) (stepsN bx bY hx hy))) → G w w' → PbPost w (pbK bx bY hx hy (stepsN bx bY hx hy) (stepsN bx bY hx hy)) (.returned v) w') := fun w' v a b => ⟨v, rfl, a, b⟩
  generalize PbPost w (pbK bx bY hx hy (stepsN bx bY hx hy) (stepsN bx bY hx hy)) = PP at *
  generalize stepsN bx bY hx hy = N at *
  have x1 : IntKind.i64.wrap ((hx : Int) - bx) = hx - bx := IntWalk.i64_in _ (by omega)
  have x2 : IntKind.i64.wrap ((hy : Int) - bY) = hy - bY := IntWalk.i64_in _ (by omega)
  have g0 : G w (w.alloc (.cells REL 35)) := (G.rf _).a _
  have b0 : Blk (w.alloc (.cells REL 35)) w.heap.size 35 REL := Blk.new w 35 REL
  obtain ⟨i0, hi0, hz0, hz1, hz2⟩ := info_parts info27
  go_enter Tryz.func42, Tryz.ntmps42
  go_upto_region 1 with fail
  change Code.wp _ _ _ _ (w.alloc (.cells REL 35))
  generalize w.alloc (.cells REL 35) = w1 at *
  have a6 := b0.gw 6 h6
  have a7 := b0.gw 7 h7
  have a8 := b0.gw 8 h8
  have q0 := GW.cell (((bcellB g0).1 gH _ hgH).trans p0) (Nat.lt_of_lt_of_le hgH g0.size)
  have q1 := GW.cell (((bcellB g0).1 gH _ hgH).trans p1) (Nat.lt_of_lt_of_le hgH g0.size)
  refine wp_region_quiet_G (by kernel_rfl) (by kernel_rfl) ?_
  repeat (quiet_step (fail))
  refine wpQuiet_nil ?_
  intro _ hw'
  obtain ⟨y, rfl⟩ := hw'
  clear a6 a7 a8 q0 q1
  have gy := y.g
  replace g0 := g0.t gy
  replace b0 := b0.keep gy
  generalize y.w = w2 at *
  clear gy y p0 p1
  have HA1 := Lib.hid (fun W : World => HAB.out ((hx : Int) - bx) W (by omega))
  have HA2 := Lib.hid (fun W : World => HAB.out ((hy : Int) - bY) W (by omega))
  clear HAB
  generalize hdx : (hx : Int) - bx = dx at *
  generalize hdy : (hy : Int) - bY = dy at *
  have HDX := Lib.hid hdx
  have HDY := Lib.hid hdy
  clear hdx hdy x1 x2
  have c6 := (b0.cell 6).trans h6
  have c7 := (b0.cell 7).trans h7
  have l0 := b0.lt
  go_wp2_with (first | (go_at_call 76; refine (HA1.out _).mono ?_; rintro e wa ⟨rfl, hGa⟩; clear HA1 c6 c7 l0; replace b0 := b0.keep hGa; replace g0 := g0.t hGa) | (go_at_call 76; refine (HA2.out _).mono ?_; rintro e wb ⟨rfl, hGb⟩; clear HA2; replace b0 := b0.keep hGb; replace g0 := g0.t hGb; have c6 := (b0.cell 6).trans h6; have c7 := (b0.cell 7).trans h7; have l0 := b0.lt; have xm := HMX.out wb))
  have hG1 : G w (wb.alloc (.cells #[.int .i64 (bx : Nat), .int .i64 (bY : Nat)] 27)) := g0.a _
  have HOW := Lib.hid (own_pt (Blk.new wb 27 #[.int .i64 (bx : Nat), .int .i64 (bY : Nat)]))
  have hw1 : w.heap.size ≤ wb.heap.size := g0.size
  replace b0 := b0.keep ((G.rf wb).a (.cells #[.int .i64 (bx : Nat), .int .i64 (bY : Nat)] 27))
  have hsz : wb.heap.size ≤ (wb.alloc (.cells #[.int .i64 (bx : Nat), .int .i64 (bY : Nat)] 27)).heap.size := by simp
  obtain ⟨n3, hn3⟩ : ∃ n3, n3 = wb.heap.size := ⟨_, rfl⟩
  rw [← hn3] at HOW hw1 hsz ⊢
  generalize wb.alloc (.cells #[.int .i64 (bx : Nat), .int .i64 (bY : Nat)] 27) = w3 at *
  clear c6 c7 l0 g0 xm HMX hn3
  go_loopw [8, 9] (fun v i wr => ∃ k : Nat, k ≤ N ∧ i = .int .i64 ((k + 1 : Nat) : Int) ∧ wr.ownsRow n3 27 2 v (pbK bx bY hx hy N k).length (ptsV (pbK bx bY hx hy N k)) ∧ Blk wr w.heap.size 35 REL ∧ G w wr ∧ n3 ≤ wr.heap.size) (fun _ i _ => N + 1 - (intOf i).toNat)
  case atStart => exact ⟨0, Nat.zero_le _, rfl, HOW.out, b0, hG1, hsz⟩
  case round =>
    clear b0 hG1 hsz HOW
    obtain ⟨k, hk, rfl, ho, b0, hG, hsz⟩ := hrel
    obtain ⟨wo, rfl⟩ : ∃ wo, wo = wr := ⟨_, rfl⟩
    have HO := Lib.hid ho
    clear ho
    by_cases hlt : k < N
    · have hki : ((k : Int) + 1) ≤ N := by omega
      have HSU := Lib.hid (pbK_succ bx bY hx hy N k)
      have HLK := Lib.hid (pbK_len bx bY hx hy N k)
      obtain ⟨j, hj⟩ : ∃ j, j = k + 1 := ⟨_, rfl⟩
      have e1 := btw_int bx hx j N (by omega) (by omega)
      have e2 := btw_int bY hy j N (by omega) (by omega)
      rw [HDX.out] at e1
      rw [HDY.out] at e2
      rw [← hj] at HSU ⊢
      have hji : (j : Int) ≤ N := by omega
      have hj1 : 1 ≤ j := by omega
      have HJ := Lib.hid hj
      obtain ⟨t1, t2⟩ := mul_bd (A := 200) (B := 99) (a := 2 * (j : Int)) (b := dx) (by omega) (by omega) (by omega) (by omega)
      obtain ⟨t3, t4⟩ := mul_bd (A := 200) (B := 99) (a := 2 * (j : Int)) (b := dy) (by omega) (by omega) (by omega) (by omega)
      have y1 : IntKind.i64.wrap (2 * (j : Int)) = 2 * (j : Int) := IntWalk.i64_in _ (by omega)
      have y2 : IntKind.i64.wrap (2 * (j : Int) * dx) = 2 * (j : Int) * dx := IntWalk.i64_in _ (by omega)
      have y3 : IntKind.i64.wrap (2 * (j : Int) * dx + N) = 2 * (j : Int) * dx + N := IntWalk.i64_in _ (by omega)
      have y4 : IntKind.i64.wrap (2 * (N : Int)) = 2 * (N : Int) := IntWalk.i64_in _ (by omega)
      have y5 : IntKind.i64.wrap (2 * (j : Int) * dy) = 2 * (j : Int) * dy := IntWalk.i64_in _ (by omega)
      have y6 : IntKind.i64.wrap (2 * (j : Int) * dy + N) = 2 * (j : Int) * dy + N := IntWalk.i64_in _ (by omega)
      have D1 := Lib.hid (fun W : World => HDN.out (2 * (j : Int) * dx + N) (2 * (N : Int)) W (by omega) (by omega))
      have D2 := Lib.hid (fun W : World => HDN.out (2 * (j : Int) * dy + N) (2 * (N : Int)) W (by omega) (by omega))
      have hb1 := btw_le (f := bx) (t := hx) (k := j) (n := N) (M := 99) b1 b3 (by omega) (by omega)
      have hb2 := btw_le (f := bY) (t := hy) (k := j) (n := N) (M := 99) b2 b4 (by omega) (by omega)
      obtain ⟨B1, hB1⟩ : ∃ B1, B1 = btw bx hx j N := ⟨_, rfl⟩
      obtain ⟨B2, hB2⟩ : ∃ B2, B2 = btw bY hy j N := ⟨_, rfl⟩
      rw [← hB1] at e1 hb1
      rw [← hB2] at e2 hb2
      rw [← hB1, ← hB2] at HSU
      clear hB1 hB2 t1 t2 t3 t4
      generalize (2 * (j : Int) * dx + N) / (2 * (N : Int)) = Q1 at *
      generalize (2 * (j : Int) * dy + N) / (2 * (N : Int)) = Q2 at *
      have y7 : IntKind.i64.wrap ((bx : Int) + Q1) = (B1 : Nat) := by rw [e1]; exact IntWalk.i64_in _ (by omega)
      have y8 : IntKind.i64.wrap ((bY : Int) + Q2) = (B2 : Nat) := by rw [e2]; exact IntWalk.i64_in _ (by omega)
      have yk : IntKind.i64.wrap ((j : Int) + 1) = ((j + 1 : Nat) : Int) := by rw [IntWalk.i64_in _ (by omega)]; rfl
      clear e1 e2 hj hki HDX HDY HDN
      have hSk : ∀ W', G wo W' → Blk W' w.heap.size 35 REL := fun W' h => b0.keep h
      go_wp2_with fail
      refine wp_region_Y (S := fun W' => Blk W' w.heap.size 35 REL) 29 31 rfl (by kernel_rfl) (hSk _ (G.rf _).d) (fun hS => ?_)
      refine wpAnyY_take (i := 0) (v := ?_) rfl (by kernel_rfl) (by kernel_rfl) (by kernel_rfl) (by kernel_rfl) (fun _ _ _ h => h) (Or.inl ⟨by kernel_rfl, ?_⟩) hS ?_
      rotate_left
      · intro w' hSw; go_simp; with_reducible rfl
      try simp only [Act.put, List.getElem_toArray, List.getElem_cons_zero, List.getElem_cons_succ, List.setIfInBounds_toArray, List.set_cons_zero, List.set_cons_succ]
      refine wpAnyY_take (i := 1) (v := ?_) rfl (by kernel_rfl) (by kernel_rfl) (by kernel_rfl) (by kernel_rfl) (fun _ _ _ h => h) (Or.inl ⟨by kernel_rfl, ?_⟩) hS ?_
      rotate_left
      · intro w' hSw; go_simp; with_reducible rfl
      try simp only [Act.put, List.getElem_toArray, List.getElem_cons_zero, List.getElem_cons_succ, List.setIfInBounds_toArray, List.set_cons_zero, List.set_cons_succ]
      refine wpAnyY_take (i := 2) (v := ?_) rfl (by kernel_rfl) (by kernel_rfl) (by kernel_rfl) (by kernel_rfl) (fun _ _ _ h => h) (Or.inl ⟨by kernel_rfl, ?_⟩) hS ?_
      rotate_left
      · intro w' hSw; go_simp; with_reducible rfl
      try simp only [Act.put, List.getElem_toArray, List.getElem_cons_zero, List.getElem_cons_succ, List.setIfInBounds_toArray, List.set_cons_zero, List.set_cons_succ]
      refine wpAnyY_take (i := 3) (v := ?_) rfl (by kernel_rfl) (by kernel_rfl) (by kernel_rfl) (by kernel_rfl) (fun _ _ _ h => h) (Or.inl ⟨by kernel_rfl, ?_⟩) hS ?_
      rotate_left
      · intro w' hSw; have e := (hSw.cell 6).trans h6; have lb := hSw.lt; go_simp; with_reducible rfl
      try simp only [Act.put, List.getElem_toArray, List.getElem_cons_zero, List.getElem_cons_succ, List.setIfInBounds_toArray, List.set_cons_zero, List.set_cons_succ]
      refine wpAnyY_take (i := 4) (v := ?_) rfl (by kernel_rfl) (by kernel_rfl) (by kernel_rfl) (by kernel_rfl) (fun _ _ _ h => h) (Or.inl ⟨by kernel_rfl, ?_⟩) hS ?_
      rotate_left
      · intro w' hSw; go_simp; with_reducible rfl
      try simp only [Act.put, List.getElem_toArray, List.getElem_cons_zero, List.getElem_cons_succ, List.setIfInBounds_toArray, List.set_cons_zero, List.set_cons_succ]
      refine wpAnyY_take (i := 5) (v := ?_) rfl (by kernel_rfl) (by kernel_rfl) (by kernel_rfl) (by kernel_rfl) (fun _ _ _ h => h) (Or.inl ⟨by kernel_rfl, ?_⟩) hS ?_
      rotate_left
      · intro w' hSw; go_simp; with_reducible rfl
      try simp only [Act.put, List.getElem_toArray, List.getElem_cons_zero, List.getElem_cons_succ, List.setIfInBounds_toArray, List.set_cons_zero, List.set_cons_succ]
      refine wpAnyY_take (i := 6) (v := ?_) rfl (by kernel_rfl) (by kernel_rfl) (by kernel_rfl) (by kernel_rfl) (fun _ _ _ h => h) (Or.inl ⟨by kernel_rfl, ?_⟩) hS ?_
      rotate_left
      · intro w' hSw; go_simp; with_reducible rfl
      try simp only [Act.put, List.getElem_toArray, List.getElem_cons_zero, List.getElem_cons_succ, List.setIfInBounds_toArray, List.set_cons_zero, List.set_cons_succ]
      refine wpAnyY_take (i := 7) (v := ?_) rfl (by kernel_rfl) (by kernel_rfl) (by kernel_rfl) (by kernel_rfl) (fun _ _ _ h => h) (Or.inl ⟨by kernel_rfl, ?_⟩) hS ?_
      rotate_left
      · intro w' hSw; go_simp; with_reducible rfl
      try simp only [Act.put, List.getElem_toArray, List.getElem_cons_zero, List.getElem_cons_succ, List.setIfInBounds_toArray, List.set_cons_zero, List.set_cons_succ]
      refine wpAnyY_take (i := 8) (v := ?_) rfl (by kernel_rfl) (by kernel_rfl) (by kernel_rfl) (by kernel_rfl) (fun _ _ _ h => h) (Or.inl ⟨by kernel_rfl, ?_⟩) hS ?_
      rotate_left
      · intro w' hSw; go_simp; with_reducible rfl
      try simp only [Act.put, List.getElem_toArray, List.getElem_cons_zero, List.getElem_cons_succ, List.setIfInBounds_toArray, List.set_cons_zero, List.set_cons_succ]
      refine wpAnyY_take (i := 9) (v := ?_) rfl (by kernel_rfl) (by kernel_rfl) (by kernel_rfl) (by kernel_rfl) (fun _ _ _ h => h) (Or.inl ⟨by kernel_rfl, ?_⟩) hS ?_
      rotate_left
      · intro w' hSw; go_simp; with_reducible rfl
      try simp only [Act.put, List.getElem_toArray, List.getElem_cons_zero, List.getElem_cons_succ, List.setIfInBounds_toArray, List.set_cons_zero, List.set_cons_succ]
      refine wpAnyY_take (i := 10) (v := ?_) rfl (by kernel_rfl) (by kernel_rfl) (by kernel_rfl) (by kernel_rfl) (fun _ _ _ h => h) (Or.inl ⟨by kernel_rfl, ?_⟩) hS ?_
      rotate_left
      · intro w' hSw; go_simp; with_reducible rfl
      try simp only [Act.put, List.getElem_toArray, List.getElem_cons_zero, List.getElem_cons_succ, List.setIfInBounds_toArray, List.set_cons_zero, List.set_cons_succ]
      refine wpAnyY_take (i := 11) (v := ?_) rfl (by kernel_rfl) (by kernel_rfl) (by kernel_rfl) (by kernel_rfl) (fun _ _ _ h => h) (Or.inl ⟨by kernel_rfl, ?_⟩) hS ?_
      rotate_left
      · intro w' hSw; go_simp; with_reducible rfl
      try simp only [Act.put, List.getElem_toArray, List.getElem_cons_zero, List.getElem_cons_succ, List.setIfInBounds_toArray, List.set_cons_zero, List.set_cons_succ]
      refine wpAnyY_take (i := 14) (v := ?_) rfl (by kernel_rfl) (by kernel_rfl) (by kernel_rfl) (by kernel_rfl) (fun _ _ _ h => h) (Or.inl ⟨by kernel_rfl, ?_⟩) hS ?_
      rotate_left
      · intro w' hSw; go_simp; with_reducible rfl
      try simp only [Act.put, List.getElem_toArray, List.getElem_cons_zero, List.getElem_cons_succ, List.setIfInBounds_toArray, List.set_cons_zero, List.set_cons_succ]
      refine wpAnyY_take (i := 15) (v := ?_) rfl (by kernel_rfl) (by kernel_rfl) (by kernel_rfl) (by kernel_rfl) (fun _ _ _ h => h) (Or.inl ⟨by kernel_rfl, ?_⟩) hS ?_
      rotate_left
      · intro w' hSw; go_simp; with_reducible rfl
      try simp only [Act.put, List.getElem_toArray, List.getElem_cons_zero, List.getElem_cons_succ, List.setIfInBounds_toArray, List.set_cons_zero, List.set_cons_succ]
      refine wpAnyY_take (i := 16) (v := ?_) rfl (by kernel_rfl) (by kernel_rfl) (by kernel_rfl) (by kernel_rfl) (fun _ _ _ h => h) (Or.inl ⟨by kernel_rfl, ?_⟩) hS ?_
      rotate_left
      · intro w' hSw; have e := (hSw.cell 7).trans h7; have lb := hSw.lt; go_simp; with_reducible rfl
      try simp only [Act.put, List.getElem_toArray, List.getElem_cons_zero, List.getElem_cons_succ, List.setIfInBounds_toArray, List.set_cons_zero, List.set_cons_succ]
      refine wpAnyY_take (i := 17) (v := ?_) rfl (by kernel_rfl) (by kernel_rfl) (by kernel_rfl) (by kernel_rfl) (fun _ _ _ h => h) (Or.inl ⟨by kernel_rfl, ?_⟩) hS ?_
      rotate_left
      · intro w' hSw; go_simp; with_reducible rfl
      try simp only [Act.put, List.getElem_toArray, List.getElem_cons_zero, List.getElem_cons_succ, List.setIfInBounds_toArray, List.set_cons_zero, List.set_cons_succ]
      refine wpAnyY_take (i := 18) (v := ?_) rfl (by kernel_rfl) (by kernel_rfl) (by kernel_rfl) (by kernel_rfl) (fun _ _ _ h => h) (Or.inl ⟨by kernel_rfl, ?_⟩) hS ?_
      rotate_left
      · intro w' hSw; go_simp; with_reducible rfl
      try simp only [Act.put, List.getElem_toArray, List.getElem_cons_zero, List.getElem_cons_succ, List.setIfInBounds_toArray, List.set_cons_zero, List.set_cons_succ]
      refine wpAnyY_take (i := 19) (v := ?_) rfl (by kernel_rfl) (by kernel_rfl) (by kernel_rfl) (by kernel_rfl) (fun _ _ _ h => h) (Or.inl ⟨by kernel_rfl, ?_⟩) hS ?_
      rotate_left
      · intro w' hSw; go_simp; with_reducible rfl
      try simp only [Act.put, List.getElem_toArray, List.getElem_cons_zero, List.getElem_cons_succ, List.setIfInBounds_toArray, List.set_cons_zero, List.set_cons_succ]
      refine wpAnyY_take (i := 20) (v := ?_) rfl (by kernel_rfl) (by kernel_rfl) (by kernel_rfl) (by kernel_rfl) (fun _ _ _ h => h) (Or.inl ⟨by kernel_rfl, ?_⟩) hS ?_
      rotate_left
      · intro w' hSw; go_simp; with_reducible rfl
      try simp only [Act.put, List.getElem_toArray, List.getElem_cons_zero, List.getElem_cons_succ, List.setIfInBounds_toArray, List.set_cons_zero, List.set_cons_succ]
      refine wpAnyY_take (i := 21) (v := ?_) rfl (by kernel_rfl) (by kernel_rfl) (by kernel_rfl) (by kernel_rfl) (fun _ _ _ h => h) (Or.inl ⟨by kernel_rfl, ?_⟩) hS ?_
      rotate_left
      · intro w' hSw; go_simp; with_reducible rfl
      try simp only [Act.put, List.getElem_toArray, List.getElem_cons_zero, List.getElem_cons_succ, List.setIfInBounds_toArray, List.set_cons_zero, List.set_cons_succ]
      refine wpAnyY_take (i := 22) (v := ?_) rfl (by kernel_rfl) (by kernel_rfl) (by kernel_rfl) (by kernel_rfl) (fun _ _ _ h => h) (Or.inl ⟨by kernel_rfl, ?_⟩) hS ?_
      rotate_left
      · intro w' hSw; go_simp; with_reducible rfl
      try simp only [Act.put, List.getElem_toArray, List.getElem_cons_zero, List.getElem_cons_succ, List.setIfInBounds_toArray, List.set_cons_zero, List.set_cons_succ]
      refine wpAnyY_take (i := 23) (v := ?_) rfl (by kernel_rfl) (by kernel_rfl) (by kernel_rfl) (by kernel_rfl) (fun _ _ _ h => h) (Or.inl ⟨by kernel_rfl, ?_⟩) hS ?_
      rotate_left
      · intro w' hSw; go_simp; with_reducible rfl
      try simp only [Act.put, List.getElem_toArray, List.getElem_cons_zero, List.getElem_cons_succ, List.setIfInBounds_toArray, List.set_cons_zero, List.set_cons_succ]
      refine wpAnyY_take (i := 24) (v := ?_) rfl (by kernel_rfl) (by kernel_rfl) (by kernel_rfl) (by kernel_rfl) (fun _ _ _ h => h) (Or.inl ⟨by kernel_rfl, ?_⟩) hS ?_
      rotate_left
      · intro w' hSw; go_simp; with_reducible rfl
      try simp only [Act.put, List.getElem_toArray, List.getElem_cons_zero, List.getElem_cons_succ, List.setIfInBounds_toArray, List.set_cons_zero, List.set_cons_succ]
      have ga := (G.rf wo).d
      refine wpAnyY_oneSW (i := 12) (by kernel_rfl) rfl (by kernel_rfl) (fun K12 hK12 => ?_)
      go_simp
      refine (D1.out _).mono ?_
      rintro e wc1 ⟨rfl, hG12⟩
      replace ga := ga.t hG12
      refine hK12.out _ _ (hSk _ ga) (fun hS => ?_)
      try simp only [Act.put, List.getElem_toArray, List.getElem_cons_zero, List.getElem_cons_succ, List.setIfInBounds_toArray, List.set_cons_zero, List.set_cons_succ]
      refine wpAnyY_take (i := 13) (v := ?_) rfl (by kernel_rfl) (by kernel_rfl) (by kernel_rfl) (by kernel_rfl) (fun _ _ _ h => h) (Or.inl ⟨by kernel_rfl, ?_⟩) hS ?_
      rotate_left
      · intro w' hSw; go_simp; with_reducible rfl
      try simp only [Act.put, List.getElem_toArray, List.getElem_cons_zero, List.getElem_cons_succ, List.setIfInBounds_toArray, List.set_cons_zero, List.set_cons_succ]
      refine wpAnyY_oneSW (i := 25) (by kernel_rfl) rfl (by kernel_rfl) (fun K25 hK25 => ?_)
      go_simp
      refine (D2.out _).mono ?_
      rintro e wc2 ⟨rfl, hG25⟩
      replace ga := ga.t hG25
      refine hK25.out _ _ (hSk _ ga) (fun hS => ?_)
      try simp only [Act.put, List.getElem_toArray, List.getElem_cons_zero, List.getElem_cons_succ, List.setIfInBounds_toArray, List.set_cons_zero, List.set_cons_succ]
      refine wpAnyY_take (i := 26) (v := ?_) rfl (by kernel_rfl) (by kernel_rfl) (by kernel_rfl) (by kernel_rfl) (fun _ _ _ h => h) (Or.inl ⟨by kernel_rfl, ?_⟩) hS ?_
      rotate_left
      · intro w' hSw; go_simp; with_reducible rfl
      try simp only [Act.put, List.getElem_toArray, List.getElem_cons_zero, List.getElem_cons_succ, List.setIfInBounds_toArray, List.set_cons_zero, List.set_cons_succ]
      refine wpAnyY_take (i := 27) (v := ?_) rfl (by kernel_rfl) (by kernel_rfl) (by kernel_rfl) (by kernel_rfl) (fun _ _ _ h => h) (Or.inl ⟨by kernel_rfl, ?_⟩) hS ?_
      rotate_left
      · intro w' hSw; go_simp; with_reducible rfl
      try simp only [Act.put, List.getElem_toArray, List.getElem_cons_zero, List.getElem_cons_succ, List.setIfInBounds_toArray, List.set_cons_zero, List.set_cons_succ]
      refine wpAnyY_oneSW (i := 28) (by kernel_rfl) rfl (by kernel_rfl) (fun K28 hK28 => ?_)
      go_simp
      refine hK28.out _ _ (hSk _ (ga.a _)) (fun hS => ?_)
      try simp only [Act.put, List.getElem_toArray, List.getElem_cons_zero, List.getElem_cons_succ, List.setIfInBounds_toArray, List.set_cons_zero, List.set_cons_succ]
      have g5 := ga.a (.cells #[.int .i64 (B1 : Nat), .int .i64 (B2 : Nat)] 27)
      refine wpAnyY_oneW (i := 29) (by kernel_rfl) rfl (by kernel_rfl) (by kernel_rfl) (fun K29 hK29 => ?_)
      refine wp_append_own _ _ _ 28 rfl n3 27 i0 _ 2 16 Tryz.underlying28 hi0 hz0 hz1 hz2 rfl (by decide) _ _ _ rfl (own_G HO.out g5) ⟨wc2.heap.size, 0, none⟩ 1 1 [.int .i64 (B1 : Nat), .int .i64 (B2 : Nat)] rfl rfl (cells_two (Blk.new _ _ _)) (by simp [Value.oneCell']) (by rw [HLK.out]; unfold maxLen; omega) (by rw [HLK.out]; omega) (Nat.le_trans hsz g5.size) ?_
      intro v9 w9 hown9 hg9 _
      have gz : G w w9 := grow_own (hG.t g5) (own_G HO.out g5) hw1 hg9
      have bz : Blk w9 w.heap.size 35 REL := (b0.keep g5).grown hg9 (own_ne (own_G HO.out g5) (b0.keep g5) (by decide))
      have sz : n3 ≤ w9.heap.size := Nat.le_trans (Nat.le_trans hsz g5.size) hg9.size
      have HN := Lib.hid hown9
      clear hown9 hg9 hS
      refine hK29.out _ _ ?_
      try simp only [Act.put, List.getElem_toArray, List.getElem_cons_zero, List.getElem_cons_succ, List.setIfInBounds_toArray, List.set_cons_zero, List.set_cons_succ]
      refine wpAnyY_oneW (i := 30) (by kernel_rfl) rfl (by kernel_rfl) (by kernel_rfl) (fun K30 hK30 => ?_)
      go_simp
      refine hK30.out _ _ ?_
      try simp only [Act.put, List.getElem_toArray, List.getElem_cons_zero, List.getElem_cons_succ, List.setIfInBounds_toArray, List.set_cons_zero, List.set_cons_succ]
      refine wpAnyY_done (by kernel_rfl) ?_ _
      clear hK12 hK25 hK28 hK29 hK30 hSk
      go_wp2
      go_roundw
      case rel => exact ⟨j, by omega, rfl, by rw [HSU.out, ptsV_snoc, List.length_append]; exact HN.out, bz, gz, sz⟩
      case measure => simp [intOf]; omega
    · obtain rfl : k = N := by omega
      have hki : ¬ ((k : Int) + 1) ≤ k := by omega
      have HF := Lib.hid (HP.out wo _ (own_weaken HO.out hw1) hG)
      go_wp2
      exact HF.out
end
end Go.Proofs.YtcekdljjmfkacaaGreat
