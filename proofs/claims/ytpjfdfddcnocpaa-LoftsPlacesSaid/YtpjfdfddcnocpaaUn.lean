import Derived.Test.YtpjfdfddcnocpaaUl
import Derived.Test.YtpjfdfddcnocpaaUm
import Derived.Laws.MakeOwn
set_option linter.unusedSimpArgs false
set_option linter.unusedVariables false
namespace Go.Proofs.Ytpjfdfddcnocpaa
open Go.RowKit
attribute [local go_sem] Oper.semAt_some

def rowC (f : Nat → Nat) (n : Nat) : Array Value := ((List.range n).map fun t => Value.int .i64 (f t)).toArray
theorem rowC_get (f : Nat → Nat) {n t : Nat} (h : t < n) : (rowC f n)[t]? = some (.int .i64 (f t)) := by
  unfold rowC
  simp [h]
theorem rowC_set (f : Nat → Nat) {n t : Nat} (h : t < n) (v : Nat) : (rowC f n).setIfInBounds t (.int .i64 v) = rowC (fun j => if j = t then v else f j) n := by
  unfold rowC
  apply Array.ext
  · simp
  · intro i h1 h2
    simp at h1 h2
    by_cases e : i = t
    · subst e
      simp
    · rw [Array.getElem_setIfInBounds_ne (by simpa using h1) (by omega)]
      simp [e]
section
variable (north : Int) (cols lofts W : Nat) (east : List Int) (svs : List Sv) (ea sa : Option Addr) (ec sc : Nat) (w : World)
set_option maxRecDepth 100000 in
set_option maxHeartbeats 8000000 in
theorem rMany_ok (he : IntsAt w ea east) (hs : SvsAt w sa svs) (hk : checkE north cols east lofts svs W = 0) :
    Calls Try.prog 37 #[.agg #[.int .i64 north, .int .i64 cols, .slice ea east.length ec, .int .i64 lofts, .slice sa svs.length sc, .int .i64 W]] w fun e w' => e = .returned (mnyV north cols lofts W east svs) ∧ G w w' := by
  have hvb := vm_bounds (checkE_ok hk)
  have hC := fun (W' : World) (hW : G w W') => rCheck_any north cols lofts W east svs ea sa ec sc W' (he.below hW) (hs.below hW) (by omega) (by have := (checkE_zero hk).2.1; omega)
  rw [hk] at hC
  have HC := Lib.hid hC
  have HCO := Lib.hid (fun (W' : World) (hW : G w W') => rCosts_any north W cols lofts east svs ea sa ec sc W' (he.below hW) (hs.below hW) hk)
  have hW3 : W ≤ 3 := by omega
  have HL16 := Lib.hid (checkE_zero hk).2.1
  have HN100 : Hid ((allP cols east.length).length ≤ 100) := by
    unfold Hid
    rw [allP_len]
    have : east.length * cols ≤ 10 * 10 := Nat.mul_le_mul (by omega) (by omega)
    omega
  have hlo8 : lofts ≤ 8 := by omega
  have HMV : Hid (mnyV north cols lofts W east svs = .tuple #[.int .i64 (if ((List.range (W + 1)).map fun t => wayR (costsL north cols east svs) W lofts t).sum ≤ 1000000 then ((((List.range (W + 1)).map fun t => wayR (costsL north cols east svs) W lofts t).sum : Nat) : Int) else 0), .int .i64 (if ((List.range (W + 1)).map fun t => wayR (costsL north cols east svs) W lofts t).sum ≤ 1000000 then 0 else 2)]) := by
    have h := wayR_many (north := north) (cols := cols) (lofts := lofts) (east := east) (svs := svs) (wrong := (W : Int)) (by omega) (by omega)
    simp only [Int.toNat_natCast] at h
    unfold mnyV Hid
    rw [if_pos hk, h]
    simp only [Int.toNat_natCast]
  clear hC hvb hk
  have g0 : G w (w.alloc (.cells #[.int .i64 north, .int .i64 cols, .slice ea east.length ec, .int .i64 lofts, .slice sa svs.length sc, .int .i64 W] 25)) := (G.rf _).a _
  have b0 := Blk.new w 25 #[.int .i64 north, .int .i64 cols, .slice ea east.length ec, .int .i64 lofts, .slice sa svs.length sc, .int .i64 W]
  have x1 : IntKind.i64.wrap ((W : Int) + 1) = ((W + 1 : Nat) : Int) := by rw [IntWalk.i64_in _ (by omega)]; omega
  obtain ⟨i0, hi0, hz0, hz1, hz2⟩ := info_parts info3
  have hmk : ∀ w : World, (Instr.makeSlice 22 (.int .i64 ((W : Int) + 1)) (.int .i64 ((W : Int) + 1))).run Try.prog w = .ok (.slice (some ⟨w.heap.size, 0, none⟩) (W + 1) (W + 1)) (w.alloc (.cells (rowC (fun _ => 0) (W + 1)) 3)) := fun w => by
    have h := run_makeSlice (P := Try.prog) w 22 3 i0 (.int .i64 0) Try.underlying22 hi0 hz0 .i64 .i64 ((W : Int) + 1) ((W : Int) + 1) (by omega) (Int.le_refl _) (by rw [hz1]; omega) (by rw [hz2]; omega) (by omega)
    rw [hz1, show ((W : Int) + 1).toNat = W + 1 by omega] at h
    rw [h]
    congr 3
    apply Array.ext
    · simp [rowC, size_madeCells, Value.cells]
    · intro i h1 h2
      simp [rowC, madeCells, Value.cells, Nat.mod_one]
  have HMK := Lib.hid hmk
  go_enter Try.func37, Try.ntmps37
  go_wp2_with (first | (go_at_call 14; refine (HC.out _ g0).mono ?_; rintro e w1 ⟨rfl, hG1⟩; replace b0 := b0.keep hG1; replace g0 := g0.t hG1; clear hG1; have m0 := b0.cell 0; have m1 := b0.cell 1; have m2 := b0.cell 2; have m3 := b0.cell 3; have m4 := b0.cell 4; have m5 := b0.cell 5; have lM := b0.lt) | (go_at_call 71; refine (HCO.out _ g0).mono ?_; rintro e w1 ⟨gC, capC, rfl, hgC, hCA, hG1⟩; clear m0 m1 m2 m3 m4 m5 lM; replace b0 := b0.keep hG1; replace g0 := g0.t hG1; clear hG1; have m5 := b0.cell 5; have lM := b0.lt; have BW := Blk.new w1 3 (rowC (fun _ => 0) (W + 1)); have f0 := BW.frozen 0; have k0 := (BW.cell 0).trans (rowC_get (fun _ => 0) (show 0 < W + 1 by omega)); have lW := BW.lt))
  have hcs0 : (rowC (fun _ => 0) (W + 1)).setIfInBounds 0 (.int .i64 1) = rowC (wayR (costsL north cols east svs) W 0) (W + 1) := by
    have h := rowC_set (fun _ => 0) (show 0 < W + 1 by omega) 1
    rw [show ((1 : Nat) : Int) = 1 from rfl] at h
    rw [h]
    rfl
  rw [hcs0]
  clear hcs0 f0 k0 lW BW m5 lM
  have bM := b0.alloc (.cells (rowC (wayR (costsL north cols east svs) W 0) (W + 1)) 3)
  have gA : G w1 (w1.alloc (.cells (rowC (wayR (costsL north cols east svs) W 0) (W + 1)) 3)) := (G.rf _).a _
  have BW0 := Blk.new w1 3 (rowC (wayR (costsL north cols east svs) W 0) (W + 1))
  have hcl : ∀ j, (costsL north cols east svs j).length = (allP cols east.length).length := fun j => by unfold costsL; rw [List.length_map]
  have hc16 : ∀ j, ∀ x ∈ costsL north cols east svs j, x ≤ 16 := fun j x hx => by
    unfold costsL at hx
    obtain ⟨p, _, rfl⟩ := List.mem_map.1 hx
    exact Nat.le_trans (cost_le _ _ _ _ _) HL16.out
  have hN100 := HN100.out
  generalize costsL north cols east svs = cs at *
  generalize hN : (allP cols east.length).length = N at *
  have HCL := Lib.hid hcl
  have HC16 := Lib.hid hc16
  have HWB := Lib.hid (wayR_le cs W 100 (fun j => by rw [HCL.out j]; exact hN100))
  have HCA := Lib.hid hCA
  clear hcl hc16 hN hCA
  go_loopw [6, 7] (fun v i wr => ∃ k gW : Nat, k ≤ lofts ∧ i = .int .i64 k ∧ v = .slice (some ⟨gW, 0, none⟩) (W + 1) (W + 1) ∧ w1.heap.size ≤ gW ∧ Blk wr gW 3 (rowC (wayR cs W k) (W + 1)) ∧ G w1 wr) (fun _ i _ => lofts - (intOf i).toNat)
  case atStart => exact ⟨0, w1.heap.size, Nat.zero_le _, rfl, rfl, Nat.le_refl _, BW0, gA⟩
  case round =>
    clear BW0 gA bM
    obtain ⟨k, gW, hk, rfl, rfl, hgW, BW, hGr⟩ := hrel
    obtain ⟨wo, rfl⟩ : ∃ wo, wo = wr := ⟨_, rfl⟩
    by_cases hlt : k < lofts
    · have hki : (k : Int) < lofts := by omega
      have b1 := b0.keep hGr
      have m5 := b1.cell 5
      have lM := b1.lt
      have x2 : IntKind.i64.wrap ((W : Int) + 1) = (W : Int) + 1 := IntWalk.i64_in _ (by omega)
      have hmk := HMK.out
      go_wp2
      clear hmk x2 m5 lM
      obtain ⟨gi, ci, cC, hgi, hcc⟩ := (HCA.out.keep hgC hGr) k hlt
      have hgC2 := Nat.lt_of_lt_of_le hgC hGr.size
      have HCC := Lib.hid hcc
      have hclk := HCL.out k
      have hwb : ∀ t, wayR cs W k t ≤ 100000000000000 := fun t => Nat.le_trans (HWB.out k t) (Nat.pow_le_pow_right (show 0 < 100 by omega) (show k ≤ 7 by omega))
      have hal := fun (n t : Nat) => accR_le (cs k) (wayR cs W k) t 100000000000000 hwb n
      have hsl := fun (x n t : Nat) => stepR_le ((cs k).take x) (wayR cs W k) n t 100000000000000 hwb
      have HAL := Lib.hid hal
      have HSL := Lib.hid hsl
      have HWB2 := Lib.hid hwb
      have hrd := fun (t : Nat) (ht : t ≤ W) => wayR_round cs W k t ht
      have HRD := Lib.hid hrd
      have hxc : ∀ x, x < N → (cs k).getD x 0 ≤ 16 := fun x hx => HC16.out k _ (by simp [show x < (cs k).length by omega])
      have HXC := Lib.hid hxc
      clear hcc hwb hal hsl hrd hxc
      have BN0 := Blk.new wo 3 (rowC (fun _ => 0) (W + 1))
      have gN0 : G wo (wo.alloc (.cells (rowC (fun _ => 0) (W + 1)) 3)) := (G.rf _).a _
      have e0 : (fun _ : Nat => 0) = accR (cs k) (wayR cs W k) 0 := by funext t; simp [accR]
      rw [e0] at BN0 gN0
      go_loopw [9] (fun i wn => ∃ n : Nat, n ≤ W + 1 ∧ i = .int .i64 n ∧ Blk wn wo.heap.size 3 (rowC (accR (cs k) (wayR cs W k) n) (W + 1)) ∧ G wo wn) (fun i _ => (W + 1) - (intOf i).toNat)
      case atStart => exact ⟨0, by omega, rfl, by rw [e0]; exact BN0, by rw [e0]; exact gN0⟩
      case round =>
        clear BN0 gN0 e0
        obtain ⟨n, hn, rfl, BN, hGn⟩ := hrel
        obtain ⟨wn, rfl⟩ : ∃ wn, wn = wr := ⟨_, rfl⟩
        have b2 := b1.keep hGn
        have m5 := b2.cell 5
        have lM := b2.lt
        by_cases hnW : n ≤ W
        · have hni : (n : Int) ≤ W := by omega
          go_wp2
          clear m5 lM
          have e1 : accR (cs k) (wayR cs W k) n = fun t => accR (cs k) (wayR cs W k) n t + stepR ((cs k).take 0) (wayR cs W k) n t := by funext t; simp [stepR]
          go_loopw [10] (fun i wx => ∃ x : Nat, x ≤ N ∧ i = .int .i64 x ∧ Blk wx wo.heap.size 3 (rowC (fun t => accR (cs k) (wayR cs W k) n t + stepR ((cs k).take x) (wayR cs W k) n t) (W + 1)) ∧ G wo wx) (fun i _ => N - (intOf i).toNat)
          case atStart => exact ⟨0, Nat.zero_le _, rfl, by rw [← e1]; exact BN, hGn⟩
          case round =>
            clear BN b2
            obtain ⟨x, hx, rfl, BX, hGx⟩ := hrel
            obtain ⟨wx, rfl⟩ : ∃ wx, wx = wr := ⟨_, rfl⟩
            have cCx := ((bcellB hGx).1 gC _ hgC2).trans cC
            have lCx := Nat.lt_of_lt_of_le hgC2 hGx.size
            by_cases hxN : x < N
            · have hxi : (x : Int) < N := by omega
              have hcx := ((bcellB hGx).1 gi _ hgi).trans (HCC.out x hxN)
              have hst := fun t => stepR_take (cs k) (wayR cs W k) n t x (by omega)
              have hc16 := HXC.out x hxN
              have hAB := HAL.out n
              have hSB := HSL.out x n
              have hWB := HWB2.out n
              have htl : ((cs k).take x).length ≤ 100 := by rw [List.length_take]; omega
              rw [hclk] at hAB
              generalize (cs k).getD x 0 = c at *
              have lgx := Nat.lt_of_lt_of_le hgi hGx.size
              have b3 := b1.keep hGx
              have x3 : IntKind.i64.wrap ((n : Int) + c) = (n : Int) + c := IntWalk.i64_in _ (by omega)
              have HST := Lib.hid hst
              clear hst
              go_wp2
              have q5 := b3.gw 5 rfl
              have qC := GW.cell cCx lCx
              have qc := GW.cell hcx lgx
              have lM := b3.lt
              by_cases hle : n + c ≤ W
              · have hleI : (n : Int) + c ≤ W := by omega
                refine wp_region_quiet_G (by kernel_rfl) (by kernel_rfl) ?_
                repeat (quiet_step (fail))
                refine wpQuiet_nil ?_
                intro _ hw'
                obtain ⟨y, rfl⟩ := hw'
                clear q5 qC qc
                have BY := BX.keep y.g
                have gy := hGx.t y.g
                have sC := ((bcellB y.g).1 gC _ lCx).trans cCx
                have sc := ((bcellB y.g).1 gi _ lgx).trans hcx
                have sN := (BY.cell (n + c)).trans (rowC_get _ (show n + c < W + 1 by omega))
                have sW := ((BW.keep gy).cell n).trans (rowC_get _ (show n < W + 1 by omega))
                have hab1 : N * 100000000000000 ≤ 100 * 100000000000000 := Nat.mul_le_mul_right _ hN100
                have hab2 : ((cs k).take x).length * 100000000000000 ≤ 100 * 100000000000000 := Nat.mul_le_mul_right _ htl
                have hab3 := hAB (n + c)
                have hab4 := hSB (n + c)
                have hab5 : n * (N * 100000000000000) ≤ 3 * (100 * 100000000000000) := Nat.mul_le_mul (by omega) hab1
                have hset := rowC_set (fun t => accR (cs k) (wayR cs W k) n t + stepR ((cs k).take x) (wayR cs W k) n t) (show n + c < W + 1 by omega) (accR (cs k) (wayR cs W k) n (n + c) + stepR ((cs k).take x) (wayR cs W k) n (n + c) + wayR cs W k n)
                have hrow : rowC (fun j => if j = n + c then accR (cs k) (wayR cs W k) n (n + c) + stepR ((cs k).take x) (wayR cs W k) n (n + c) + wayR cs W k n else accR (cs k) (wayR cs W k) n j + stepR ((cs k).take x) (wayR cs W k) n j) (W + 1) = rowC (fun t => accR (cs k) (wayR cs W k) n t + stepR ((cs k).take (x + 1)) (wayR cs W k) n t) (W + 1) := by
                  unfold rowC
                  congr 1
                  refine List.map_congr_left fun t _ => ?_
                  simp only [HST.out t]
                  by_cases e : t = n + c
                  · subst e; simp; omega
                  · rw [if_neg e, if_neg (by omega)]; simp
                rw [hrow] at hset
                have hav : accR (cs k) (wayR cs W k) n (n + c) + stepR ((cs k).take x) (wayR cs W k) n (n + c) ≤ 50000000000000000 := by omega
                have HSET := Lib.hid hset
                clear hset hrow
                generalize accR (cs k) (wayR cs W k) n (n + c) + stepR ((cs k).take x) (wayR cs W k) n (n + c) = av at *
                generalize wayR cs W k n = bv at *
                have x4 : ((n : Int) + c).toNat = n + c := by omega
                have x5 : IntKind.i64.wrap ((av : Int) + bv) = ((av + bv : Nat) : Int) := by rw [IntWalk.i64_in _ (by omega)]; omega
                have x6 : 0 ≤ (n : Int) + c := by omega
                have x7 : (n : Int) + c < (W : Int) + 1 := by omega
                have x8 : (n : Int) < (W : Int) + 1 := by omega
                have BYd := BY.keep (G.rf y.w).d
                have zd := BYd.frozen (n + c)
                have sNd := ((bcellB (G.rf y.w).d).1 _ _ BY.lt).trans sN
                have lNd := BYd.lt
                have e55 : IntKind.i64.wrap ((av : Int) + bv) = (av : Int) + bv := IntWalk.i64_in _ (by omega)
                clear x5
                go_wp2
                refine wp_region_Y (S := fun W' => (W'.cell? ⟨gC, k, none⟩ = some (.slice (some ⟨gi, 0, none⟩) N ci) ∧ W'.cell? ⟨gi, x, none⟩ = some (.int .i64 c)) ∧ (W'.cell? ⟨wo.heap.size, n + c, none⟩ = some (.int .i64 av) ∧ W'.cell? ⟨gW, n, none⟩ = some (.int .i64 bv))) 18 19 rfl (by kernel_rfl) ⟨⟨sC, sc⟩, sN, sW⟩ (fun hS => ?_)
                refine wpAnyY_take (i := 0) (v := ?_) rfl (by kernel_rfl) (by kernel_rfl) (by kernel_rfl) (by kernel_rfl) (fun _ _ _ h => h) (Or.inl ⟨by kernel_rfl, ?_⟩) hS ?_
                rotate_left
                · intro w' hSw; obtain ⟨⟨y0, y1⟩, y2, y3⟩ := hSw; go_simp; with_reducible rfl
                try simp only [Act.put, List.setIfInBounds_toArray, List.set_cons_zero, List.set_cons_succ]
                refine wpAnyY_take (i := 1) (v := ?_) rfl (by kernel_rfl) (by kernel_rfl) (by kernel_rfl) (by kernel_rfl) (fun _ _ _ h => h) (Or.inl ⟨by kernel_rfl, ?_⟩) hS ?_
                rotate_left
                · intro w' hSw; obtain ⟨⟨y0, y1⟩, y2, y3⟩ := hSw; go_simp; with_reducible rfl
                try simp only [Act.put, List.setIfInBounds_toArray, List.set_cons_zero, List.set_cons_succ]
                refine wpAnyY_take (i := 2) (v := ?_) rfl (by kernel_rfl) (by kernel_rfl) (by kernel_rfl) (by kernel_rfl) (fun _ _ _ h => h) (Or.inl ⟨by kernel_rfl, ?_⟩) hS ?_
                rotate_left
                · intro w' hSw; obtain ⟨⟨y0, y1⟩, y2, y3⟩ := hSw; go_simp; with_reducible rfl
                try simp only [Act.put, List.setIfInBounds_toArray, List.set_cons_zero, List.set_cons_succ]
                refine wpAnyY_take (i := 3) (v := ?_) rfl (by kernel_rfl) (by kernel_rfl) (by kernel_rfl) (by kernel_rfl) (fun _ _ _ h => h) (Or.inl ⟨by kernel_rfl, ?_⟩) hS ?_
                rotate_left
                · intro w' hSw; obtain ⟨⟨y0, y1⟩, y2, y3⟩ := hSw; go_simp; with_reducible rfl
                try simp only [Act.put, List.setIfInBounds_toArray, List.set_cons_zero, List.set_cons_succ]
                refine wpAnyY_take (i := 4) (v := ?_) rfl (by kernel_rfl) (by kernel_rfl) (by kernel_rfl) (by kernel_rfl) (fun _ _ _ h => h) (Or.inl ⟨by kernel_rfl, ?_⟩) hS ?_
                rotate_left
                · intro w' hSw; obtain ⟨⟨y0, y1⟩, y2, y3⟩ := hSw; go_simp; with_reducible rfl
                try simp only [Act.put, List.setIfInBounds_toArray, List.set_cons_zero, List.set_cons_succ]
                refine wpAnyY_take (i := 5) (v := ?_) rfl (by kernel_rfl) (by kernel_rfl) (by kernel_rfl) (by kernel_rfl) (fun _ _ _ h => h) (Or.inl ⟨by kernel_rfl, ?_⟩) hS ?_
                rotate_left
                · intro w' hSw; obtain ⟨⟨y0, y1⟩, y2, y3⟩ := hSw; go_simp; with_reducible rfl
                try simp only [Act.put, List.setIfInBounds_toArray, List.set_cons_zero, List.set_cons_succ]
                refine wpAnyY_take (i := 6) (v := ?_) rfl (by kernel_rfl) (by kernel_rfl) (by kernel_rfl) (by kernel_rfl) (fun _ _ _ h => h) (Or.inl ⟨by kernel_rfl, ?_⟩) hS ?_
                rotate_left
                · intro w' hSw; obtain ⟨⟨y0, y1⟩, y2, y3⟩ := hSw; go_simp; with_reducible rfl
                try simp only [Act.put, List.setIfInBounds_toArray, List.set_cons_zero, List.set_cons_succ]
                refine wpAnyY_take (i := 7) (v := ?_) rfl (by kernel_rfl) (by kernel_rfl) (by kernel_rfl) (by kernel_rfl) (fun _ _ _ h => h) (Or.inl ⟨by kernel_rfl, ?_⟩) hS ?_
                rotate_left
                · intro w' hSw; obtain ⟨⟨y0, y1⟩, y2, y3⟩ := hSw; go_simp; with_reducible rfl
                try simp only [Act.put, List.setIfInBounds_toArray, List.set_cons_zero, List.set_cons_succ]
                refine wpAnyY_take (i := 8) (v := ?_) rfl (by kernel_rfl) (by kernel_rfl) (by kernel_rfl) (by kernel_rfl) (fun _ _ _ h => h) (Or.inl ⟨by kernel_rfl, ?_⟩) hS ?_
                rotate_left
                · intro w' hSw; obtain ⟨⟨y0, y1⟩, y2, y3⟩ := hSw; go_simp; with_reducible rfl
                try simp only [Act.put, List.setIfInBounds_toArray, List.set_cons_zero, List.set_cons_succ]
                refine wpAnyY_take (i := 9) (v := ?_) rfl (by kernel_rfl) (by kernel_rfl) (by kernel_rfl) (by kernel_rfl) (fun _ _ _ h => h) (Or.inl ⟨by kernel_rfl, ?_⟩) hS ?_
                rotate_left
                · intro w' hSw; obtain ⟨⟨y0, y1⟩, y2, y3⟩ := hSw; go_simp; with_reducible rfl
                try simp only [Act.put, List.setIfInBounds_toArray, List.set_cons_zero, List.set_cons_succ]
                refine wpAnyY_take (i := 10) (v := ?_) rfl (by kernel_rfl) (by kernel_rfl) (by kernel_rfl) (by kernel_rfl) (fun _ _ _ h => h) (Or.inl ⟨by kernel_rfl, ?_⟩) hS ?_
                rotate_left
                · intro w' hSw; obtain ⟨⟨y0, y1⟩, y2, y3⟩ := hSw; go_simp; with_reducible rfl
                try simp only [Act.put, List.setIfInBounds_toArray, List.set_cons_zero, List.set_cons_succ]
                refine wpAnyY_take (i := 11) (v := ?_) rfl (by kernel_rfl) (by kernel_rfl) (by kernel_rfl) (by kernel_rfl) (fun _ _ _ h => h) (Or.inl ⟨by kernel_rfl, ?_⟩) hS ?_
                rotate_left
                · intro w' hSw; obtain ⟨⟨y0, y1⟩, y2, y3⟩ := hSw; go_simp; with_reducible rfl
                try simp only [Act.put, List.setIfInBounds_toArray, List.set_cons_zero, List.set_cons_succ]
                refine wpAnyY_take (i := 12) (v := ?_) rfl (by kernel_rfl) (by kernel_rfl) (by kernel_rfl) (by kernel_rfl) (fun _ _ _ h => h) (Or.inl ⟨by kernel_rfl, ?_⟩) hS ?_
                rotate_left
                · intro w' hSw; obtain ⟨⟨y0, y1⟩, y2, y3⟩ := hSw; go_simp; with_reducible rfl
                try simp only [Act.put, List.setIfInBounds_toArray, List.set_cons_zero, List.set_cons_succ]
                refine wpAnyY_take (i := 13) (v := ?_) rfl (by kernel_rfl) (by kernel_rfl) (by kernel_rfl) (by kernel_rfl) (fun _ _ _ h => h) (Or.inl ⟨by kernel_rfl, ?_⟩) hS ?_
                rotate_left
                · intro w' hSw; obtain ⟨⟨y0, y1⟩, y2, y3⟩ := hSw; go_simp; with_reducible rfl
                try simp only [Act.put, List.setIfInBounds_toArray, List.set_cons_zero, List.set_cons_succ]
                refine wpAnyY_take (i := 14) (v := ?_) rfl (by kernel_rfl) (by kernel_rfl) (by kernel_rfl) (by kernel_rfl) (fun _ _ _ h => h) (Or.inl ⟨by kernel_rfl, ?_⟩) hS ?_
                rotate_left
                · intro w' hSw; obtain ⟨⟨y0, y1⟩, y2, y3⟩ := hSw; go_simp; with_reducible rfl
                try simp only [Act.put, List.setIfInBounds_toArray, List.set_cons_zero, List.set_cons_succ]
                refine wpAnyY_take (i := 15) (v := ?_) rfl (by kernel_rfl) (by kernel_rfl) (by kernel_rfl) (by kernel_rfl) (fun _ _ _ h => h) (Or.inl ⟨by kernel_rfl, ?_⟩) hS ?_
                rotate_left
                · intro w' hSw; obtain ⟨⟨y0, y1⟩, y2, y3⟩ := hSw; go_simp; with_reducible rfl
                try simp only [Act.put, List.setIfInBounds_toArray, List.set_cons_zero, List.set_cons_succ]
                refine wpAnyY_take (i := 16) (v := ?_) rfl (by kernel_rfl) (by kernel_rfl) (by kernel_rfl) (by kernel_rfl) (fun _ _ _ h => h) (Or.inl ⟨by kernel_rfl, ?_⟩) hS ?_
                rotate_left
                · intro w' hSw; obtain ⟨⟨y0, y1⟩, y2, y3⟩ := hSw; go_simp; with_reducible rfl
                try simp only [Act.put, List.setIfInBounds_toArray, List.set_cons_zero, List.set_cons_succ]
                refine wpAnyY_take (i := 17) (v := ?_) rfl (by kernel_rfl) (by kernel_rfl) (by kernel_rfl) (by kernel_rfl) (fun _ _ _ h => h) (Or.inl ⟨by kernel_rfl, ?_⟩) hS ?_
                rotate_left
                · intro w' hSw; obtain ⟨⟨y0, y1⟩, y2, y3⟩ := hSw; go_simp; with_reducible rfl
                try simp only [Act.put, List.setIfInBounds_toArray, List.set_cons_zero, List.set_cons_succ]
                refine wpAnyY_oneW (i := 18) (by kernel_rfl) rfl (by kernel_rfl) (by kernel_rfl) (fun K18 hK18 => ?_)
                go_simp
                refine hK18.out _ _ ?_
                try simp only [Act.put, List.setIfInBounds_toArray, List.set_cons_zero, List.set_cons_succ]
                refine wpAnyY_done (by kernel_rfl) ?_ _
                have BZ := BYd.set_ (n + c) (.int .i64 ((av + bv : Nat) : Int))
                rw [HSET.out] at BZ
                have gz : G wo ((y.w.drew).setCell ⟨wo.heap.size, n + c, none⟩ (.int .i64 ((av + bv : Nat) : Int))) := (gy.t (G.rf y.w).d).s (Nat.le_refl _) _
                clear hS hK18 sC sc sN sW zd sNd lNd
                go_wp2
                go_roundw
                case rel => exact ⟨x + 1, by omega, by go_num, BZ, gz⟩
                case measure => simp [intOf]; omega
              · have hleI : ¬ (n : Int) + c ≤ W := by omega
                refine wp_region_quiet_G (by kernel_rfl) (by kernel_rfl) ?_
                repeat (quiet_step (fail))
                refine wpQuiet_nil ?_
                intro _ hw'
                obtain ⟨y, rfl⟩ := hw'
                clear q5 qC qc
                have hrow : rowC (fun t => accR (cs k) (wayR cs W k) n t + stepR ((cs k).take x) (wayR cs W k) n t) (W + 1) = rowC (fun t => accR (cs k) (wayR cs W k) n t + stepR ((cs k).take (x + 1)) (wayR cs W k) n t) (W + 1) := by
                  unfold rowC
                  congr 1
                  refine List.map_congr_left fun t ht => ?_
                  have ht2 : t < W + 1 := by simpa using ht
                  simp only [HST.out t]
                  rw [if_neg (by omega)]
                  simp
                have HROW := Lib.hid hrow
                clear hrow
                go_wp2
                go_roundw
                case rel => exact ⟨x + 1, by omega, by go_num, by rw [← HROW.out]; exact BX.keep y.g, hGx.t y.g⟩
                case measure => simp [intOf]; omega
            · have hxi : ¬ (x : Int) < N := by omega
              have hT : (cs k).take x = cs k := List.take_of_length_le (by omega)
              have e2 : (fun t => accR (cs k) (wayR cs W k) n t + stepR ((cs k).take x) (wayR cs W k) n t) = accR (cs k) (wayR cs W k) (n + 1) := by funext t; rw [hT, accR_succ]
              rw [e2] at BX
              clear e2 hT
              go_wp2
              go_roundw
              case rel => exact ⟨n + 1, by omega, by go_num, BX, hGx⟩
              case measure => simp [intOf]; omega
        · have hni : ¬ (n : Int) ≤ W := by omega
          obtain rfl : n = W + 1 := by omega
          go_wp2
          go_roundw
          case rel =>
            refine ⟨k + 1, wo.heap.size, by omega, by go_num, rfl, hGr.size, ?_, hGr.t hGn⟩
            have e3 : rowC (accR (cs k) (wayR cs W k) (W + 1)) (W + 1) = rowC (wayR cs W (k + 1)) (W + 1) := by
              unfold rowC
              congr 1
              refine List.map_congr_left fun t ht => ?_
              rw [HRD.out t (by simp at ht; omega)]
            rw [← e3]
            exact BN
          case measure => simp [intOf]; omega
    · have hki : ¬ (k : Int) < lofts := by omega
      obtain rfl : k = lofts := by omega
      have hwb : ∀ t, wayR cs W k t ≤ 10000000000000000 := fun t => Nat.le_trans (HWB.out k t) (Nat.pow_le_pow_right (show 0 < 100 by omega) (show k ≤ 8 by omega))
      have hsb : ∀ n, ((List.range n).map fun t => wayR cs W k t).sum ≤ n * 10000000000000000 := by
        intro n
        induction n with
        | zero => simp
        | succ n ih => rw [sumR_succ, Nat.add_mul]; have := hwb n; omega
      have HSB := Lib.hid hsb
      have HWB2 := Lib.hid hwb
      have gwo := g0.t hGr
      have b4 := b0.keep hGr
      clear hwb hsb
      go_wp2
      go_loopw [11, 12] (fun sv i wr => ∃ n : Nat, n ≤ W + 1 ∧ i = .int .i64 n ∧ sv = .int .i64 (((List.range n).map fun t => wayR cs W k t).sum : Nat) ∧ G wo wr) (fun _ i _ => (W + 1) - (intOf i).toNat)
      case atStart => exact ⟨0, by omega, rfl, by simp, G.rf _⟩
      case round =>
        obtain ⟨n, hn, rfl, rfl, hGz⟩ := hrel
        obtain ⟨wz, rfl⟩ : ∃ wz, wz = wr := ⟨_, rfl⟩
        have b5 := b4.keep hGz
        have m5 := b5.cell 5
        have lM := b5.lt
        by_cases hnW : n ≤ W
        · have hni : (n : Int) ≤ W := by omega
          have BZ := BW.keep hGz
          have sW := (BZ.cell n).trans (rowC_get _ (show n < W + 1 by omega))
          have lZ := BZ.lt
          have x8 : (n : Int) < (W : Int) + 1 := by omega
          have hs := sumR_succ (fun t => wayR cs W k t) n
          have h1 := HSB.out n
          have h2 := HWB2.out n
          generalize ((List.range n).map fun t => wayR cs W k t).sum = av at *
          generalize wayR cs W k n = bv at *
          have x5 : IntKind.i64.wrap ((av : Int) + bv) = (av : Int) + bv := IntWalk.i64_in _ (by omega)
          have HS := Lib.hid hs
          clear hs
          go_wp2
          go_roundw
          case rel => exact ⟨n + 1, by omega, by go_num, by rw [HS.out]; first | rfl | go_num, hGz⟩
          case measure => simp [intOf]; omega
        · have hni : ¬ (n : Int) ≤ W := by omega
          obtain rfl : n = W + 1 := by omega
          generalize ((List.range (W + 1)).map fun t => wayR cs W k t).sum = S at *
          by_cases hS : S ≤ 1000000
          · have hSI : ¬ (S : Int) > 1000000 := by omega
            have hSJ : ¬ 1000000 < (S : Int) := by omega
            have hv := HMV.out
            rw [if_pos hS, if_pos hS] at hv
            have HV := Lib.hid hv
            clear hv
            go_wp2
            go_ret2
            exact ⟨by rw [HV.out]; rfl, gwo.t hGz⟩
          · have hSI : (S : Int) > 1000000 := by omega
            have hSJ : 1000000 < (S : Int) := by omega
            have hv := HMV.out
            rw [if_neg hS, if_neg hS] at hv
            have HV := Lib.hid hv
            clear hv
            go_wp2
            go_ret2
            exact ⟨by rw [HV.out]; rfl, gwo.t hGz⟩
end
theorem rMany_any (north cols lofts wrong : Int) (east : List Int) (svs : List Sv) (ea sa : Option Addr) (ec sc : Nat) (w : World) (he : IntsAt w ea east) (hs : SvsAt w sa svs) (hl : east.length ≤ 9223372036854775807) (hl2 : svs.length ≤ 9223372036854775807) :
    Calls Try.prog 37 #[.agg #[.int .i64 north, .int .i64 cols, .slice ea east.length ec, .int .i64 lofts, .slice sa svs.length sc, .int .i64 wrong]] w fun e w' => e = .returned (mnyV north cols lofts wrong east svs) ∧ G w w' := by
  by_cases hk : checkE north cols east lofts svs wrong = 0
  · have hvb := vm_bounds (checkE_ok hk)
    obtain ⟨cn, rfl⟩ := Int.eq_ofNat_of_zero_le (show 0 ≤ cols by omega)
    obtain ⟨ln, rfl⟩ := Int.eq_ofNat_of_zero_le (show 0 ≤ lofts by omega)
    obtain ⟨wn, rfl⟩ := Int.eq_ofNat_of_zero_le (show 0 ≤ wrong by omega)
    exact rMany_ok north cn ln wn east svs ea sa ec sc w he hs hk
  · have hC := Lib.hid (fun (W : World) (hW : G w W) => rCheck_any north cols lofts wrong east svs ea sa ec sc W (he.below hW) (hs.below hW) hl hl2)
    have hV : mnyV north cols lofts wrong east svs = .tuple #[.int .i64 0, .int .i64 (checkE north cols east lofts svs wrong)] := by unfold mnyV; rw [if_neg hk]
    rw [hV]
    clear hV
    have g0 : G w (w.alloc (.cells #[.int .i64 north, .int .i64 cols, .slice ea east.length ec, .int .i64 lofts, .slice sa svs.length sc, .int .i64 wrong] 25)) := (G.rf _).a _
    generalize checkE north cols east lofts svs wrong = E at *
    have hE : (E == 0) = false := by simp [hk]
    go_enter Try.func37, Try.ntmps37
    go_wp2_with (go_at_call 14; refine (hC.out _ g0).mono ?_; rintro e w1 ⟨rfl, hG1⟩)
    go_ret2
    exact ⟨rfl, g0.t hG1⟩
end Go.Proofs.Ytpjfdfddcnocpaa
