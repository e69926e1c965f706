import Derived.Test.YtcekdljjmfkacaaGreatNl
set_option linter.unusedSimpArgs false
set_option linter.unusedVariables false
namespace Go.Proofs.YtcekdljjmfkacaaGreat
open Go.RowKit Go.Shelf
attribute [local go_sem] Oper.semAt_some wide_fn wide_dep wideR_fn wideR_dep
/-- the weather at a stop is surely outside in all hours -/
def outB (S : Int → Int → Int → Option Sk) (lim : Sk) (st : Nat → Nat → Nat) (mi H k : Nat) : Bool := (hrsL (mi + st k 2) (mi + st k 3) H).all fun t => skOut ((S (st k 0) (st k 1) t).getD skAny) lim
/-- what safe answers -/
def safeN (S : Int → Int → Int → Option Sk) (lim : Sk) (st : Nat → Nat → Nat) (mi H ns : Nat) : Int :=
  if (blkR S lim st mi H ns).isSome = false then 1 else if anyU (outB S lim st mi H) ns = true then 2 else 3
theorem isOutside_any (m cnt F lo hi H px py : Nat) (lw lg lh : Int) (FC : Array Value) (S : Int → Int → Int → Option Sk) (w : World) (hB : Blk w F 104 FC) (h12 : FC[12]? = some (.int .i64 lw)) (h13 : FC[13]? = some (.int .i64 lg)) (h14 : FC[14]? = some (.int .i64 lh)) (h15 : FC[15]? = some (.int .i64 (H : Nat))) (h18 : FC[18]? = some (.map (some m))) (hW : WMap w m cnt S)
    (hpx : px ≤ 1000) (hpy : py ≤ 1000) (hlo : lo ≤ 100000000000) (hhi : hi ≤ 100000000000) :
    Calls Tryz.prog 85 #[.pointer (some ⟨F, 0, none⟩), .agg #[.int .i64 (px : Nat), .int .i64 (py : Nat)], .agg #[.int .i64 (lo : Nat), .int .i64 (hi : Nat)]] w fun e w' =>
      e = .returned (.bool ((hrsL lo hi H).all fun t => skOut ((S px py t).getD skAny) (skLim lw lg lh))) ∧ G w w' :=
  callsIn_wide.1 (isOutside_in m cnt F lo hi H px py lw lg lh FC S w 4 (Nat.le_refl _) hB h12 h13 h14 h15 h18 hW hpx hpy hlo hhi)
section
variable (m cnt F H home ns sc mi : Nat) (lw lg lh : Int) (FC : Array Value) (S : Int → Int → Int → Option Sk) (st : Nat → Nat → Nat) (gw wo nw wc : Nat) (sa : Option Addr) (w : World)
theorem block_any (hB : Blk w F 104 FC) (h12 : FC[12]? = some (.int .i64 lw)) (h13 : FC[13]? = some (.int .i64 lg)) (h14 : FC[14]? = some (.int .i64 lh)) (h15 : FC[15]? = some (.int .i64 (H : Nat))) (h17 : FC[17]? = some (.slice (some ⟨gw, wo, none⟩) nw wc)) (h18 : FC[18]? = some (.map (some m))) (hW : WMap w m cnt S)
    (hh : home < nw) (hgw : gw < w.heap.size) (hway : w.cell? ⟨gw, wo + home, none⟩ = some (.slice sa ns sc)) (hst : RowAt w sa ns 4 (fun i r => (st i r : Nat))) (hs1 : ∀ i, st i 0 ≤ 1000 ∧ st i 1 ≤ 1000 ∧ st i 2 ≤ 90000000000 ∧ st i 3 ≤ 90000000000) (hns : ns ≤ 1000) (hmi : mi ≤ 1000000) :
    Calls Tryz.prog 58 #[.pointer (some ⟨F, 0, none⟩), .int .i64 (home : Nat), .int .i64 (mi : Nat)] w fun e w' =>
      e = .returned (.tuple #[.agg (blkV home (blkR S (skLim lw lg lh) st mi H ns)), .bool (blkR S (skLim lw lg lh) st mi H ns).isSome]) ∧ G w w' :=
  callsIn_wide.1 (block_in m cnt F H home ns sc mi lw lg lh FC S st gw wo nw wc sa w 4 (Nat.le_refl _) hB h12 h13 h14 h15 h17 h18 hW hh hgw hway hst hs1 hns hmi)
end
section
variable (m cnt F H home ns sc mi : Nat) (lw lg lh : Int) (FC : Array Value) (S : Int → Int → Int → Option Sk) (st : Nat → Nat → Nat) (gw wo nw wc : Nat) (sa : Option Addr) (w : World)
set_option maxRecDepth 100000 in
set_option maxHeartbeats 8000000 in
theorem safe_any (hB : Blk w F 104 FC) (h12 : FC[12]? = some (.int .i64 lw)) (h13 : FC[13]? = some (.int .i64 lg)) (h14 : FC[14]? = some (.int .i64 lh)) (h15 : FC[15]? = some (.int .i64 (H : Nat))) (h17 : FC[17]? = some (.slice (some ⟨gw, wo, none⟩) nw wc)) (h18 : FC[18]? = some (.map (some m))) (hW : WMap w m cnt S)
    (hh : home < nw) (hgw : gw < w.heap.size) (hway : w.cell? ⟨gw, wo + home, none⟩ = some (.slice sa ns sc)) (hst : RowAt w sa ns 4 (fun i r => (st i r : Nat))) (hs1 : ∀ i, st i 0 ≤ 1000 ∧ st i 1 ≤ 1000 ∧ st i 2 ≤ 90000000000 ∧ st i 3 ≤ 90000000000) (hns : ns ≤ 1000) (hmi : mi ≤ 1000000) :
    Calls Tryz.prog 56 #[.pointer (some ⟨F, 0, none⟩), .int .i64 (home : Nat), .int .i64 (mi : Nat)] w fun e w' =>
      e = .returned (.int .i64 (safeN S (skLim lw lg lh) st mi H ns)) ∧ G w w' := by
  have HB := Lib.hid (fun (W : World) (hG : G w W) => block_any m cnt F H home ns sc mi lw lg lh FC S st gw wo nw wc sa W (hB.keep hG) h12 h13 h14 h15 h17 h18 (hW.keep hG) hh (Nat.lt_of_lt_of_le hgw hG.size) (((bcellB hG).1 gw _ hgw).trans hway) (hst.below hG) hs1 hns hmi)
  have HO := Lib.hid (fun (W : World) (hG : G w W) (px py la hb : Nat) (h1 : px ≤ 1000) (h2 : py ≤ 1000) (h3 : la ≤ 100000000000) (h4 : hb ≤ 100000000000) => isOutside_any m cnt F la hb H px py lw lg lh FC S W (hB.keep hG) h12 h13 h14 h15 h18 (hW.keep hG) h1 h2 h3 h4)
  obtain ⟨R, hR⟩ : ∃ R, R = blkR S (skLim lw lg lh) st mi H ns := ⟨_, rfl⟩
  have HSF : Hid (safeN S (skLim lw lg lh) st mi H ns = if R.isSome = false then 1 else if anyU (outB S (skLim lw lg lh) st mi H) ns = true then 2 else 3) := by rw [hR]; rfl
  rw [← hR] at HB
  clear hR
  have hB17 := fun W (hG : G w W) => ((hB.keep hG).cell 17).trans h17
  have hWay := fun W (hG : G w W) => ((bcellB hG).1 gw _ hgw).trans hway
  have HS1 := Lib.hid hs1
  have lF := hB.lt
  clear hB h12 h13 h14 h15 h17 h18 hW hway hs1
  have hhi : (home : Int) < nw := by omega
  go_enter Tryz.func56, Tryz.ntmps56
  obtain ⟨b0, b1, b2, hbv⟩ : ∃ b0 b1 b2 : Int, blkV home R = #[.int .i64 b0, .int .i64 b1, .int .i64 b2] := by cases R <;> exact ⟨_, _, _, rfl⟩
  rw [hbv] at HB
  clear hbv
  cases hsm : R.isSome
  · have hs1 : safeN S (skLim lw lg lh) st mi H ns = 1 := by rw [HSF.out, hsm]; rfl
    have HSV := Lib.hid hs1
    rw [hsm] at HB
    clear hsm hs1
    go_wp2_with (go_at_call 58; refine (HB.out _ (G.rf _)).mono ?_; rintro e w1 ⟨rfl, hG1⟩)
    go_ret
    exact ⟨by rw [HSV.out]; rfl, hG1.a _⟩
  · have hs1 : safeN S (skLim lw lg lh) st mi H ns = if anyU (outB S (skLim lw lg lh) st mi H) ns = true then 2 else 3 := by rw [HSF.out, hsm]; rfl
    have HSV := Lib.hid hs1
    rw [hsm] at HB
    clear hsm hs1 HSF
    go_wp2_with (go_at_call 58; refine (HB.out _ (G.rf _)).mono ?_; rintro e w1 ⟨rfl, hG1⟩; have e17 := hB17 _ hG1; have ew := hWay _ hG1; have lF1 := Nat.lt_of_lt_of_le lF hG1.size; have lg1 := Nat.lt_of_lt_of_le hgw hG1.size)
    have hGA : G w (w1.alloc (.cells #[.int .i64 b0, .int .i64 b1, .int .i64 b2] 67)) := hG1.a _
    clear e17 ew lF1 lg1
    generalize w1.alloc (.cells #[.int .i64 b0, .int .i64 b1, .int .i64 b2] 67) = w2 at *
    clear hG1 HB
    go_loopw [28] (fun i wr => ∃ k : Nat, k ≤ ns ∧ i = .int .i64 k ∧ Hid (∀ j, j < k → outB S (skLim lw lg lh) st mi H j = false) ∧ G w wr) (fun i _ => ns - (intOf i).toNat)
    case atStart => exact ⟨0, Nat.zero_le _, rfl, fun j hj => absurd hj (Nat.not_lt_zero _), hGA⟩
    case round =>
      obtain ⟨k, hk, rfl, hno, hG⟩ := hrel
      by_cases hlt : k < ns
      · have hki : (k : Int) < ns := by omega
        rcases hst with h | ⟨gs, so, rfl, hgs, hcell⟩
        · omega
        have lgs := Nat.lt_of_lt_of_le hgs hG.size
        have hcl := fun r hr => ((bcellB hG).1 gs _ hgs).trans (hcell k hlt r hr)
        have q0 := hcl 0 (by omega)
        rw [Nat.add_zero] at q0
        have q1 := hcl 1 (by omega)
        have q2 := hcl 2 (by omega)
        have q3 := hcl 3 (by omega)
        have hs := HS1.out k
        obtain ⟨ob, hob⟩ : ∃ ob, ob = outB S (skLim lw lg lh) st mi H k := ⟨_, rfl⟩
        have hoe : ob = (hrsL (mi + st k 2) (mi + st k 3) H).all fun t => skOut ((S (st k 0) (st k 1) t).getD skAny) (skLim lw lg lh) := hob
        have HOB := Lib.hid hob
        clear hcl hcell hob hB17 hWay
        obtain ⟨px, hpx⟩ : ∃ px, px = st k 0 := ⟨_, rfl⟩
        obtain ⟨py, hpy⟩ : ∃ py, py = st k 1 := ⟨_, rfl⟩
        obtain ⟨lo, hlo⟩ : ∃ lo, lo = st k 2 := ⟨_, rfl⟩
        obtain ⟨hi, hhi'⟩ : ∃ hi, hi = st k 3 := ⟨_, rfl⟩
        dsimp only at q0 q1 q2 q3
        rw [← hpx] at q0 hs hoe
        rw [← hpy] at q1 hs hoe
        rw [← hlo] at q2 hs hoe
        rw [← hhi'] at q3 hs hoe
        clear hpx hpy hlo hhi'
        obtain ⟨s1, s2, s3, s4⟩ := hs
        obtain ⟨la, hla⟩ : ∃ la, la = mi + lo := ⟨_, rfl⟩
        obtain ⟨hb, hhb⟩ : ∃ hb, hb = mi + hi := ⟨_, rfl⟩
        rw [← hla, ← hhb] at hoe
        have hla9 : la ≤ 100000000000 := by omega
        have hhb9 : hb ≤ 100000000000 := by omega
        have HPs : Hid (∀ W, Calls Tryz.prog 45 #[.agg #[.int .i64 (px : Nat), .int .i64 (py : Nat), .int .i64 (lo : Nat), .int .i64 (hi : Nat)], .int .i64 (mi : Nat)] W fun e w' => e = .returned (.agg #[.int .i64 (la : Nat), .int .i64 (hb : Nat)]) ∧ G W w') := fun W => (passed_any px py lo hi mi W (by omega) (by omega) (by omega)).mono fun e w' h => by
          rw [hla, hhb]; simpa using h
        have HOk := Lib.hid (fun (W : World) (hG : G w W) => HO.out W hG px py la hb s1 s2 hla9 hhb9)
        rw [← hoe] at HOk
        clear HS1 hla hhb hoe HO
        have g9 : G wr (wr.alloc (.cells #[.int .i64 (px : Nat), .int .i64 (py : Nat), .int .i64 (lo : Nat), .int .i64 (hi : Nat)] 84)) := (G.rf _).a _
        have b9 : Blk (wr.alloc (.cells #[.int .i64 (px : Nat), .int .i64 (py : Nat), .int .i64 (lo : Nat), .int .i64 (hi : Nat)] 84)) wr.heap.size 84 #[.int .i64 (px : Nat), .int .i64 (py : Nat), .int .i64 (lo : Nat), .int .i64 (hi : Nat)] := Blk.new wr 84 _
        go_wp2
        have gW := hG.t g9
        clear g9
        generalize wr.alloc (.cells #[.int .i64 (px : Nat), .int .i64 (py : Nat), .int .i64 (lo : Nat), .int .i64 (hi : Nat)] 84) = w3 at *
        obtain ⟨n10, hn10⟩ : ∃ n10, n10 = wr.heap.size := ⟨_, rfl⟩
        rw [← hn10] at b9 ⊢
        clear hn10 q0 q1 q2 q3
        have hSk : ∀ W', G w3 W' → (Blk W' n10 84 #[.int .i64 (px : Nat), .int .i64 (py : Nat), .int .i64 (lo : Nat), .int .i64 (hi : Nat)]) := fun W' h => b9.keep h
        refine wp_region_Y (S := fun W' => Blk W' n10 84 #[.int .i64 (px : Nat), .int .i64 (py : Nat), .int .i64 (lo : Nat), .int .i64 (hi : Nat)]) 6 7 rfl (by kernel_rfl) (hSk _ (G.rf _).d) (fun hS => ?_)
        refine wpAnyY_take (i := 0) (v := ?_) rfl (by kernel_rfl) (by kernel_rfl) (by kernel_rfl) (by kernel_rfl) (fun _ _ _ h => h) (Or.inl ⟨by kernel_rfl, ?_⟩) hS ?_
        rotate_left
        · intro w' hSw; go_simp; with_reducible rfl
        try simp only [Act.put, List.getElem_toArray, List.getElem_cons_zero, List.getElem_cons_succ, List.setIfInBounds_toArray, List.set_cons_zero, List.set_cons_succ]
        refine wpAnyY_take (i := 1) (v := ?_) rfl (by kernel_rfl) (by kernel_rfl) (by kernel_rfl) (by kernel_rfl) (fun _ _ _ h => h) (Or.inl ⟨by kernel_rfl, ?_⟩) hS ?_
        rotate_left
        · intro w' hSw; go_simp; with_reducible rfl
        try simp only [Act.put, List.getElem_toArray, List.getElem_cons_zero, List.getElem_cons_succ, List.setIfInBounds_toArray, List.set_cons_zero, List.set_cons_succ]
        refine wpAnyY_take (i := 2) (v := ?_) rfl (by kernel_rfl) (by kernel_rfl) (by kernel_rfl) (by kernel_rfl) (fun _ _ _ h => h) (Or.inl ⟨by kernel_rfl, ?_⟩) hS ?_
        rotate_left
        · intro w' hSw; have e0 := hSw.cell 0; have e1 := hSw.cell 1; go_simp; with_reducible rfl
        try simp only [Act.put, List.getElem_toArray, List.getElem_cons_zero, List.getElem_cons_succ, List.setIfInBounds_toArray, List.set_cons_zero, List.set_cons_succ]
        refine wpAnyY_take (i := 3) (v := ?_) rfl (by kernel_rfl) (by kernel_rfl) (by kernel_rfl) (by kernel_rfl) (fun _ _ _ h => h) (Or.inl ⟨by kernel_rfl, ?_⟩) hS ?_
        rotate_left
        · intro w' hSw; have e0 := hSw.cell 0; have e1 := hSw.cell 1; have e2 := hSw.cell 2; have e3 := hSw.cell 3; go_simp; with_reducible rfl
        try simp only [Act.put, List.getElem_toArray, List.getElem_cons_zero, List.getElem_cons_succ, List.setIfInBounds_toArray, List.set_cons_zero, List.set_cons_succ]
        refine wpAnyY_take (i := 4) (v := ?_) rfl (by kernel_rfl) (by kernel_rfl) (by kernel_rfl) (by kernel_rfl) (fun _ _ _ h => h) (Or.inl ⟨by kernel_rfl, ?_⟩) hS ?_
        rotate_left
        · intro w' hSw; go_simp; with_reducible rfl
        try simp only [Act.put, List.getElem_toArray, List.getElem_cons_zero, List.getElem_cons_succ, List.setIfInBounds_toArray, List.set_cons_zero, List.set_cons_succ]
        have gd := (G.rf w3).d
        refine wpAnyY_oneSW (i := 5) (by kernel_rfl) rfl (by kernel_rfl) (fun K4 hK4 => ?_)
        go_simp
        refine (HPs.out _).mono ?_
        rintro e w7 ⟨rfl, hG7⟩
        replace gd := gd.t hG7
        refine hK4.out _ _ (hSk _ gd) (fun hS => ?_)
        try simp only [Act.put, List.getElem_toArray, List.getElem_cons_zero, List.getElem_cons_succ, List.setIfInBounds_toArray, List.set_cons_zero, List.set_cons_succ]
        refine wpAnyY_oneW (i := 6) (by kernel_rfl) rfl (by kernel_rfl) (by kernel_rfl) (fun K7 hK7 => ?_)
        go_simp
        refine (HOk.out _ (gW.t gd)).mono ?_
        rintro e w8 ⟨rfl, hG8⟩
        replace gd := gd.t hG8
        refine hK7.out _ _ ?_
        try simp only [Act.put, List.getElem_toArray, List.getElem_cons_zero, List.getElem_cons_succ, List.setIfInBounds_toArray, List.set_cons_zero, List.set_cons_succ]
        refine wpAnyY_done (by kernel_rfl) ?_ _
        have hGz := gW.t gd
        clear hS hSk hK4 hK7 HOk hG7 hG8 HPs
        cases ob
        · have HOF := Lib.hid HOB.out.symm
          go_wp2
          go_roundw
          case rel => exact ⟨k + 1, by omega, by go_num, fun j hj => by
            rcases Nat.lt_or_ge j k with h | h
            · exact hno.out j h
            · obtain rfl : j = k := by omega
              exact HOF.out, hGz⟩
          case measure => simp [intOf]; omega
        · have hyes := anyU_yes hlt HOB.out.symm
          have HY := Lib.hid hyes
          clear hyes
          go_wp2
          go_ret
          exact ⟨by rw [HSV.out, if_pos HY.out]; rfl, hGz⟩
      · obtain rfl : ns = k := by omega
        have hno' := anyU_no hno.out
        have HY := Lib.hid hno'
        clear hno'
        go_wp2
        go_ret
        exact ⟨by rw [HSV.out, HY.out]; rfl, hG⟩
end
end Go.Proofs.YtcekdljjmfkacaaGreat
