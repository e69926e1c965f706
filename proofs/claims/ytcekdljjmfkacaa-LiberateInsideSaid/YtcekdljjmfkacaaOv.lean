import Derived.Test.YtcekdljjmfkacaaOu
set_option linter.unusedSimpArgs false
set_option linter.unusedVariables false
namespace Go.Proofs.Ytcekdljjmfkacaa
open Go.RowKit Go.Shelf
attribute [local go_sem] Oper.semAt_some wide_fn wide_dep wideR_fn wideR_dep
section
variable (north cols lofts wrong bx bY sl sh lw lg lh hours dark : Int) (east : List Int) (svs : List Sv) (n k : Nat) (h f : Nat → Nat → Int) (ea sa ha fa : Option Addr) (ec sc hc fc : Nat) (w : World)
/-- where the parts of a release lie -/
structure Laid (w : World) : Prop where
  he : IntsAt w ea east
  hs : SvsAt w sa svs
  hl : east.length ≤ 9223372036854775807
  hl2 : svs.length ≤ 9223372036854775807
  hH : RowAt w ha n 2 h
  hn : n ≤ 9223372036854775807
  hF : RowAt w fa k 12 f
  hk : k ≤ 9223372036854775807
end
section
variable (north cols lofts wrong bx bY sl sh lw lg lh hours dark : Int) (east : List Int) (svs : List Sv) (n k : Nat) (h f : Nat → Nat → Int) (ea sa ha fa : Option Addr) (ec sc hc fc : Nat) (w : World)
theorem Laid.keep {east : List Int} {svs : List Sv} {n k : Nat} {h f : Nat → Nat → Int} {ea sa ha fa : Option Addr} {w w' : World} (L : Laid east svs n k h f ea sa ha fa w) (hG : G w w') : Laid east svs n k h f ea sa ha fa w' :=
  ⟨L.he.below hG, L.hs.below hG, L.hl, L.hl2, L.hH.below hG, L.hn, L.hF.below hG, L.hk⟩
/-- a valid release, as numbers from 0 on -/
theorem to_Rl (L : Laid east svs n k h f ea sa ha fa w) (hC : COk north cols lofts wrong bx bY sl sh lw lg lh hours dark east svs n k h f) : ∃ r : Rl, r.v = #[.int .i64 north, .int .i64 cols, .slice ea east.length ec, .int .i64 lofts, .slice sa svs.length sc, .int .i64 wrong, .int .i64 bx, .int .i64 bY, .slice ha n hc, .int .i64 sl, .int .i64 sh, .slice fa k fc, .int .i64 lw, .int .i64 lg, .int .i64 lh, .int .i64 hours, .int .i64 dark] ∧ r.Ok w ∧ r.n = n ∧ r.k = k ∧ r.east = east := by
  obtain ⟨⟨hk, hr⟩, hk12, hfo⟩ := hC
  have hvb := vm_bounds (checkE_ok hk)
  have hb := hr.base
  have hsp := hr.speed
  have hho := hr.homes
  have h8 := hr.hrs
  have h9 := hr.drk
  unfold spanB at hsp
  unfold isPlaceB isInB at hb
  unfold isInB at h8 h9
  simp only [Bool.and_eq_true, decide_eq_true_eq] at hsp hb h8 h9
  have hhx : ∀ i, i < n → 0 ≤ h i 0 ∧ 0 ≤ h i 1 := fun i hi => by
    have := hho i hi
    unfold isPlaceB isInB at this
    simp only [Bool.and_eq_true, decide_eq_true_eq] at this
    omega
  obtain ⟨c, rfl⟩ : ∃ c : Nat, cols = c := ⟨cols.toNat, by omega⟩
  obtain ⟨l, rfl⟩ : ∃ l : Nat, lofts = l := ⟨lofts.toNat, by omega⟩
  obtain ⟨x, rfl⟩ : ∃ x : Nat, bx = x := ⟨bx.toNat, by omega⟩
  obtain ⟨y, rfl⟩ : ∃ y : Nat, bY = y := ⟨bY.toNat, by omega⟩
  obtain ⟨a, rfl⟩ : ∃ a : Nat, sl = a := ⟨sl.toNat, by omega⟩
  obtain ⟨b, rfl⟩ : ∃ b : Nat, sh = b := ⟨sh.toNat, by omega⟩
  obtain ⟨d, rfl⟩ : ∃ d : Nat, hours = d := ⟨hours.toNat, by omega⟩
  obtain ⟨e, rfl⟩ : ∃ e : Nat, dark = e := ⟨dark.toNat, by omega⟩
  let r : Rl := { north := north, wrong := wrong, lw := lw, lg := lg, lh := lh, cols := c, lofts := l, bx := x, bY := y, sl := a, sh := b, hours := d, dark := e, east := east, svs := svs, n := n, k := k, hx := fun i => (h i 0).toNat, hy := fun i => (h i 1).toNat, f := f, ea := ea, sa := sa, ha := ha, fa := fa, ec := ec, sc := sc, hc := hc, fc := fc }
  have hh : ∀ i, i < n → ∀ j, j < 2 → h i j = r.h i j := fun i hi j hj => by
    have := hhx i hi
    match j, hj with
    | 0, _ => show h i 0 = (((h i 0).toNat : Nat) : Int); omega
    | 1, _ => show h i 1 = (((h i 1).toNat : Nat) : Int); omega
  refine ⟨r, rfl, ⟨L.he, L.hs, hk, ⟨hr.base, hr.many, fun i hi => ?_, hr.speed, hr.wind, hr.sight, hr.heat, hr.hrs, hr.drk⟩, ?_, L.hF, hk12, hfo⟩, rfl, rfl, rfl⟩
  · rw [← hh i hi 0 (by omega), ← hh i hi 1 (by omega)]
    exact hr.homes i hi
  · rcases L.hH with h1 | ⟨g, off, h1, h2, h3⟩
    · exact .inl h1
    · exact .inr ⟨g, off, h1, h2, fun i hi j hj => by rw [h3 i hi j hj, hh i hi j hj]⟩
set_option maxRecDepth 100000 in
set_option maxHeartbeats 4000000 in
theorem farBad (L : Laid east svs n k h f ea sa ha fa w) (hC : ¬ COk north cols lofts wrong bx bY sl sh lw lg lh hours dark east svs n k h f) : Calls Try.prog 30 #[.agg #[.int .i64 north, .int .i64 cols, .slice ea east.length ec, .int .i64 lofts, .slice sa svs.length sc, .int .i64 wrong, .int .i64 bx, .int .i64 bY, .slice ha n hc, .int .i64 sl, .int .i64 sh, .slice fa k fc, .int .i64 lw, .int .i64 lg, .int .i64 lh, .int .i64 hours, .int .i64 dark]] w (BoolPost w) := by
  have HCK := Lib.hid (fun (W : World) (hW : G w W) => refCheck_any north cols lofts wrong bx bY sl sh lw lg lh hours dark east svs n k h f ea sa ha fa ec sc hc fc W (L.keep hW).he (L.keep hW).hs L.hl L.hl2 (L.keep hW).hH L.hn (L.keep hW).hF)
  have HPP : Hid (∀ w' b, G w w' → BoolPost w (.returned (.bool b)) w') := fun w' b a => ⟨b, rfl, a⟩
  generalize BoolPost w = PP at *
  have g0 : G w (w.alloc (.cells #[.int .i64 north, .int .i64 cols, .slice ea east.length ec, .int .i64 lofts, .slice sa svs.length sc, .int .i64 wrong, .int .i64 bx, .int .i64 bY, .slice ha n hc, .int .i64 sl, .int .i64 sh, .slice fa k fc, .int .i64 lw, .int .i64 lg, .int .i64 lh, .int .i64 hours, .int .i64 dark] 35)) := (G.rf _).a _
  have b0 : Blk (w.alloc (.cells #[.int .i64 north, .int .i64 cols, .slice ea east.length ec, .int .i64 lofts, .slice sa svs.length sc, .int .i64 wrong, .int .i64 bx, .int .i64 bY, .slice ha n hc, .int .i64 sl, .int .i64 sh, .slice fa k fc, .int .i64 lw, .int .i64 lg, .int .i64 lh, .int .i64 hours, .int .i64 dark] 35)) w.heap.size 35 #[.int .i64 north, .int .i64 cols, .slice ea east.length ec, .int .i64 lofts, .slice sa svs.length sc, .int .i64 wrong, .int .i64 bx, .int .i64 bY, .slice ha n hc, .int .i64 sl, .int .i64 sh, .slice fa k fc, .int .i64 lw, .int .i64 lg, .int .i64 lh, .int .i64 hours, .int .i64 dark] := Blk.new w 35 #[.int .i64 north, .int .i64 cols, .slice ea east.length ec, .int .i64 lofts, .slice sa svs.length sc, .int .i64 wrong, .int .i64 bx, .int .i64 bY, .slice ha n hc, .int .i64 sl, .int .i64 sh, .slice fa k fc, .int .i64 lw, .int .i64 lg, .int .i64 lh, .int .i64 hours, .int .i64 dark]
  clear L
  go_enter Try.func30, Try.ntmps30
  go_upto_region 1 with fail
  change Code.wp _ _ _ _ (w.alloc (.cells #[.int .i64 north, .int .i64 cols, .slice ea east.length ec, .int .i64 lofts, .slice sa svs.length sc, .int .i64 wrong, .int .i64 bx, .int .i64 bY, .slice ha n hc, .int .i64 sl, .int .i64 sh, .slice fa k fc, .int .i64 lw, .int .i64 lg, .int .i64 lh, .int .i64 hours, .int .i64 dark] 35))
  generalize w.alloc (.cells #[.int .i64 north, .int .i64 cols, .slice ea east.length ec, .int .i64 lofts, .slice sa svs.length sc, .int .i64 wrong, .int .i64 bx, .int .i64 bY, .slice ha n hc, .int .i64 sl, .int .i64 sh, .slice fa k fc, .int .i64 lw, .int .i64 lg, .int .i64 lh, .int .i64 hours, .int .i64 dark] 35) = w1 at *
  have m2 := b0.cell 2
  have m4 := b0.cell 4
  have m8 := b0.cell 8
  have m11 := b0.cell 11
  have lM := b0.lt
  have HF := Lib.hid (HPP.out w1 true g0)
  by_cases i1 : (20 : Int) < n
  · go_wp2_with fail
    exact HF.out
  by_cases i2 : (30 : Int) < k
  · go_wp2_with fail
    exact HF.out
  by_cases i3 : (40 : Int) < east.length
  · go_wp2_with fail
    exact HF.out
  by_cases i4 : (60 : Int) < svs.length
  · go_wp2_with fail
    exact HF.out
  go_upto_region 3 with fail
  refine wp_region_lit ?_
  refine wpList_load35 w.heap.size 1 isRelV rfl rfl rfl b0 ?_
  try simp only [Act.put, List.getElem_toArray, List.getElem_cons_zero, List.getElem_cons_succ, List.setIfInBounds_toArray, List.set_cons_zero, List.set_cons_succ]
  refine wpList_plain rfl fun K hK => ?_
  go_simp
  refine (HCK.out _ g0).mono ?_
  rintro e w2 ⟨z, rfl, hz, hG2⟩
  refine hK _ _ ?_
  clear hK K HCK HF
  try simp only [Act.put, List.getElem_toArray, List.getElem_cons_zero, List.getElem_cons_succ, List.setIfInBounds_toArray, List.set_cons_zero, List.set_cons_succ]
  have hz0 : (z == 0) = false := by simp; exact fun h => hC (hz.1 h)
  have HF := Lib.hid (HPP.out w2 false (g0.t hG2))
  clear hz hC
  go_wp2_with fail
  exact HF.out
/-- what valid tells -/
def ValidPost (w : World) (p : Prop) (e : Ending) (w' : World) : Prop := ∃ b : Bool, e = .returned (.bool b) ∧ (b = true → p) ∧ G w w'
set_option maxRecDepth 100000 in
set_option maxHeartbeats 8000000 in
theorem valid_any (L : Laid east svs n k h f ea sa ha fa w) (home mi : Int) : Calls Try.prog 12 #[.agg #[.int .i64 north, .int .i64 cols, .slice ea east.length ec, .int .i64 lofts, .slice sa svs.length sc, .int .i64 wrong, .int .i64 bx, .int .i64 bY, .slice ha n hc, .int .i64 sl, .int .i64 sh, .slice fa k fc, .int .i64 lw, .int .i64 lg, .int .i64 lh, .int .i64 hours, .int .i64 dark], .int .i64 home, .int .i64 mi] w (ValidPost w (COk north cols lofts wrong bx bY sl sh lw lg lh hours dark east svs n k h f ∧ (0 ≤ home ∧ home < n) ∧ 0 ≤ mi ∧ mi ≤ 9999)) := by
  have HCK := Lib.hid (fun (W : World) (hW : G w W) => refCheck_any north cols lofts wrong bx bY sl sh lw lg lh hours dark east svs n k h f ea sa ha fa ec sc hc fc W (L.keep hW).he (L.keep hW).hs L.hl L.hl2 (L.keep hW).hH L.hn (L.keep hW).hF)
  have HFA : Hid (∀ W, G w W → Calls Try.prog 30 #[.agg #[.int .i64 north, .int .i64 cols, .slice ea east.length ec, .int .i64 lofts, .slice sa svs.length sc, .int .i64 wrong, .int .i64 bx, .int .i64 bY, .slice ha n hc, .int .i64 sl, .int .i64 sh, .slice fa k fc, .int .i64 lw, .int .i64 lg, .int .i64 lh, .int .i64 hours, .int .i64 dark]] W (BoolPost W)) := fun W hW => by
    by_cases hC : COk north cols lofts wrong bx bY sl sh lw lg lh hours dark east svs n k h f
    · obtain ⟨r, hv, hok, hrn, hrk, hre⟩ := to_Rl north cols lofts wrong bx bY sl sh lw lg lh hours dark east svs n k h f ea sa ha fa ec sc hc fc W (L.keep hW) hC
      rw [← hv]
      have hN := hok.nums
      have hl2 := (checkE_zero hok.hk).2.1
      exact farLaw_walk r.v r.ha r.fa r.ea r.sa r.n r.hc r.k r.fc r.east.length r.ec r.svs.length r.sc r.sl r.ns r.ln W (rIs r) rfl rfl rfl rfl rfl hN.many hok.hk12 hN.rows hl2 (by have := hN.speed; omega) (fun i hi => Rl.ns_le hN hi) (fun i hi q hq => by
        have h1 := hok.far hi q (by omega)
        have h2 := Rl.ns_le hN hi
        have h3 : farS (r.ln i) q = farL r.north r.east (r.P i) q := rfl
        omega) (fun W' hW' => rRefCheck (hok.keep hW')) (fun i hi W' hW' => rRefFar (hok.keep hW') hi)
    · exact farBad north cols lofts wrong bx bY sl sh lw lg lh hours dark east svs n k h f ea sa ha fa ec sc hc fc W (L.keep hW) hC
  have HNO : Hid (∀ w', G w w' → ValidPost w (COk north cols lofts wrong bx bY sl sh lw lg lh hours dark east svs n k h f ∧ (0 ≤ home ∧ home < n) ∧ 0 ≤ mi ∧ mi ≤ 9999) (.returned (.bool false)) w') := fun w' b => ⟨false, rfl, fun h => (by cases h), b⟩
  have HYES : Hid (∀ w', COk north cols lofts wrong bx bY sl sh lw lg lh hours dark east svs n k h f → (0 ≤ home ∧ home < n) → (0 ≤ mi ∧ mi ≤ 9999) → G w w' → ValidPost w (COk north cols lofts wrong bx bY sl sh lw lg lh hours dark east svs n k h f ∧ (0 ≤ home ∧ home < n) ∧ 0 ≤ mi ∧ mi ≤ 9999) (.returned (.bool true)) w') := fun w' a b c d => ⟨true, rfl, fun _ => ⟨a, b, c⟩, d⟩
  generalize ValidPost w (COk north cols lofts wrong bx bY sl sh lw lg lh hours dark east svs n k h f ∧ (0 ≤ home ∧ home < n) ∧ 0 ≤ mi ∧ mi ≤ 9999) = PP at *
  have g0 : G w (w.alloc (.cells #[.int .i64 north, .int .i64 cols, .slice ea east.length ec, .int .i64 lofts, .slice sa svs.length sc, .int .i64 wrong, .int .i64 bx, .int .i64 bY, .slice ha n hc, .int .i64 sl, .int .i64 sh, .slice fa k fc, .int .i64 lw, .int .i64 lg, .int .i64 lh, .int .i64 hours, .int .i64 dark] 35)) := (G.rf _).a _
  have b0 : Blk (w.alloc (.cells #[.int .i64 north, .int .i64 cols, .slice ea east.length ec, .int .i64 lofts, .slice sa svs.length sc, .int .i64 wrong, .int .i64 bx, .int .i64 bY, .slice ha n hc, .int .i64 sl, .int .i64 sh, .slice fa k fc, .int .i64 lw, .int .i64 lg, .int .i64 lh, .int .i64 hours, .int .i64 dark] 35)) w.heap.size 35 #[.int .i64 north, .int .i64 cols, .slice ea east.length ec, .int .i64 lofts, .slice sa svs.length sc, .int .i64 wrong, .int .i64 bx, .int .i64 bY, .slice ha n hc, .int .i64 sl, .int .i64 sh, .slice fa k fc, .int .i64 lw, .int .i64 lg, .int .i64 lh, .int .i64 hours, .int .i64 dark] := Blk.new w 35 #[.int .i64 north, .int .i64 cols, .slice ea east.length ec, .int .i64 lofts, .slice sa svs.length sc, .int .i64 wrong, .int .i64 bx, .int .i64 bY, .slice ha n hc, .int .i64 sl, .int .i64 sh, .slice fa k fc, .int .i64 lw, .int .i64 lg, .int .i64 lh, .int .i64 hours, .int .i64 dark]
  clear L
  go_enter Try.func12, Try.ntmps12
  go_upto_region 1 with fail
  change Code.wp _ _ _ _ (w.alloc (.cells #[.int .i64 north, .int .i64 cols, .slice ea east.length ec, .int .i64 lofts, .slice sa svs.length sc, .int .i64 wrong, .int .i64 bx, .int .i64 bY, .slice ha n hc, .int .i64 sl, .int .i64 sh, .slice fa k fc, .int .i64 lw, .int .i64 lg, .int .i64 lh, .int .i64 hours, .int .i64 dark] 35))
  generalize w.alloc (.cells #[.int .i64 north, .int .i64 cols, .slice ea east.length ec, .int .i64 lofts, .slice sa svs.length sc, .int .i64 wrong, .int .i64 bx, .int .i64 bY, .slice ha n hc, .int .i64 sl, .int .i64 sh, .slice fa k fc, .int .i64 lw, .int .i64 lg, .int .i64 lh, .int .i64 hours, .int .i64 dark] 35) = w1 at *
  refine wp_region_lit ?_
  refine wpList_load35 w.heap.size 3 isRelV rfl rfl rfl b0 ?_
  try simp only [Act.put, List.getElem_toArray, List.getElem_cons_zero, List.getElem_cons_succ, List.setIfInBounds_toArray, List.set_cons_zero, List.set_cons_succ]
  refine wpList_plain rfl fun K hK => ?_
  go_simp
  refine (HFA.out _ g0).mono ?_
  rintro e w2 ⟨b, rfl, hG2⟩
  refine hK _ _ ?_
  clear hK K HFA
  try simp only [Act.put, List.getElem_toArray, List.getElem_cons_zero, List.getElem_cons_succ, List.setIfInBounds_toArray, List.set_cons_zero, List.set_cons_succ]
  replace b0 := b0.keep hG2
  replace g0 := g0.t hG2
  clear hG2
  cases b
  case true =>
    have HF := Lib.hid (HNO.out _ g0)
    clear HNO HYES HCK
    go_wp2_with fail
    exact HF.out
  have m0 := b0.cell 0; have m1 := b0.cell 1; have m2 := b0.cell 2; have m3 := b0.cell 3; have m4 := b0.cell 4; have m5 := b0.cell 5; have m6 := b0.cell 6; have m7 := b0.cell 7; have m8 := b0.cell 8; have m9 := b0.cell 9; have m10 := b0.cell 10; have m11 := b0.cell 11; have m12 := b0.cell 12; have m13 := b0.cell 13; have m14 := b0.cell 14; have m15 := b0.cell 15; have m16 := b0.cell 16; have lM := b0.lt
  by_cases hC : COk north cols lofts wrong bx bY sl sh lw lg lh hours dark east svs n k h f
  case neg =>
    have HF := Lib.hid (fun w' => HNO.out w')
    clear HNO HYES
    go_wp2_with (go_at_call 22; refine (HCK.out _ g0).mono ?_; rintro e w3 ⟨z, rfl, hz, hG3⟩; have hz0 : (z == 0) = false := (by simp; exact fun h => hC (hz.1 h)))
    exact HF.out _ (g0.t hG3)
  have HC0 : Hid (∀ W, G w W → Calls Try.prog 22 #[.agg #[.int .i64 north, .int .i64 cols, .slice ea east.length ec, .int .i64 lofts, .slice sa svs.length sc, .int .i64 wrong, .int .i64 bx, .int .i64 bY, .slice ha n hc, .int .i64 sl, .int .i64 sh, .slice fa k fc, .int .i64 lw, .int .i64 lg, .int .i64 lh, .int .i64 hours, .int .i64 dark]] W fun e w' => e = .returned (.int .i64 0) ∧ G W w') := fun W hW => (HCK.out W hW).mono fun e w' hh => by
    obtain ⟨z, h1, hz, hG⟩ := hh
    rw [hz.2 hC] at h1
    exact ⟨h1, hG⟩
  clear HCK
  by_cases t1 : 0 ≤ home
  case neg =>
    have HF := Lib.hid (fun w' => HNO.out w')
    clear HNO HYES hC
    go_wp2_with (go_at_call 22; refine (HC0.out _ g0).mono ?_; rintro e w3 ⟨rfl, hG3⟩; clear HC0; clear m0 m1 m2 m3 m4 m5 m6 m7 m8 m9 m10 m11 m12 m13 m14 m15 m16 lM; replace b0 := b0.keep hG3; replace g0 := g0.t hG3; have m8 := b0.cell 8; have lM := b0.lt)
    exact HF.out _ g0
  by_cases t2 : home < n
  case neg =>
    have HF := Lib.hid (fun w' => HNO.out w')
    clear HNO HYES hC
    go_wp2_with (go_at_call 22; refine (HC0.out _ g0).mono ?_; rintro e w3 ⟨rfl, hG3⟩; clear HC0; clear m0 m1 m2 m3 m4 m5 m6 m7 m8 m9 m10 m11 m12 m13 m14 m15 m16 lM; replace b0 := b0.keep hG3; replace g0 := g0.t hG3; have m8 := b0.cell 8; have lM := b0.lt)
    exact HF.out _ g0
  by_cases t3 : 0 ≤ mi
  case neg =>
    have HF := Lib.hid (fun w' => HNO.out w')
    clear HNO HYES hC
    go_wp2_with (go_at_call 22; refine (HC0.out _ g0).mono ?_; rintro e w3 ⟨rfl, hG3⟩; clear HC0; clear m0 m1 m2 m3 m4 m5 m6 m7 m8 m9 m10 m11 m12 m13 m14 m15 m16 lM; replace b0 := b0.keep hG3; replace g0 := g0.t hG3; have m8 := b0.cell 8; have lM := b0.lt)
    exact HF.out _ g0
  by_cases t4 : mi ≤ 9999
  case neg =>
    have HF := Lib.hid (fun w' => HNO.out w')
    clear HNO HYES hC
    go_wp2_with (go_at_call 22; refine (HC0.out _ g0).mono ?_; rintro e w3 ⟨rfl, hG3⟩; clear HC0; clear m0 m1 m2 m3 m4 m5 m6 m7 m8 m9 m10 m11 m12 m13 m14 m15 m16 lM; replace b0 := b0.keep hG3; replace g0 := g0.t hG3; have m8 := b0.cell 8; have lM := b0.lt)
    show PP (.returned (.bool (decide (mi ≤ 9999)))) _
    rw [show decide (mi ≤ 9999) = false from decide_eq_false (by omega)]
    exact HF.out _ g0
  have HF := Lib.hid (fun w' => HYES.out w' hC ⟨t1, t2⟩ ⟨t3, t4⟩)
  clear HNO HYES hC
  go_wp2_with (go_at_call 22; refine (HC0.out _ g0).mono ?_; rintro e w3 ⟨rfl, hG3⟩; clear HC0; clear m0 m1 m2 m3 m4 m5 m6 m7 m8 m9 m10 m11 m12 m13 m14 m15 m16 lM; replace b0 := b0.keep hG3; replace g0 := g0.t hG3; have m8 := b0.cell 8; have lM := b0.lt)
  exact HF.out _ g0
end
end Go.Proofs.Ytcekdljjmfkacaa
