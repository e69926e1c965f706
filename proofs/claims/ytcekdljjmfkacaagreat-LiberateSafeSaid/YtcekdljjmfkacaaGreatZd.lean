import Derived.Test.YtcekdljjmfkacaaGreatZc
import Derived.Test.YtcekdljjmfkacaaGreatOt
set_option linter.unusedSimpArgs false
set_option linter.unusedVariables false
namespace Go.Proofs.YtcekdljjmfkacaaGreat
open Go.RowKit Go.Shelf
attribute [local go_sem] Oper.semAt_some wide_fn wide_dep wideR_fn wideR_dep
/-- an error of a release, told exactly -/
def ExPost (w : World) (R C : Prop) (e : Ending) (w' : World) : Prop := ∃ z : Int, e = .returned (.int .i64 z) ∧ ((z = 60 ∧ ¬ R) ∨ (z = 61 ∧ R ∧ ¬ C) ∨ (z = 0 ∧ C)) ∧ G w w'
section
variable (north cols lofts wrong bx bY sl sh lw lg lh hours dark : Int) (east : List Int) (svs : List Sv) (n k : Nat) (h f : Nat → Nat → Int) (ea sa ha fa : Option Addr) (ec sc hc fc : Nat) (w : World)
theorem anyU_iff {p : Nat → Bool} {n : Nat} : anyU p n = false ↔ ∀ j, j < n → p j = false := by
  unfold anyU
  rw [List.any_eq_false]
  exact ⟨fun h j hj => by have := h j (List.mem_range.2 hj); simpa using this, fun h j hj => by have := h j (List.mem_range.1 hj); simpa using this⟩
theorem relB_iff : relB north cols lofts wrong bx bY sl sh lw lg lh hours dark east svs n h = true ↔ ROk north cols lofts wrong bx bY sl sh lw lg lh hours dark east svs n h := by
  unfold relB ROk
  simp only [Bool.and_eq_true, decide_eq_true_eq, Bool.not_eq_true', anyU_iff, Bool.not_eq_false']
  constructor
  · rintro ⟨a0, a1, a2, a3, a4, a5, a6, a7, a8, a9⟩
    exact ⟨a0, a1, a2, a3, a4, a5, a6, a7, a8, a9⟩
  · rintro ⟨a0, a1, a2, a3, a4, a5, a6, a7, a8, a9⟩
    exact ⟨a0, a1, a2, a3, a4, a5, a6, a7, a8, a9⟩
theorem frontB_iff (cols : Int) (el : Nat) (hours : Int) (d : Nat → Int) : frontB cols el hours d = true ↔ FrontOk cols el hours d := by
  unfold frontB
  simp only [Bool.and_eq_true, Bool.not_eq_true', anyU_iff, Bool.not_eq_false']
  constructor
  · rintro ⟨a0, a1, a2, a3⟩
    exact ⟨a0, a1, a2, a3 0 (by omega), a3 1 (by omega), a3 2 (by omega)⟩
  · rintro ⟨a0, a1, a2, a3, a4, a5⟩
    refine ⟨a0, a1, a2, fun j hj => ?_⟩
    match j, hj with
    | 0, _ => exact a3
    | 1, _ => exact a4
    | 2, _ => exact a5
/-- the program's error is the reference's -/
theorem chk_ex {z : Int} (hz : (z = 60 ∧ ¬ ROk north cols lofts wrong bx bY sl sh lw lg lh hours dark east svs n h) ∨ (z = 61 ∧ ROk north cols lofts wrong bx bY sl sh lw lg lh hours dark east svs n h ∧ ¬ COk north cols lofts wrong bx bY sl sh lw lg lh hours dark east svs n k h f) ∨ (z = 0 ∧ COk north cols lofts wrong bx bY sl sh lw lg lh hours dark east svs n k h f)) : z = chkE north cols lofts wrong bx bY sl sh lw lg lh hours dark east svs n k h f := by
  unfold chkE
  rcases hz with ⟨rfl, hr⟩ | ⟨rfl, hr, hc⟩ | ⟨rfl, hc⟩
  · rw [if_pos]
    cases e : relB north cols lofts wrong bx bY sl sh lw lg lh hours dark east svs n h
    · rfl
    · exact absurd ((relB_iff north cols lofts wrong bx bY sl sh lw lg lh hours dark east svs n h).1 e) hr
  · rw [if_neg (by rw [(relB_iff north cols lofts wrong bx bY sl sh lw lg lh hours dark east svs n h).2 hr]; simp), if_pos]
    refine Classical.byContradiction fun hno => hc ⟨hr, by omega, fun i hi => ?_⟩
    have h2 : anyU (fun i => !frontB cols east.length hours (f i)) k = false := by
      cases e : anyU (fun i => !frontB cols east.length hours (f i)) k
      · rfl
      · exact absurd (.inr e) hno
    have := anyU_iff.1 h2 i hi
    exact (frontB_iff _ _ _ _).1 (by simpa using this)
  · rw [if_neg (by rw [(relB_iff north cols lofts wrong bx bY sl sh lw lg lh hours dark east svs n h).2 hc.1]; simp), if_neg]
    rintro (h1 | h1)
    · have := hc.2.1
      omega
    · have h2 : anyU (fun i => !frontB cols east.length hours (f i)) k = false := anyU_iff.2 fun i hi => by
        rw [(frontB_iff _ _ _ _).2 (hc.2.2 i hi)]; rfl
      rw [h2] at h1
      cases h1
set_option maxRecDepth 100000 in
set_option maxHeartbeats 4000000 in
theorem refCheck_ex (he : IntsAt w ea east) (hs : SvsAt w sa svs) (hl : east.length ≤ 9223372036854775807) (hl2 : svs.length ≤ 9223372036854775807) (hH : RowAt w ha n 2 h) (hn : n ≤ 9223372036854775807) (hF : RowAt w fa k 12 f) :
    Calls Tryz.prog 10 #[.agg #[.int .i64 north, .int .i64 cols, .slice ea east.length ec, .int .i64 lofts, .slice sa svs.length sc, .int .i64 wrong, .int .i64 bx, .int .i64 bY, .slice ha n hc, .int .i64 sl, .int .i64 sh, .slice fa k fc, .int .i64 lw, .int .i64 lg, .int .i64 lh, .int .i64 hours, .int .i64 dark]] w (ExPost w (ROk north cols lofts wrong bx bY sl sh lw lg lh hours dark east svs n h) (COk north cols lofts wrong bx bY sl sh lw lg lh hours dark east svs n k h f)) := by
  have HR := Lib.hid (fun (W : World) (hW : G w W) => refIsRelease north cols lofts wrong bx bY sl sh lw lg lh hours dark east svs n k h ea sa ha fa ec sc hc fc W (he.below hW) (hs.below hW) hl hl2 (hH.below hW) hn)
  have g0 : G w (w.alloc (.cells #[.int .i64 north, .int .i64 cols, .slice ea east.length ec, .int .i64 lofts, .slice sa svs.length sc, .int .i64 wrong, .int .i64 bx, .int .i64 bY, .slice ha n hc, .int .i64 sl, .int .i64 sh, .slice fa k fc, .int .i64 lw, .int .i64 lg, .int .i64 lh, .int .i64 hours, .int .i64 dark] 35)) := (G.rf _).a _
  have b0 : Blk (w.alloc (.cells #[.int .i64 north, .int .i64 cols, .slice ea east.length ec, .int .i64 lofts, .slice sa svs.length sc, .int .i64 wrong, .int .i64 bx, .int .i64 bY, .slice ha n hc, .int .i64 sl, .int .i64 sh, .slice fa k fc, .int .i64 lw, .int .i64 lg, .int .i64 lh, .int .i64 hours, .int .i64 dark] 35)) w.heap.size 35 #[.int .i64 north, .int .i64 cols, .slice ea east.length ec, .int .i64 lofts, .slice sa svs.length sc, .int .i64 wrong, .int .i64 bx, .int .i64 bY, .slice ha n hc, .int .i64 sl, .int .i64 sh, .slice fa k fc, .int .i64 lw, .int .i64 lg, .int .i64 lh, .int .i64 hours, .int .i64 dark] := Blk.new w 35 #[.int .i64 north, .int .i64 cols, .slice ea east.length ec, .int .i64 lofts, .slice sa svs.length sc, .int .i64 wrong, .int .i64 bx, .int .i64 bY, .slice ha n hc, .int .i64 sl, .int .i64 sh, .slice fa k fc, .int .i64 lw, .int .i64 lg, .int .i64 lh, .int .i64 hours, .int .i64 dark]
  have HNO : Hid (∀ w' z, ((z = 60 ∧ ¬ ROk north cols lofts wrong bx bY sl sh lw lg lh hours dark east svs n h) ∨ (z = 61 ∧ ROk north cols lofts wrong bx bY sl sh lw lg lh hours dark east svs n h)) → ¬ COk north cols lofts wrong bx bY sl sh lw lg lh hours dark east svs n k h f → G w w' → ExPost w (ROk north cols lofts wrong bx bY sl sh lw lg lh hours dark east svs n h) (COk north cols lofts wrong bx bY sl sh lw lg lh hours dark east svs n k h f) (.returned (.int .i64 z)) w') := fun w' z hz hc hG => ⟨z, rfl, hz.elim .inl (fun h => .inr (.inl ⟨h.1, h.2, hc⟩)), hG⟩
  have HYES : Hid (∀ w', COk north cols lofts wrong bx bY sl sh lw lg lh hours dark east svs n k h f → G w w' → ExPost w (ROk north cols lofts wrong bx bY sl sh lw lg lh hours dark east svs n h) (COk north cols lofts wrong bx bY sl sh lw lg lh hours dark east svs n k h f) (.returned (.int .i64 0)) w') := fun w' hc hG => ⟨0, rfl, .inr (.inr ⟨rfl, hc⟩), hG⟩
  generalize ExPost w (ROk north cols lofts wrong bx bY sl sh lw lg lh hours dark east svs n h) (COk north cols lofts wrong bx bY sl sh lw lg lh hours dark east svs n k h f) = PP at *
  clear he hs hH
  go_enter Tryz.func10, Tryz.ntmps10
  go_upto_region 1 with fail
  change Code.wp _ _ _ _ (w.alloc (.cells #[.int .i64 north, .int .i64 cols, .slice ea east.length ec, .int .i64 lofts, .slice sa svs.length sc, .int .i64 wrong, .int .i64 bx, .int .i64 bY, .slice ha n hc, .int .i64 sl, .int .i64 sh, .slice fa k fc, .int .i64 lw, .int .i64 lg, .int .i64 lh, .int .i64 hours, .int .i64 dark] 35))
  generalize w.alloc (.cells #[.int .i64 north, .int .i64 cols, .slice ea east.length ec, .int .i64 lofts, .slice sa svs.length sc, .int .i64 wrong, .int .i64 bx, .int .i64 bY, .slice ha n hc, .int .i64 sl, .int .i64 sh, .slice fa k fc, .int .i64 lw, .int .i64 lg, .int .i64 lh, .int .i64 hours, .int .i64 dark] 35) = w1 at *
  refine wp_region_lit ?_
  refine wpList_load35 w.heap.size 1 isRelV rfl rfl rfl b0 ?_
  try simp only [Act.put, List.getElem_toArray, List.getElem_cons_zero, List.getElem_cons_succ, List.setIfInBounds_toArray, List.set_cons_zero, List.set_cons_succ]
  refine wpList_plain rfl fun K hK => ?_
  go_simp
  refine (HR.out _ g0).mono ?_
  rintro e w2 ⟨b, rfl, hbi, hG2⟩
  refine hK _ _ ?_
  clear hK K HR
  try simp only [Act.put, List.getElem_toArray, List.getElem_cons_zero, List.getElem_cons_succ, List.setIfInBounds_toArray, List.set_cons_zero, List.set_cons_succ]
  replace b0 := b0.keep hG2
  replace g0 := g0.t hG2
  clear hG2
  cases b
  · have HN := Lib.hid (fun w' => HNO.out w' 60 (.inl ⟨rfl, fun h1 => by have := hbi.2 h1; cases this⟩) (fun h => by have h1 := hbi.2 h.1; cases h1))
    clear HNO HYES
    go_wp2_with fail
    exact HN.out _ g0
  have hro := hbi.1 rfl
  have hvb := vm_bounds (checkE_ok hro.1)
  have hhr : 1 ≤ hours ∧ hours ≤ 12 := by have := hro.2.hrs; simp [isInB] at this; omega
  have HRO := Lib.hid hro
  clear hro hbi
  have m11 := b0.cell 11
  have lM := b0.lt
  by_cases h12 : 12 < k
  · have h12i : (12 : Int) < k := by omega
    have HN := Lib.hid (fun w' => HNO.out w' 61 (.inr ⟨rfl, HRO.out⟩) (fun h => by have := h.2.1; omega))
    clear HNO HYES
    go_wp2_with fail
    exact HN.out _ g0
  have h12i : ¬ (12 : Int) < k := by omega
  go_wp2_with fail
  clear m11 lM
  go_loopw [3, 4] (fun i u4 wr => ∃ q : Nat, q ≤ k ∧ i = .int .i64 q ∧ Hid (∀ j, j < q → FrontOk cols east.length hours (f j)) ∧ Blk wr w.heap.size 35 #[.int .i64 north, .int .i64 cols, .slice ea east.length ec, .int .i64 lofts, .slice sa svs.length sc, .int .i64 wrong, .int .i64 bx, .int .i64 bY, .slice ha n hc, .int .i64 sl, .int .i64 sh, .slice fa k fc, .int .i64 lw, .int .i64 lg, .int .i64 lh, .int .i64 hours, .int .i64 dark] ∧ G w wr) (fun i _ _ => k - (intOf i).toNat)
  case atStart => exact ⟨0, Nat.zero_le _, rfl, fun j hj => absurd hj (Nat.not_lt_zero _), b0, g0⟩
  case round =>
    clear b0 g0
    obtain ⟨q, hq, rfl, hall, b0, g0⟩ := hrel
    obtain ⟨wo, rfl⟩ : ∃ wo, wo = wr := ⟨_, rfl⟩
    have m11 := b0.cell 11
    have lM := b0.lt
    by_cases hlt : q < k
    · have hki : (q : Int) < k := by omega
      rcases hF with hz | ⟨gF, oF, rfl, hgF, hcell⟩
      · omega
      have lF := Nat.lt_of_lt_of_le hgF g0.size
      have hcl := fun r hr => ((bcellB g0).1 gF _ hgF).trans (hcell q hlt r hr)
      have q0 := hcl 0 (by omega)
      have q1 := hcl 1 (by omega)
      have q2 := hcl 2 (by omega)
      have q3 := hcl 3 (by omega)
      have q4 := hcl 4 (by omega)
      have q5 := hcl 5 (by omega)
      have q6 := hcl 6 (by omega)
      have q7 := hcl 7 (by omega)
      have q8 := hcl 8 (by omega)
      have q9 := hcl 9 (by omega)
      have q10 := hcl 10 (by omega)
      have q11 := hcl 11 (by omega)
      rw [Nat.add_zero] at q0
      have hfr : FrontOk cols east.length hours (f q) ↔ (spanB (f q 0) (f q 1) 0 (hours - 1) = true ∧ spanB (f q 2) (f q 3) 0 (cols - 1) = true ∧ spanB (f q 4) (f q 5) 0 ((east.length : Int) - 1) = true ∧ (spanB (f q 6) (f q 7) 0 999 && (spanB (f q 8) (f q 9) 0 999 && spanB (f q 10) (f q 11) 0 999)) = true) := by
        constructor
        · intro h
          refine ⟨h.h1, h.h2, h.h3, ?_⟩
          rw [h.h4, h.h5, h.h6]
          rfl
        · intro ⟨a, b, c, d⟩
          simp only [Bool.and_eq_true] at d
          exact ⟨a, b, c, d.1, d.2.1, d.2.2⟩
      obtain ⟨d0, hd0⟩ : ∃ d, d = f q 0 := ⟨_, rfl⟩
      rw [← hd0] at q0 hfr
      clear hd0
      obtain ⟨d1, hd1⟩ : ∃ d, d = f q 1 := ⟨_, rfl⟩
      rw [← hd1] at q1 hfr
      clear hd1
      obtain ⟨d2, hd2⟩ : ∃ d, d = f q 2 := ⟨_, rfl⟩
      rw [← hd2] at q2 hfr
      clear hd2
      obtain ⟨d3, hd3⟩ : ∃ d, d = f q 3 := ⟨_, rfl⟩
      rw [← hd3] at q3 hfr
      clear hd3
      obtain ⟨d4, hd4⟩ : ∃ d, d = f q 4 := ⟨_, rfl⟩
      rw [← hd4] at q4 hfr
      clear hd4
      obtain ⟨d5, hd5⟩ : ∃ d, d = f q 5 := ⟨_, rfl⟩
      rw [← hd5] at q5 hfr
      clear hd5
      obtain ⟨d6, hd6⟩ : ∃ d, d = f q 6 := ⟨_, rfl⟩
      rw [← hd6] at q6 hfr
      clear hd6
      obtain ⟨d7, hd7⟩ : ∃ d, d = f q 7 := ⟨_, rfl⟩
      rw [← hd7] at q7 hfr
      clear hd7
      obtain ⟨d8, hd8⟩ : ∃ d, d = f q 8 := ⟨_, rfl⟩
      rw [← hd8] at q8 hfr
      clear hd8
      obtain ⟨d9, hd9⟩ : ∃ d, d = f q 9 := ⟨_, rfl⟩
      rw [← hd9] at q9 hfr
      clear hd9
      obtain ⟨d10, hd10⟩ : ∃ d, d = f q 10 := ⟨_, rfl⟩
      rw [← hd10] at q10 hfr
      clear hd10
      obtain ⟨d11, hd11⟩ : ∃ d, d = f q 11 := ⟨_, rfl⟩
      rw [← hd11] at q11 hfr
      clear hd11
      clear hcl hcell
      have x1 : IntKind.i64.wrap (hours - 1) = hours - 1 := IntWalk.i64_in _ (by omega)
      have x2 : IntKind.i64.wrap (cols - 1) = cols - 1 := IntWalk.i64_in _ (by omega)
      have x3 : IntKind.i64.wrap ((east.length : Int) - 1) = (east.length : Int) - 1 := IntWalk.i64_in _ (by omega)
      have R1 := Lib.hid (fun W : World => rSpan6_any d0 d1 0 (hours - 1) W)
      have R2 := Lib.hid (fun W : World => rSpan6_any d2 d3 0 (cols - 1) W)
      have R3 := Lib.hid (fun W : World => rSpan6_any d4 d5 0 ((east.length : Int) - 1) W)
      have R4 := Lib.hid (fun W : World => rIsSky_any d6 d7 d8 d9 d10 d11 W)
      generalize spanB d0 d1 0 (hours - 1) = A1 at *
      generalize spanB d2 d3 0 (cols - 1) = A2 at *
      generalize spanB d4 d5 0 ((east.length : Int) - 1) = A3 at *
      generalize (spanB d6 d7 0 999 && (spanB d8 d9 0 999 && spanB d10 d11 0 999)) = A4 at *
      have HFR := Lib.hid hfr
      have b4 : Blk (wo.alloc (.cells #[.int .i64 d0, .int .i64 d1, .int .i64 d2, .int .i64 d3, .int .i64 d4, .int .i64 d5, .int .i64 d6, .int .i64 d7, .int .i64 d8, .int .i64 d9, .int .i64 d10, .int .i64 d11] 71)) wo.heap.size 71 #[.int .i64 d0, .int .i64 d1, .int .i64 d2, .int .i64 d3, .int .i64 d4, .int .i64 d5, .int .i64 d6, .int .i64 d7, .int .i64 d8, .int .i64 d9, .int .i64 d10, .int .i64 d11] := Blk.new wo 71 _
      have bz := b0.keep ((G.rf wo).a (.cells #[.int .i64 d0, .int .i64 d1, .int .i64 d2, .int .i64 d3, .int .i64 d4, .int .i64 d5, .int .i64 d6, .int .i64 d7, .int .i64 d8, .int .i64 d9, .int .i64 d10, .int .i64 d11] 71))
      have gz := g0.a (.cells #[.int .i64 d0, .int .i64 d1, .int .i64 d2, .int .i64 d3, .int .i64 d4, .int .i64 d5, .int .i64 d6, .int .i64 d7, .int .i64 d8, .int .i64 d9, .int .i64 d10, .int .i64 d11] 71)
      have m15 := b0.cell 15
      clear hfr
      cases A1
      · have HN := Lib.hid (fun w' => HNO.out w' 61 (.inr ⟨rfl, HRO.out⟩) (fun h => by have h2 := HFR.out.1 (h.2.2 q hlt); simp at h2))
        clear HNO HYES HFR HRO hall
        go_wp2_with (first | (go_at_call 36; refine (R1.out _).mono ?_; rintro e v0 ⟨rfl, hV0⟩; clear R1; replace bz := bz.keep hV0; replace b4 := b4.keep hV0; replace gz := gz.t hV0; clear hV0; clear m11 m15 lM lF q0 q1 q2 q3 q4 q5 q6 q7 q8 q9 q10 q11))
        exact HN.out _ gz
      ·
        cases A2
        · have HN := Lib.hid (fun w' => HNO.out w' 61 (.inr ⟨rfl, HRO.out⟩) (fun h => by have h2 := HFR.out.1 (h.2.2 q hlt); simp at h2))
          clear HNO HYES HFR HRO hall
          go_wp2_with (first | (go_at_call 36; refine (R1.out _).mono ?_; rintro e v0 ⟨rfl, hV0⟩; clear R1; replace bz := bz.keep hV0; replace b4 := b4.keep hV0; replace gz := gz.t hV0; clear hV0; clear m11 m15 lM lF q0 q1 q2 q3 q4 q5 q6 q7 q8 q9 q10 q11; have y0 := b4.cell 2; have y1 := b4.cell 3; have l0 := b4.lt; have y2 := bz.cell 1; have l1 := bz.lt) | (go_at_call 36; refine (R2.out _).mono ?_; rintro e v1 ⟨rfl, hV1⟩; clear R2; replace bz := bz.keep hV1; replace b4 := b4.keep hV1; replace gz := gz.t hV1; clear hV1; clear y0 y1 l0 y2 l1))
          exact HN.out _ gz
        ·
          cases A3
          · have HN := Lib.hid (fun w' => HNO.out w' 61 (.inr ⟨rfl, HRO.out⟩) (fun h => by have h2 := HFR.out.1 (h.2.2 q hlt); simp at h2))
            clear HNO HYES HFR HRO hall
            go_wp2_with (first | (go_at_call 36; refine (R1.out _).mono ?_; rintro e v0 ⟨rfl, hV0⟩; clear R1; replace bz := bz.keep hV0; replace b4 := b4.keep hV0; replace gz := gz.t hV0; clear hV0; clear m11 m15 lM lF q0 q1 q2 q3 q4 q5 q6 q7 q8 q9 q10 q11; have y0 := b4.cell 2; have y1 := b4.cell 3; have l0 := b4.lt; have y2 := bz.cell 1; have l1 := bz.lt) | (go_at_call 36; refine (R2.out _).mono ?_; rintro e v1 ⟨rfl, hV1⟩; clear R2; replace bz := bz.keep hV1; replace b4 := b4.keep hV1; replace gz := gz.t hV1; clear hV1; clear y0 y1 l0 y2 l1; have y0 := b4.cell 4; have y1 := b4.cell 5; have l0 := b4.lt; have y2 := bz.cell 2; have l1 := bz.lt) | (go_at_call 36; refine (R3.out _).mono ?_; rintro e v2 ⟨rfl, hV2⟩; clear R3; replace bz := bz.keep hV2; replace b4 := b4.keep hV2; replace gz := gz.t hV2; clear hV2; clear y0 y1 l0 y2 l1))
            exact HN.out _ gz
          ·
            cases A4
            · have HN := Lib.hid (fun w' => HNO.out w' 61 (.inr ⟨rfl, HRO.out⟩) (fun h => by have h2 := HFR.out.1 (h.2.2 q hlt); simp at h2))
              clear HNO HYES HFR HRO hall
              go_wp2_with (first | (go_at_call 36; refine (R1.out _).mono ?_; rintro e v0 ⟨rfl, hV0⟩; clear R1; replace bz := bz.keep hV0; replace b4 := b4.keep hV0; replace gz := gz.t hV0; clear hV0; clear m11 m15 lM lF q0 q1 q2 q3 q4 q5 q6 q7 q8 q9 q10 q11; have y0 := b4.cell 2; have y1 := b4.cell 3; have l0 := b4.lt; have y2 := bz.cell 1; have l1 := bz.lt) | (go_at_call 36; refine (R2.out _).mono ?_; rintro e v1 ⟨rfl, hV1⟩; clear R2; replace bz := bz.keep hV1; replace b4 := b4.keep hV1; replace gz := gz.t hV1; clear hV1; clear y0 y1 l0 y2 l1; have y0 := b4.cell 4; have y1 := b4.cell 5; have l0 := b4.lt; have y2 := bz.cell 2; have l1 := bz.lt) | (go_at_call 36; refine (R3.out _).mono ?_; rintro e v2 ⟨rfl, hV2⟩; clear R3; replace bz := bz.keep hV2; replace b4 := b4.keep hV2; replace gz := gz.t hV2; clear hV2; clear y0 y1 l0 y2 l1; have y0 := b4.cell 6; have y1 := b4.cell 7; have y2 := b4.cell 8; have y3 := b4.cell 9; have y4 := b4.cell 10; have y5 := b4.cell 11; have l0 := b4.lt) | (go_at_call 37; refine (R4.out _).mono ?_; rintro e v3 ⟨rfl, hV3⟩; clear R4; replace bz := bz.keep hV3; replace b4 := b4.keep hV3; replace gz := gz.t hV3; clear hV3; clear y0 y1 l0 y2 y3 y4 y5))
              exact HN.out _ gz
            ·
              have HFQ := Lib.hid (HFR.out.2 ⟨rfl, rfl, rfl, rfl⟩)
              clear HFR
              go_wp2_with (first | (go_at_call 36; refine (R1.out _).mono ?_; rintro e v0 ⟨rfl, hV0⟩; clear R1; replace bz := bz.keep hV0; replace b4 := b4.keep hV0; replace gz := gz.t hV0; clear hV0; clear m11 m15 lM lF q0 q1 q2 q3 q4 q5 q6 q7 q8 q9 q10 q11; have y0 := b4.cell 2; have y1 := b4.cell 3; have l0 := b4.lt; have y2 := bz.cell 1; have l1 := bz.lt) | (go_at_call 36; refine (R2.out _).mono ?_; rintro e v1 ⟨rfl, hV1⟩; clear R2; replace bz := bz.keep hV1; replace b4 := b4.keep hV1; replace gz := gz.t hV1; clear hV1; clear y0 y1 l0 y2 l1; have y0 := b4.cell 4; have y1 := b4.cell 5; have l0 := b4.lt; have y2 := bz.cell 2; have l1 := bz.lt) | (go_at_call 36; refine (R3.out _).mono ?_; rintro e v2 ⟨rfl, hV2⟩; clear R3; replace bz := bz.keep hV2; replace b4 := b4.keep hV2; replace gz := gz.t hV2; clear hV2; clear y0 y1 l0 y2 l1; have y0 := b4.cell 6; have y1 := b4.cell 7; have y2 := b4.cell 8; have y3 := b4.cell 9; have y4 := b4.cell 10; have y5 := b4.cell 11; have l0 := b4.lt) | (go_at_call 37; refine (R4.out _).mono ?_; rintro e v3 ⟨rfl, hV3⟩; clear R4; replace bz := bz.keep hV3; replace b4 := b4.keep hV3; replace gz := gz.t hV3; clear hV3; clear y0 y1 l0 y2 y3 y4 y5))
              go_roundw
              case rel => exact ⟨q + 1, by omega, by go_num, fun j hj => by
                rcases Nat.lt_or_ge j q with h1 | h1
                · exact hall.out j h1
                · obtain rfl : j = q := by omega
                  exact HFQ.out, bz, gz⟩
              case measure => simp [intOf]; omega
    · obtain rfl : q = k := by omega
      have hki : ¬ ((q : Nat) : Int) < q := by omega
      have HN := Lib.hid (fun w' => HYES.out w' ⟨HRO.out, by omega, hall.out⟩)
      clear HYES HNO
      go_wp2_with fail
      exact HN.out _ g0
end
end Go.Proofs.YtcekdljjmfkacaaGreat
