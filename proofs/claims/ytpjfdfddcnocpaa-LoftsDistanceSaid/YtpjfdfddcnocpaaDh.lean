import Derived.Test.YtpjfdfddcnocpaaDf
import Derived.Test.YtpjfdfddcnocpaaDg
import Derived.Test.YtpjfdfddcnocpaaDd
set_option linter.unusedSimpArgs false
set_option linter.unusedVariables false
namespace Go.Proofs.Ytpjfdfddcnocpaa
open Go.RowKit
attribute [local go_sem] Oper.semAt_some

section
variable (north cols lofts wrong o a b : Int) (east : List Int) (svs : List Sv) (ea sa : Option Addr) (ec sc : Nat) (w : World)
set_option maxHeartbeats 4000000 in
theorem Nearer_err (he : IntsAt w ea east) (hs : SvsAt w sa svs) (hl : east.length ≤ 9223372036854775807) (hl2 : svs.length ≤ 9223372036854775807) (hE : ¬ qE north cols lofts wrong east svs true [o, a, b] = 0) :
    Calls Try.prog 25 #[.agg #[.int .i64 north, .int .i64 cols, .slice ea east.length ec, .int .i64 lofts, .slice sa svs.length sc, .int .i64 wrong], .int .i64 o, .int .i64 a, .int .i64 b] w fun e w' => e = .returned (.tuple #[.int .i64 0, .int .i64 (qE north cols lofts wrong east svs true [o, a, b])]) ∧ G w w' := by
  have HQ := Lib.hid (fun (W : World) (hW : G w W) (g : Nat) (hg : Blk W g 3 #[.int .i64 o, .int .i64 a, .int .i64 b]) => question_E north cols lofts wrong east svs ea sa ec sc true [o, a, b] (some ⟨g, 0, none⟩) 3 W (he.below hW) (hs.below hW) hl hl2
    (.inr ⟨g, 0, rfl, hg.lt, fun k hk2 => by
      rw [hg.cell]
      match k, hk2 with
      | 0, _ => rfl
      | 1, _ => rfl
      | 2, _ => rfl⟩) (by simp) hE)
  generalize qE north cols lofts wrong east svs true [o, a, b] = E at *
  have hEb : (E == 0) = false := by simp [hE]
  clear he hs hl hl2 hE
  obtain ⟨n0, hn0⟩ : ∃ n0, n0 = w.heap.size := ⟨_, rfl⟩
  obtain ⟨g0, b0, b1, b2, b3, b4, b5, b6⟩ := w7a_spec w #[.int .i64 north, .int .i64 cols, .slice ea east.length ec, .int .i64 lofts, .slice sa svs.length sc, .int .i64 wrong] #[.int .i64 o] #[.int .i64 a] #[.int .i64 b] #[.int .i64 0] #[.int .i64 0] #[.int .i64 o, .int .i64 a, .int .i64 b] 25 3 3 3 3 28 3 n0 hn0 _ rfl
  go_enter Try.func25, Try.ntmps25
  go_wp2_with fail
  simp only [Nat.add_assoc, Nat.reduceAdd]
  rw [← hn0]
  refine (HQ.out _ g0 _ b6).mono ?_
  rintro e w1 ⟨rfl, hG1⟩
  replace b4 := b4.keep hG1
  replace b5 := b5.keep hG1
  replace g0 := g0.t hG1
  have d4 := b4.cell 0
  have z4 := b4.frozen 0
  have l4 := b4.lt
  have d5 := b5.cell 0
  have z5 := b5.frozen 0
  have l5 := b5.lt
  have HN0 := Lib.hid hn0
  clear b0 b1 b2 b3 b6 hG1 hn0
  go_wp2
  have eA := (b4.set_ 0 (.int .i64 0)).far (p := ⟨n0 + 5, 0, none⟩) (by simp) (.int .i64 E)
  have eB := (b5.far (p := ⟨n0 + 4, 0, none⟩) (by simp) (.int .i64 0)).set_ 0 (.int .i64 E)
  have hwn : w.heap.size ≤ n0 := by have := HN0.out; omega
  refine bodyPost_ret (res25 _ _ (n0 + 4) (n0 + 5) _ _ rfl rfl (eA.cell 0) (eB.cell 0)) rfl ⟨rfl, (g0.s (by simp; omega) _).s (by simp; omega) _⟩
theorem qE_near : qE north cols lofts wrong east svs true [o, a, b] = if ctE north cols lofts wrong east svs o a 0 = 0 then (if isInB b 0 (lofts - 1) = false then 1 else 0) else if ctE north cols lofts wrong east svs o a 0 = 3 ∧ isInB b 0 (lofts - 1) = false then 1 else ctE north cols lofts wrong east svs o a 0 := by
  have h3 := checkE_ne3 north cols lofts wrong east svs
  rw [ctE_q]
  unfold qE
  rw [show isInB 0 0 2 = true by rfl]
  simp only [List.all_cons, List.all_nil, Bool.and_true, Bool.true_and, Bool.and_self]
  generalize checkE north cols east lofts svs wrong = C at *
  cases isInB o 0 (lofts - 1) <;> cases isInB a 0 (lofts - 1) <;> cases isInB b 0 (lofts - 1) <;> by_cases hC : C = 0 <;> by_cases hw : wrong < fewSum north cols.toNat east svs lofts.toNat <;> simp [hC, hw, h3]
set_option maxHeartbeats 4000000 in
theorem rNearer_err (he : IntsAt w ea east) (hs : SvsAt w sa svs) (hl : east.length ≤ 9223372036854775807) (hl2 : svs.length ≤ 9223372036854775807) (hlo : checkE north cols east lofts svs wrong = 0 → 1 ≤ lofts ∧ lofts ≤ 8) (hE : ¬ qE north cols lofts wrong east svs true [o, a, b] = 0) :
    Calls Try.prog 45 #[.agg #[.int .i64 north, .int .i64 cols, .slice ea east.length ec, .int .i64 lofts, .slice sa svs.length sc, .int .i64 wrong], .int .i64 o, .int .i64 a, .int .i64 b] w fun e w' => e = .returned (.tuple #[.int .i64 0, .int .i64 (qE north cols lofts wrong east svs true [o, a, b])]) ∧ G w w' := by
  have hlb : ctE north cols lofts wrong east svs o a 0 = 0 ∨ ctE north cols lofts wrong east svs o a 0 = 3 → 1 ≤ lofts ∧ lofts ≤ 8 := by
    intro h
    apply hlo
    have h3 := checkE_ne3 north cols lofts wrong east svs
    unfold ctE at h
    by_cases hk : checkE north cols east lofts svs wrong = 0
    · exact hk
    · rw [if_neg hk] at h
      omega
  rw [qE_near] at hE ⊢
  have HT := Lib.hid (fun (W : World) (hW : G w W) => rCheckTruth_any north cols lofts wrong o a 0 east svs ea sa ec sc W (he.below hW) (hs.below hW) hl hl2)
  have HIS := Lib.hid (fun (W : World) => within_any b 0 (lofts - 1) W)
  have g0 : G w (w.alloc (.cells #[.int .i64 north, .int .i64 cols, .slice ea east.length ec, .int .i64 lofts, .slice sa svs.length sc, .int .i64 wrong] 25)) := (G.rf _).a _
  have b0 := Blk.new w 25 #[.int .i64 north, .int .i64 cols, .slice ea east.length ec, .int .i64 lofts, .slice sa svs.length sc, .int .i64 wrong]
  generalize ctE north cols lofts wrong east svs o a 0 = C at *
  generalize isInB b 0 (lofts - 1) = d at *
  clear he hs hl hl2 hlo
  by_cases h0 : C = 0
  · subst h0
    have hlb2 := hlb (.inl rfl)
    have x1 : IntKind.i64.wrap (lofts - 1) = lofts - 1 := IntWalk.i64_in _ (by omega)
    cases d
    · clear hE
      rw [if_pos rfl, if_pos rfl]
      go_enter Try.func45, Try.ntmps45
      go_wp2_with (first | (go_at_call 74; refine (HT.out _ g0).mono ?_; rintro e w1 ⟨rfl, hG1⟩; replace b0 := b0.keep hG1; replace g0 := g0.t hG1; clear hG1; have m0 := b0.cell 0; have m1 := b0.cell 1; have m2 := b0.cell 2; have m3 := b0.cell 3; have m4 := b0.cell 4; have m5 := b0.cell 5; have lM := b0.lt) | (go_at_call 51; refine (HIS.out _).mono ?_; rintro e w2 ⟨rfl, hG1⟩; clear m0 m1 m2 m3 m4 m5 lM; replace b0 := b0.keep hG1; replace g0 := g0.t hG1; clear hG1))
      go_ret2
      exact ⟨rfl, g0⟩
    · rw [if_pos rfl, if_neg (by simp)] at hE
      exact absurd rfl hE
  · have hb0 : (C == 0) = false := by simp [h0]
    by_cases h3 : C = 3
    · subst h3
      have hlb2 := hlb (.inr rfl)
      have x1 : IntKind.i64.wrap (lofts - 1) = lofts - 1 := IntWalk.i64_in _ (by omega)
      cases d
      · clear hE
        rw [if_neg (by decide), if_pos ⟨rfl, rfl⟩]
        go_enter Try.func45, Try.ntmps45
        go_wp2_with (first | (go_at_call 74; refine (HT.out _ g0).mono ?_; rintro e w1 ⟨rfl, hG1⟩; replace b0 := b0.keep hG1; replace g0 := g0.t hG1; clear hG1; have m0 := b0.cell 0; have m1 := b0.cell 1; have m2 := b0.cell 2; have m3 := b0.cell 3; have m4 := b0.cell 4; have m5 := b0.cell 5; have lM := b0.lt) | (go_at_call 51; refine (HIS.out _).mono ?_; rintro e w2 ⟨rfl, hG1⟩; clear m0 m1 m2 m3 m4 m5 lM; replace b0 := b0.keep hG1; replace g0 := g0.t hG1; clear hG1))
        go_ret2
        exact ⟨rfl, g0⟩
      · clear hE
        rw [if_neg (by decide), if_neg (by simp)]
        go_enter Try.func45, Try.ntmps45
        go_wp2_with (first | (go_at_call 74; refine (HT.out _ g0).mono ?_; rintro e w1 ⟨rfl, hG1⟩; replace b0 := b0.keep hG1; replace g0 := g0.t hG1; clear hG1; have m0 := b0.cell 0; have m1 := b0.cell 1; have m2 := b0.cell 2; have m3 := b0.cell 3; have m4 := b0.cell 4; have m5 := b0.cell 5; have lM := b0.lt) | (go_at_call 51; refine (HIS.out _).mono ?_; rintro e w2 ⟨rfl, hG1⟩; clear m0 m1 m2 m3 m4 m5 lM; replace b0 := b0.keep hG1; replace g0 := g0.t hG1; clear hG1))
        go_ret2
        exact ⟨rfl, g0⟩
    · have hb3 : (C == 3) = false := by simp [h3]
      clear hE
      rw [if_neg h0, if_neg (by simp [h3])]
      go_enter Try.func45, Try.ntmps45
      go_wp2_with (first | (go_at_call 74; refine (HT.out _ g0).mono ?_; rintro e w1 ⟨rfl, hG1⟩; replace b0 := b0.keep hG1; replace g0 := g0.t hG1; clear hG1; have m0 := b0.cell 0; have m1 := b0.cell 1; have m2 := b0.cell 2; have m3 := b0.cell 3; have m4 := b0.cell 4; have m5 := b0.cell 5; have lM := b0.lt) | (go_at_call 51; refine (HIS.out _).mono ?_; rintro e w2 ⟨rfl, hG1⟩; clear m0 m1 m2 m3 m4 m5 lM; replace b0 := b0.keep hG1; replace g0 := g0.t hG1; clear hG1))
      go_ret2
      exact ⟨rfl, g0⟩
end
section
variable (north wrong : Int) (cols lofts o a b : Nat) (east : List Int) (svs : List Sv) (ea sa : Option Addr) (ec sc : Nat) (w : World)
set_option maxRecDepth 100000 in
set_option maxHeartbeats 8000000 in
theorem rNearer_ok (he : IntsAt w ea east) (hs : SvsAt w sa svs) (hk : checkE north cols east lofts svs wrong = 0) (ho : o < lofts) (ha : a < lofts) (hb : b < lofts) (hw : ¬ wrong < fewSum north cols east svs lofts) :
    Calls Try.prog 45 #[.agg #[.int .i64 north, .int .i64 cols, .slice ea east.length ec, .int .i64 lofts, .slice sa svs.length sc, .int .i64 wrong], .int .i64 o, .int .i64 a, .int .i64 b] w fun e w' => e = .returned (.tuple #[.int .i64 (nearV ((truthsOf (spotsOf north cols east svs) [o, a, b] (wrong - fewSum north cols east svs lofts)).map (cmpF north east o a b))), .int .i64 0]) ∧ G w w' := by
  have hv := checkE_ok hk
  have hvb := vm_bounds hv
  have hl2 := (checkE_zero hk).2.1
  have hT := fun (W : World) (hW : G w W) => rCheckTruth_any north cols lofts wrong o a 0 east svs ea sa ec sc W (he.below hW) (hs.below hW) (by omega) (by omega)
  have hct : ctE north cols lofts wrong east svs o a 0 = 0 := by
    unfold ctE
    rw [if_pos hk, if_pos (by simp [isInB]; omega)]
    simp [hw]
  rw [hct] at hT
  have HT := Lib.hid hT
  have hIS := fun (W : World) => within_any b 0 (lofts - 1) W
  rw [show isInB (b : Int) 0 ((lofts : Int) - 1) = true by simp [isInB]; omega] at hIS
  have HIS := Lib.hid hIS
  have HTO := Lib.hid (fun (W : World) (hW : G w W) (g : Nat) (hg : Blk W g 3 #[.int .i64 o, .int .i64 a, .int .i64 b]) => rTruthsOf_any north wrong cols lofts east svs [o, a, b] ea sa (some ⟨g, 0, none⟩) ec sc 3 W (he.below hW) (hs.below hW)
    (.inr ⟨g, 0, rfl, hg.lt, fun k hk2 => by
      rw [hg.cell]
      match k, hk2 with
      | 0, _ => rfl
      | 1, _ => rfl
      | 2, _ => rfl⟩) rfl (by simp; exact ⟨ho, ha, hb⟩) hk hw)
  have hne := truths_ne (ls := [o, a, b]) hk hw
  have hSq := fun (W : World) (hW : G w W) (p q : Nat × Nat) (h1 : p ∈ allP cols east.length) (h2 : q ∈ allP cols east.length) => rSquare_any north cols lofts wrong p.1 q.1 p.2 q.2 east ea ec (.slice sa svs.length sc) W (he.below hW) hv (allP_mem h1).2 (allP_mem h2).2 (by have := allP_mem h1; simp [isInB]; omega) (by have := allP_mem h2; simp [isInB]; omega)
  have hmT := mem_TT3 north wrong cols lofts east svs o a b
  have hto := fun y hy => tt3_truths north wrong cols lofts east svs ho ha hb hw y hy
  have hfr := fun f hf => truths_tt3 north wrong cols lofts east svs ho ha hb hw (f := f) hf
  obtain ⟨T, hTT⟩ : ∃ T, T = TT (cost north east svs) (fun l => lowC north east svs l (allP cols east.length)) wrong [o, a, b] (allP cols east.length) (fewSum north cols east svs lofts) 3 := ⟨_, rfl⟩
  obtain ⟨RR, hRR⟩ : ∃ RR, RR = T.map (·.1) := ⟨_, rfl⟩
  obtain ⟨CV, hCV⟩ : ∃ CV : List Int, CV = RR.map fun row => cmpI (sqI north east (row.getD 0 (0, 0)).1 (row.getD 0 (0, 0)).2 (row.getD 1 (0, 0)).1 (row.getD 1 (0, 0)).2) (sqI north east (row.getD 0 (0, 0)).1 (row.getD 0 (0, 0)).2 (row.getD 2 (0, 0)).1 (row.getD 2 (0, 0)).2) := ⟨_, rfl⟩
  rw [← hTT] at hmT hto hfr
  have hcv : ∀ x, x ∈ CV ↔ x ∈ (truthsOf (spotsOf north cols east svs) [o, a, b] (wrong - fewSum north cols east svs lofts)).map (cmpF north east o a b) := by
    intro x
    rw [hCV, hRR, List.map_map, List.mem_map, List.mem_map]
    constructor
    · rintro ⟨y, hy, rfl⟩
      obtain ⟨f, hf, e⟩ := hto y hy
      refine ⟨f, hf, ?_⟩
      simp only [Function.comp, e]
      rfl
    · rintro ⟨f, hf, rfl⟩
      obtain ⟨y, hy, e⟩ := hfr f hf
      refine ⟨y, hy, ?_⟩
      simp only [Function.comp, e]
      rfl
  have hV := nearV_R (S := (truthsOf (spotsOf north cols east svs) [o, a, b] (wrong - fewSum north cols east svs lofts)).map (cmpF north east o a b)) (by simpa using hne) (fun x hx => by
    obtain ⟨f, _, rfl⟩ := List.mem_map.1 hx
    exact cmpI_cases _ _)
  have hany : ∀ c : Int, CV.any (· == c) = decide (c ∈ (truthsOf (spotsOf north cols east svs) [o, a, b] (wrong - fewSum north cols east svs lofts)).map (cmpF north east o a b)) := fun c => by
    rw [Bool.eq_iff_iff, List.any_eq_true, decide_eq_true_eq, ← hcv]
    constructor
    · rintro ⟨x, hx, h⟩
      have : x = c := by simpa using h
      rw [← this]; exact hx
    · intro h
      exact ⟨c, h, by simp⟩
  rw [← hany, ← hany, ← hany] at hV
  have hrow : ∀ k, k < RR.length → ∃ p0 ∈ allP cols east.length, ∃ p1 ∈ allP cols east.length, ∃ p2 ∈ allP cols east.length, RR.getD k [] = [p0, p1, p2] ∧ CV.getD k 0 = cmpI (sqI north east p0.1 p0.2 p1.1 p1.2) (sqI north east p0.1 p0.2 p2.1 p2.2) := by
    intro k hk
    have hkT : k < T.length := by rw [hRR, List.length_map] at hk; exact hk
    obtain ⟨p0, h0, p1, h1, p2, h2, _, _, _, _, _, _, e⟩ := (hmT (T[k])).1 (List.getElem_mem hkT)
    have e1 : RR.getD k [] = [p0, p1, p2] := by
      rw [hRR]
      simp [hkT, ← e]
    refine ⟨p0, h0, p1, h1, p2, h2, e1, ?_⟩
    have e2 : CV.getD k 0 = cmpI (sqI north east ((RR.getD k []).getD 0 (0, 0)).1 ((RR.getD k []).getD 0 (0, 0)).2 ((RR.getD k []).getD 1 (0, 0)).1 ((RR.getD k []).getD 1 (0, 0)).2) (sqI north east ((RR.getD k []).getD 0 (0, 0)).1 ((RR.getD k []).getD 0 (0, 0)).2 ((RR.getD k []).getD 2 (0, 0)).1 ((RR.getD k []).getD 2 (0, 0)).2) := by
      rw [hCV]
      simp [hk]
    rw [e2, e1]
    rfl
  have hR0 : 0 < RR.length := by
    obtain ⟨f, hf⟩ := List.exists_mem_of_ne_nil _ hne
    obtain ⟨y, hy, _⟩ := hfr f hf
    rw [hRR, List.length_map]
    exact List.length_pos_of_mem hy
  have hRl : RR.length ≤ 1000000 := by
    rw [hRR, List.length_map, hTT]
    refine Nat.le_trans (TT_len _ _ _ _ _ _ 3) ?_
    refine Nat.le_trans (Nat.pow_le_pow_left (m := 100) ?_ 3) (by decide)
    rw [allP_len]
    have : east.length * cols ≤ 10 * 10 := Nat.mul_le_mul (by omega) (by omega)
    omega
  have hCl : CV.length = RR.length := by rw [hCV, List.length_map]
  unfold TrPost at HTO
  rw [show ([o, a, b] : List Nat).length = 3 from rfl] at HTO
  rw [← hTT, ← hRR] at HTO
  generalize nearV ((truthsOf (spotsOf north cols east svs) [o, a, b] (wrong - fewSum north cols east svs lofts)).map (cmpF north east o a b)) = NV at *
  have HV := Lib.hid hV
  have HROW := Lib.hid hrow
  have HSQ := Lib.hid hSq
  have HCl := Lib.hid hCl
  have HANY := Lib.hid (fun (c : Int) k (hk : k < CV.length) => any_take_succ (· == c) CV 0 k hk)
  have hlo8 : lofts ≤ 8 := by omega
  have x1 : IntKind.i64.wrap ((lofts : Int) - 1) = lofts - 1 := IntWalk.i64_in _ (by omega)
  clear hT hct hIS hne hSq hmT hto hfr hTT hRR hCV hcv hV hany hrow hCl hv hvb hl2 hk hw he hs
  have g0 : G w (w.alloc (.cells #[.int .i64 north, .int .i64 cols, .slice ea east.length ec, .int .i64 lofts, .slice sa svs.length sc, .int .i64 wrong] 25)) := (G.rf _).a _
  have b0 := Blk.new w 25 #[.int .i64 north, .int .i64 cols, .slice ea east.length ec, .int .i64 lofts, .slice sa svs.length sc, .int .i64 wrong]
  go_enter Try.func45, Try.ntmps45
  go_wp2_with (first | (go_at_call 74; refine (HT.out _ g0).mono ?_; rintro e w1 ⟨rfl, hG1⟩; replace b0 := b0.keep hG1; replace g0 := g0.t hG1; clear hG1; have m0 := b0.cell 0; have m1 := b0.cell 1; have m2 := b0.cell 2; have m3 := b0.cell 3; have m4 := b0.cell 4; have m5 := b0.cell 5; have lM := b0.lt) | (go_at_call 51; refine (HIS.out _).mono ?_; rintro e w2 ⟨rfl, hG1⟩; clear m0 m1 m2 m3 m4 m5 lM; replace b0 := b0.keep hG1; replace g0 := g0.t hG1; clear hG1; have m0 := b0.cell 0; have m1 := b0.cell 1; have m2 := b0.cell 2; have m3 := b0.cell 3; have m4 := b0.cell 4; have m5 := b0.cell 5; have lM := b0.lt))
  refine (HTO.out _ (g0.a _) w2.heap.size (Blk.new w2 3 _)).mono ?_
  rintro e w3 ⟨v, rfl, hTR, hG3⟩
  have hG1 := ((G.rf w2).a (.cells #[.int .i64 o, .int .i64 a, .int .i64 b] 3)).t hG3
  clear m0 m1 m2 m3 m4 m5 lM
  replace b0 := b0.keep hG1; replace g0 := g0.t hG1; clear hG1
  clear hG3
  obtain ⟨gR, capR, rfl, hgR, hTA⟩ := hTR.at hR0
  have HTA := Lib.hid hTA
  clear hTR hTA HTO HT HIS
  go_wp2
  go_loopw [11, 12, 13, 15] (fun f s e i wr => ∃ k : Nat, k ≤ RR.length ∧ i = .int .i64 k ∧ f = .bool ((CV.take k).any (· == 1)) ∧ s = .bool ((CV.take k).any (· == 2)) ∧ e = .bool ((CV.take k).any (· == 3)) ∧ G w3 wr) (fun _ _ _ i _ => RR.length - (intOf i).toNat)
  case atStart => exact ⟨0, Nat.zero_le _, rfl, rfl, rfl, rfl, G.rf _⟩
  case round =>
    obtain ⟨k, hk, rfl, rfl, rfl, rfl, hGk⟩ := hrel
    obtain ⟨wk, rfl⟩ : ∃ wk, wk = wr := ⟨_, rfl⟩
    by_cases hlt : k < RR.length
    · have hki : (k : Int) < RR.length := by omega
      have HS1 := Lib.hid (HANY.out 1 k (by rw [HCl.out]; exact hlt))
      have HS2 := Lib.hid (HANY.out 2 k (by rw [HCl.out]; exact hlt))
      have HS3 := Lib.hid (HANY.out 3 k (by rw [HCl.out]; exact hlt))
      obtain ⟨p0, h0, p1, h1, p2, h2, er, ec⟩ := HROW.out k hlt
      obtain ⟨ra, rc, hcr, hsr⟩ := HTA.out k hlt
      rw [er] at hcr hsr
      rcases hsr with ⟨_, _, h⟩ | ⟨gj, rfl, hgj, hpj⟩
      · simp at h
      have gk := g0.t hGk
      have HSQX := Lib.hid (fun (W : World) (hW : G w W) (x y : Nat) (hxy : (x, y) ∈ allP cols east.length) => HSQ.out W hW p0 (x, y) h0 hxy)
      obtain ⟨p00, p01⟩ := p0
      obtain ⟨p10, p11⟩ := p1
      obtain ⟨p20, p21⟩ := p2
      have lj := Nat.lt_of_lt_of_le hgj hGk.size
      have pj := hpj.keep hgj hGk
      have c0 := GW.cell (((bcellB hGk).1 gR _ hgR).trans hcr) (Nat.lt_of_lt_of_le hgR hGk.size)
      have d0 := GW.cell (show wk.cell? ⟨gj, 0, none⟩ = some (.int .i64 (p00 : Nat)) from (pj 0 (by simp)).1) lj
      have d1 := GW.cell (show wk.cell? ⟨gj, 1, none⟩ = some (.int .i64 (p01 : Nat)) from (pj 0 (by simp)).2) lj
      have d2 := GW.cell (show wk.cell? ⟨gj, 2, none⟩ = some (.int .i64 (p10 : Nat)) from (pj 1 (by simp)).1) lj
      have d3 := GW.cell (show wk.cell? ⟨gj, 3, none⟩ = some (.int .i64 (p11 : Nat)) from (pj 1 (by simp)).2) lj
      have d4 := GW.cell (show wk.cell? ⟨gj, 4, none⟩ = some (.int .i64 (p20 : Nat)) from (pj 2 (by simp)).1) lj
      have d5 := GW.cell (show wk.cell? ⟨gj, 5, none⟩ = some (.int .i64 (p21 : Nat)) from (pj 2 (by simp)).2) lj
      have bk := b0.keep hGk
      have m0 := bk.gw 0 rfl
      have m1 := bk.gw 1 rfl
      have m2 := bk.gw 2 rfl
      have m3 := bk.gw 3 rfl
      have m4 := bk.gw 4 rfl
      have m5 := bk.gw 5 rfl
      have lk := bk.lt
      simp only at ec
      rw [ec] at HS1 HS2 HS3
      have hcc := cmpI_cases (sqI north east p00 p01 p10 p11) (sqI north east p00 p01 p20 p21)
      have hcl := cmpI_val (sqI north east p00 p01 p10 p11) (sqI north east p00 p01 p20 p21)
      clear er ec hcr pj hpj h0 HSQ HROW HANY HTA
      simp only at HSQX
      have HS1H := Lib.hid HS1.out
      have HS2H := Lib.hid HS2.out
      have HS3H := Lib.hid HS3.out
      have HCC := Lib.hid hcc
      have HCL2 := Lib.hid hcl
      clear HS1 HS2 HS3 hcc hcl
      go_wp2
      refine wp_region_quiet_G (by kernel_rfl) (by kernel_rfl) ?_
      repeat (quiet_step (first | (go_at_call 18; exact Calls.gq (HSQX.out _ (gk.t (GW.g _)) _ _ (by assumption)))))
      refine wpQuiet_nil ?_
      intro _ hw'
      obtain ⟨y, rfl⟩ := hw'
      clear c0 d0 d1 d2 d3 d4 d5 m0 m1 m2 m3 m4 m5
      have gz := hGk.t y.g
      generalize y.w = wz at *
      clear y HSQX h1 h2
      have HS1 := HS1H
      have HS2 := HS2H
      have HS3 := HS3H
      have hcc := HCC.out
      have hcl := HCL2.out
      clear HS1H HS2H HS3H HCC HCL2
      generalize sqI north east p00 p01 p10 p11 = u at *
      generalize sqI north east p00 p01 p20 p21 = v at *
      generalize cmpI u v = cv at *
      generalize (CV.take k).any (· == 1) = A at *
      generalize (CV.take k).any (· == 2) = B at *
      generalize (CV.take k).any (· == 3) = C at *
      rcases hcc with rfl | rfl | rfl
      · have hu : u < v := hcl.1.1 rfl
        have hu1 : ¬ v < u := by omega
        have hu2 : (u == v) = false := by simp; omega
        clear hcl
        cases A <;> cases B <;> cases C
        all_goals
          go_wp2
          go_roundw
          case rel => exact ⟨k + 1, by omega, by go_num, by rw [HS1.out]; rfl, by rw [HS2.out]; rfl, by rw [HS3.out]; rfl, gz⟩
          case measure => simp [intOf]; omega
      · have hu : v < u := hcl.2.1.1 rfl
        have hu1 : ¬ u < v := by omega
        have hu2 : (u == v) = false := by simp; omega
        clear hcl
        cases A <;> cases B <;> cases C
        all_goals
          go_wp2
          go_roundw
          case rel => exact ⟨k + 1, by omega, by go_num, by rw [HS1.out]; rfl, by rw [HS2.out]; rfl, by rw [HS3.out]; rfl, gz⟩
          case measure => simp [intOf]; omega
      · have hu : u = v := hcl.2.2.1 rfl
        subst hu
        have hu1 : ¬ u < u := by omega
        have hu2 : (u == u) = true := by simp
        clear hcl
        cases A <;> cases B <;> cases C
        all_goals
          go_wp2
          go_roundw
          case rel => exact ⟨k + 1, by omega, by go_num, by rw [HS1.out]; rfl, by rw [HS2.out]; rfl, by rw [HS3.out]; rfl, gz⟩
          case measure => simp [intOf]; omega
    · have hki : ¬ (k : Int) < RR.length := by omega
      have hT : CV.take k = CV := List.take_of_length_le (by rw [HCl.out]; omega)
      rw [hT]
      clear hT
      have gk := g0.t hGk
      generalize CV.any (· == 1) = A at *
      generalize CV.any (· == 2) = B at *
      generalize CV.any (· == 3) = C at *
      cases A <;> cases B <;> cases C
      all_goals
        go_wp2
        go_ret2
        exact ⟨by rw [HV.out]; rfl, gk⟩
end
end Go.Proofs.Ytpjfdfddcnocpaa
