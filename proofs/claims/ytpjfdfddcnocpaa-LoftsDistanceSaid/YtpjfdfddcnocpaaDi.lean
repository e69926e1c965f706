import Derived.Test.YtpjfdfddcnocpaaDh
import Derived.Test.YtpjfdfddcnocpaaUg
import Derived.Test.YtpjfdfddcnocpaaJb
set_option linter.unusedSimpArgs false
set_option linter.unusedVariables false
namespace Go.Proofs.Ytpjfdfddcnocpaa
open Go.RowKit
attribute [local go_sem] Oper.semAt_some

section
open Go.ChangeShapes Go.WideShapes Go.ChangeAt
variable {H : Type} {enc : TypeId × Value → H} {w : World}
theorem map_nilE3 {v0 v1 v3 v4 v5 : Value} {ea : Option Addr} {k ec : Nat} {d : DataW H} {p : List MemPlace} (h : DataW.Trod enc Try.prog w 0 (fun _ => true) true 25 (.agg #[v0, v1, .slice ea k ec, v3, v4, v5]) d p) : ea = none → ec = 0 := by
  obtain ⟨fuel, hf0⟩ := h
  obtain ⟨xs, n, _, _, hl, hlen, hf⟩ := DataW.trod_struct Try.underlying25 hf0
  match xs, hlen with
  | [y0, y1, y2, y3, y4, y5], _ =>
    have h4 := hf 2 _ rfl
    simp [k22, Value.cells] at h4
    rcases Deep.open_slice Try.underlying22 h4 with ⟨e, _⟩ | ⟨a, len, cap, m, n, D, Pl, e, _⟩
    · simp at e
      exact fun _ => e.2.2
    · simp at e
      intro hs
      rw [hs] at e
      simp at e
end
section
variable (north cols lofts wrong o a b : Int) (east : List Int) (svs : List Sv)
/-- Nearer of the program and of the reference: one answer -/
theorem nearers (hl : east.length ≤ 9223372036854775807) (hl2 : svs.length ≤ 9223372036854775807) : ∃ X E : Int,
    (∀ (W : World) (ea sa : Option Addr) (ec sc : Nat), IntsAt W ea east → SvsAt W sa svs → Calls Try.prog 25 #[.agg #[.int .i64 north, .int .i64 cols, .slice ea east.length ec, .int .i64 lofts, .slice sa svs.length sc, .int .i64 wrong], .int .i64 o, .int .i64 a, .int .i64 b] W fun e w' => e = .returned (.tuple #[.int .i64 X, .int .i64 E]) ∧ G W w') ∧
    (∀ (W : World) (ea sa : Option Addr) (ec sc : Nat), IntsAt W ea east → SvsAt W sa svs → Calls Try.prog 45 #[.agg #[.int .i64 north, .int .i64 cols, .slice ea east.length ec, .int .i64 lofts, .slice sa svs.length sc, .int .i64 wrong], .int .i64 o, .int .i64 a, .int .i64 b] W fun e w' => e = .returned (.tuple #[.int .i64 X, .int .i64 E]) ∧ G W w') := by
  by_cases hq : qE north cols lofts wrong east svs true [o, a, b] = 0
  · obtain ⟨hk, _, hls, hw⟩ := qE_zero north cols lofts wrong east svs hq
    have hvb := vm_bounds (checkE_ok hk)
    have ho := hls o (by simp)
    have ha := hls a (by simp)
    have hb := hls b (by simp)
    obtain ⟨cn, rfl⟩ := Int.eq_ofNat_of_zero_le (show 0 ≤ cols by omega)
    obtain ⟨ln, rfl⟩ := Int.eq_ofNat_of_zero_le (show 0 ≤ lofts by omega)
    obtain ⟨on, rfl⟩ := Int.eq_ofNat_of_zero_le ho.1
    obtain ⟨an, rfl⟩ := Int.eq_ofNat_of_zero_le ha.1
    obtain ⟨bn, rfl⟩ := Int.eq_ofNat_of_zero_le hb.1
    exact ⟨_, _, fun W ea sa ec sc he hs => Nearer_ok north wrong cn ln on an bn east svs ea sa ec sc W he hs hk (by omega) (by omega) (by omega) hw (truths_len3 (by simp) (by omega) (by omega)),
      fun W ea sa ec sc he hs => rNearer_ok north wrong cn ln on an bn east svs ea sa ec sc W he hs hk (by omega) (by omega) (by omega) hw⟩
  · exact ⟨_, _, fun W ea sa ec sc he hs => Nearer_err north cols lofts wrong o a b east svs ea sa ec sc W he hs hl hl2 hq,
      fun W ea sa ec sc he hs => rNearer_err north cols lofts wrong o a b east svs ea sa ec sc W he hs hl hl2 (fun hk => (vm_bounds (checkE_ok hk)).2.1) hq⟩
end
section
variable (north cols lofts wrong o a b r rc px py qx qy : Int) (east : List Int) (svs : List Sv) (ea sa : Option Addr) (ec sc : Nat) (w : World)
abbrev LawDGoal : Prop := Calls Try.prog 12 #[.agg #[.int .i64 north, .int .i64 cols, .slice ea east.length ec, .int .i64 lofts, .slice sa svs.length sc, .int .i64 wrong], .agg #[.int .i64 o, .int .i64 a, .int .i64 b, .int .i64 r, .int .i64 rc, .int .i64 px, .int .i64 py, .int .i64 qx, .int .i64 qy]] w fun e w' => e = .returned (.bool true) ∧ G w w'
set_option maxRecDepth 100000 in
set_option maxHeartbeats 4000000 in
theorem lawD_far (he : IntsAt w ea east) (hs : SvsAt w sa svs) (hl : east.length ≤ 9223372036854775807) (hl2 : svs.length ≤ 9223372036854775807) (hf : farB north cols east lofts svs wrong = true) : LawDGoal north cols lofts wrong o a b r rc px py qx qy east svs ea sa ec sc w := by
  obtain ⟨g0, b0, b1⟩ := w2_spec w #[.int .i64 north, .int .i64 cols, .slice ea east.length ec, .int .i64 lofts, .slice sa svs.length sc, .int .i64 wrong] #[.int .i64 o, .int .i64 a, .int .i64 b, .int .i64 r, .int .i64 rc, .int .i64 px, .int .i64 py, .int .i64 qx, .int .i64 qy] 25 38
  have hF := fun (W : World) (hW : G w W) => Far_any north cols lofts wrong east svs ea sa ec sc W (he.below hW) (hs.below hW) hl hl2
  rw [hf] at hF
  have HF := Lib.hid hF
  clear hF
  unfold LawDGoal
  go_enter Try.func12, Try.ntmps12
  go_wp2_with (first | (go_at_call 33; refine (HF.out _ g0).mono ?_; rintro e w1 ⟨rfl, hG1⟩; replace b0 := b0.keep hG1; replace b1 := b1.keep hG1; replace g0 := g0.t hG1; clear hG1; have m0 := b0.cell 0; have m1 := b0.cell 1; have m2 := b0.cell 2; have m3 := b0.cell 3; have m4 := b0.cell 4; have m5 := b0.cell 5; have a0 := b1.cell 0; have a1 := b1.cell 1; have a2 := b1.cell 2; have a3 := b1.cell 3; have a4 := b1.cell 4; have lM := b0.lt; have lA := b1.lt) | (go_at_call 16; refine (works_any _).mono ?_; rintro e w2 ⟨rfl, hG2⟩))
  go_ret
  exact ⟨rfl, g0.t hG2⟩
set_option maxRecDepth 100000 in
set_option maxHeartbeats 4000000 in
theorem lawD_near (he : IntsAt w ea east) (hs : SvsAt w sa svs) (hl : east.length ≤ 100) (hl2 : svs.length ≤ 100) (hn : sa = none → sc = 0) (hne : ea = none → ec = 0) (hf : farB north cols east lofts svs wrong = false) : LawDGoal north cols lofts wrong o a b r rc px py qx qy east svs ea sa ec sc w := by
  obtain ⟨g0, b0, b1⟩ := w2_spec w #[.int .i64 north, .int .i64 cols, .slice ea east.length ec, .int .i64 lofts, .slice sa svs.length sc, .int .i64 wrong] #[.int .i64 o, .int .i64 a, .int .i64 b, .int .i64 r, .int .i64 rc, .int .i64 px, .int .i64 py, .int .i64 qx, .int .i64 qy] 25 38
  have hF := fun (W : World) (hW : G w W) => Far_any north cols lofts wrong east svs ea sa ec sc W (he.below hW) (hs.below hW) (by omega) (by omega)
  rw [hf] at hF
  have HF := Lib.hid hF
  have HCp := Lib.hid (fun (W : World) (hW : G w W) => Copy_all north cols lofts wrong east svs ea sa ec sc W (he.below hW) (hs.below hW) hl hl2 hn hne)
  have hl' : east.length ≤ 9223372036854775807 := by omega
  have hl2' : svs.length ≤ 9223372036854775807 := by omega
  have hD := fun (W : World) (ea sa : Option Addr) (ec sc : Nat) (he : IntsAt W ea east) (hs : SvsAt W sa svs) => Distance_any north cols lofts wrong east svs ea sa ec sc a b r W he hs hl' hl2'
  have hDr := fun (W : World) (ea sa : Option Addr) (ec sc : Nat) (he : IntsAt W ea east) (hs : SvsAt W sa svs) => rDist_any north cols lofts wrong east svs ea sa ec sc a b r W he hs hl' hl2'
  obtain ⟨x, y, z, hv1⟩ := dstV_open north cols lofts wrong east svs a b r
  rw [hv1] at hD hDr
  clear hv1
  obtain ⟨X1, E1, hN, hNr⟩ := nearers north cols lofts wrong o a b east svs hl' hl2'
  obtain ⟨EW, LA, LB, hlA, hlB, hW, hWr⟩ := withins north cols lofts wrong o rc east svs
  unfold LwP at hW hWr
  have HE := Lib.hid (fun (W : World) (hW : G w W) => he.below hW)
  have HSV := Lib.hid (fun (W : World) (hW : G w W) => hs.below hW)
  have HD := Lib.hid hD
  have HDr := Lib.hid hDr
  have HN := Lib.hid hN
  have HNr := Lib.hid hNr
  have HWi := Lib.hid (fun (W : World) (ea sa : Option Addr) (ec sc : Nat) (he : IntsAt W ea east) (hs : SvsAt W sa svs) => hW W ea sa ec sc he hs hl hl2)
  have HWr := Lib.hid (fun (W : World) (ea sa : Option Addr) (ec sc : Nat) (he : IntsAt W ea east) (hs : SvsAt W sa svs) => hWr W ea sa ec sc he hs hl hl2)
  have HlA := Lib.hid hlA
  have HlB := Lib.hid hlB
  have q1 : (z == z) = true := by simp
  have q2 : (X1 == X1) = true := by simp
  have q3 : (E1 == E1) = true := by simp
  have q4 : (EW == EW) = true := by simp
  have q5 := eq46 x y x y
  have q6 : ((x == x) && (y == y)) = true := by simp
  rw [q6] at q5
  clear hF hD hDr hN hNr hW hWr hlA hlB hl hl2 hl' hl2' hf hn hne he hs q6
  unfold LawDGoal
  go_enter Try.func12, Try.ntmps12
  go_wp2_with (first | (go_at_call 33; refine (HF.out _ g0).mono ?_; rintro e w1 ⟨rfl, hG1⟩; replace b0 := b0.keep hG1; replace b1 := b1.keep hG1; replace g0 := g0.t hG1; clear hG1; have m0 := b0.cell 0; have m1 := b0.cell 1; have m2 := b0.cell 2; have m3 := b0.cell 3; have m4 := b0.cell 4; have m5 := b0.cell 5; have a0 := b1.cell 0; have a1 := b1.cell 1; have a2 := b1.cell 2; have a3 := b1.cell 3; have a4 := b1.cell 4; have lM := b0.lt; have lA := b1.lt) | (go_at_call 28; refine (HCp.out _ g0).mono ?_; rintro e w2 ⟨gE, capE, curE, gS, capS, curS, rfl, h1, h2, h3, hG1, h5, h6⟩; have hE := east_at h2 h3; have hS := OwnSv.at h6; clear h1 h2 h3 h5 h6; clear m0 m1 m2 m3 m4 m5 a0 a1 a2 a3 a4 lM lA; replace b0 := b0.keep hG1; replace b1 := b1.keep hG1; replace g0 := g0.t hG1; clear hG1; have m0 := b0.cell 0; have m1 := b0.cell 1; have m2 := b0.cell 2; have m3 := b0.cell 3; have m4 := b0.cell 4; have m5 := b0.cell 5; have a0 := b1.cell 0; have a1 := b1.cell 1; have a2 := b1.cell 2; have a3 := b1.cell 3; have a4 := b1.cell 4; have lM := b0.lt; have lA := b1.lt))
  clear m0 m1 m2 m3 m4 m5 a0 a1 a2 a3 a4 lM lA
  obtain ⟨N, hN⟩ : ∃ N, N = w2.heap.size := ⟨_, rfl⟩
  rw [← hN]
  replace b0 := b0.alloc (.cells #[.int .i64 north, .int .i64 cols, .slice (some ⟨gE, 0, none⟩) east.length capE, .int .i64 lofts, .slice (some ⟨gS, 0, none⟩) svs.length capS, .int .i64 wrong] 25)
  replace b1 := b1.alloc (.cells #[.int .i64 north, .int .i64 cols, .slice (some ⟨gE, 0, none⟩) east.length capE, .int .i64 lofts, .slice (some ⟨gS, 0, none⟩) svs.length capS, .int .i64 wrong] 25)
  have bO : Blk (w2.alloc (.cells #[.int .i64 north, .int .i64 cols, .slice (some ⟨gE, 0, none⟩) east.length capE, .int .i64 lofts, .slice (some ⟨gS, 0, none⟩) svs.length capS, .int .i64 wrong] 25)) N 25 _ := Blk.newAt hN.symm _ _
  replace g0 := g0.a (.cells #[.int .i64 north, .int .i64 cols, .slice (some ⟨gE, 0, none⟩) east.length capE, .int .i64 lofts, .slice (some ⟨gS, 0, none⟩) svs.length capS, .int .i64 wrong] 25)
  have hE5 := hE.below ((G.rf w2).a (.cells #[.int .i64 north, .int .i64 cols, .slice (some ⟨gE, 0, none⟩) east.length capE, .int .i64 lofts, .slice (some ⟨gS, 0, none⟩) svs.length capS, .int .i64 wrong] 25))
  have hS5 := hS.below ((G.rf w2).a (.cells #[.int .i64 north, .int .i64 cols, .slice (some ⟨gE, 0, none⟩) east.length capE, .int .i64 lofts, .slice (some ⟨gS, 0, none⟩) svs.length capS, .int .i64 wrong] 25))
  clear hE hS hN
  generalize w2.alloc (.cells #[.int .i64 north, .int .i64 cols, .slice (some ⟨gE, 0, none⟩) east.length capE, .int .i64 lofts, .slice (some ⟨gS, 0, none⟩) svs.length capS, .int .i64 wrong] 25) = W5 at *
  have HEo := Lib.hid (fun (W : World) (hW : G W5 W) => hE5.below hW)
  have HSo := Lib.hid (fun (W : World) (hW : G W5 W) => hS5.below hW)
  clear hE5 hS5
  have go : G W5 W5 := G.rf _
  refine (HD.out _ _ _ _ _ (HEo.out _ go) (HSo.out _ go)).mono ?_
  rintro e w3 ⟨rfl, hG1⟩
  replace b0 := b0.keep hG1; replace b1 := b1.keep hG1; replace bO := bO.keep hG1; replace g0 := g0.t hG1; replace go := go.t hG1; clear hG1
  have m0 := b0.cell 0; have m1 := b0.cell 1; have m2 := b0.cell 2; have m3 := b0.cell 3; have m4 := b0.cell 4; have m5 := b0.cell 5; have a0 := b1.cell 0; have a1 := b1.cell 1; have a2 := b1.cell 2; have a3 := b1.cell 3; have a4 := b1.cell 4; have lM := b0.lt; have lA := b1.lt; have o0 := bO.cell 0; have o1 := bO.cell 1; have o2 := bO.cell 2; have o3 := bO.cell 3; have o4 := bO.cell 4; have o5 := bO.cell 5; have lO := bO.lt
  go_wp2_with fail
  clear m0 m1 m2 m3 m4 m5 a0 a1 a2 a3 a4 lM lA o0 o1 o2 o3 o4 o5 lO
  obtain ⟨N6, hN6⟩ : ∃ N6, N6 = w3.heap.size := ⟨_, rfl⟩
  rw [← hN6]
  have b6 : Blk (w3.alloc (.cells #[.int .i64 x, .int .i64 y] 46)) N6 46 _ := Blk.newAt hN6.symm _ _
  have hG1 : G w3 (w3.alloc (.cells #[.int .i64 x, .int .i64 y] 46)) := (G.rf _).a _
  replace b0 := b0.keep hG1; replace b1 := b1.keep hG1; replace bO := bO.keep hG1; replace g0 := g0.t hG1; replace go := go.t hG1; clear hG1
  clear hN6
  generalize w3.alloc (.cells #[.int .i64 x, .int .i64 y] 46) = W6 at *
  refine (HDr.out _ _ _ _ _ (HE.out _ g0) (HSV.out _ g0)).mono ?_
  rintro e w4 ⟨rfl, hG1⟩
  replace b6 := b6.keep hG1; replace b0 := b0.keep hG1; replace b1 := b1.keep hG1; replace bO := bO.keep hG1; replace g0 := g0.t hG1; replace go := go.t hG1; clear hG1
  have m0 := b0.cell 0; have m1 := b0.cell 1; have m2 := b0.cell 2; have m3 := b0.cell 3; have m4 := b0.cell 4; have m5 := b0.cell 5; have a0 := b1.cell 0; have a1 := b1.cell 1; have a2 := b1.cell 2; have a3 := b1.cell 3; have a4 := b1.cell 4; have lM := b0.lt; have lA := b1.lt; have o0 := bO.cell 0; have o1 := bO.cell 1; have o2 := bO.cell 2; have o3 := bO.cell 3; have o4 := bO.cell 4; have o5 := bO.cell 5; have lO := bO.lt
  go_wp2_with fail
  clear m0 m1 m2 m3 m4 m5 a0 a1 a2 a3 a4 lM lA o0 o1 o2 o3 o4 o5 lO
  obtain ⟨N8, hN8⟩ : ∃ N8, N8 = w4.heap.size := ⟨_, rfl⟩
  rw [← hN8]
  have b8 : Blk (w4.alloc (.cells #[.int .i64 x, .int .i64 y] 46)) N8 46 _ := Blk.newAt hN8.symm _ _
  have hG1 : G w4 (w4.alloc (.cells #[.int .i64 x, .int .i64 y] 46)) := (G.rf _).a _
  replace b6 := b6.keep hG1; replace b0 := b0.keep hG1; replace b1 := b1.keep hG1; replace bO := bO.keep hG1; replace g0 := g0.t hG1; replace go := go.t hG1; clear hG1
  clear hN8
  generalize w4.alloc (.cells #[.int .i64 x, .int .i64 y] 46) = W8 at *
  refine (HN.out _ _ _ _ _ (HEo.out _ go) (HSo.out _ go)).mono ?_
  rintro e w5 ⟨rfl, hG1⟩
  replace b8 := b8.keep hG1; replace b6 := b6.keep hG1; replace b0 := b0.keep hG1; replace b1 := b1.keep hG1; replace bO := bO.keep hG1; replace g0 := g0.t hG1; replace go := go.t hG1; clear hG1
  have m0 := b0.cell 0; have m1 := b0.cell 1; have m2 := b0.cell 2; have m3 := b0.cell 3; have m4 := b0.cell 4; have m5 := b0.cell 5; have a0 := b1.cell 0; have a1 := b1.cell 1; have a2 := b1.cell 2; have a3 := b1.cell 3; have a4 := b1.cell 4; have lM := b0.lt; have lA := b1.lt; have o0 := bO.cell 0; have o1 := bO.cell 1; have o2 := bO.cell 2; have o3 := bO.cell 3; have o4 := bO.cell 4; have o5 := bO.cell 5; have lO := bO.lt; have u0 := b6.cell 0; have u1 := b6.cell 1; have v0 := b8.cell 0; have v1 := b8.cell 1; have l6 := b6.lt; have l8 := b8.lt
  go_wp2_with (first | (go_at_call 45; refine (HNr.out _ _ _ _ _ (HE.out _ g0) (HSV.out _ g0)).mono ?_; rintro e w6 ⟨rfl, hG1⟩; clear m0 m1 m2 m3 m4 m5 a0 a1 a2 a3 a4 lM lA o0 o1 o2 o3 o4 o5 lO u0 u1 v0 v1 l6 l8; replace b8 := b8.keep hG1; replace b6 := b6.keep hG1; replace b0 := b0.keep hG1; replace b1 := b1.keep hG1; replace bO := bO.keep hG1; replace g0 := g0.t hG1; replace go := go.t hG1; clear hG1; have m0 := b0.cell 0; have m1 := b0.cell 1; have m2 := b0.cell 2; have m3 := b0.cell 3; have m4 := b0.cell 4; have m5 := b0.cell 5; have a0 := b1.cell 0; have a1 := b1.cell 1; have a2 := b1.cell 2; have a3 := b1.cell 3; have a4 := b1.cell 4; have lM := b0.lt; have lA := b1.lt; have o0 := bO.cell 0; have o1 := bO.cell 1; have o2 := bO.cell 2; have o3 := bO.cell 3; have o4 := bO.cell 4; have o5 := bO.cell 5; have lO := bO.lt; have u0 := b6.cell 0; have u1 := b6.cell 1; have v0 := b8.cell 0; have v1 := b8.cell 1; have l6 := b6.lt; have l8 := b8.lt) | (go_at_call 26; refine (HWi.out _ _ _ _ _ (HEo.out _ go) (HSo.out _ go)).mono ?_; rintro e w7 ⟨aA, aB, cA, cB, rfl, hIA, hIB, hG1⟩; have HI1 := Lib.hid hIA; have HI2 := Lib.hid hIB; clear hIA hIB; clear m0 m1 m2 m3 m4 m5 a0 a1 a2 a3 a4 lM lA o0 o1 o2 o3 o4 o5 lO u0 u1 v0 v1 l6 l8; replace b8 := b8.keep hG1; replace b6 := b6.keep hG1; replace b0 := b0.keep hG1; replace b1 := b1.keep hG1; replace bO := bO.keep hG1; replace g0 := g0.t hG1; replace go := go.t hG1; clear hG1; have m0 := b0.cell 0; have m1 := b0.cell 1; have m2 := b0.cell 2; have m3 := b0.cell 3; have m4 := b0.cell 4; have m5 := b0.cell 5; have a0 := b1.cell 0; have a1 := b1.cell 1; have a2 := b1.cell 2; have a3 := b1.cell 3; have a4 := b1.cell 4; have lM := b0.lt; have lA := b1.lt; have o0 := bO.cell 0; have o1 := bO.cell 1; have o2 := bO.cell 2; have o3 := bO.cell 3; have o4 := bO.cell 4; have o5 := bO.cell 5; have lO := bO.lt; have u0 := b6.cell 0; have u1 := b6.cell 1; have v0 := b8.cell 0; have v1 := b8.cell 1; have l6 := b6.lt; have l8 := b8.lt) | (go_at_call 46; refine (HWr.out _ _ _ _ _ (HE.out _ g0) (HSV.out _ g0)).mono ?_; rintro e w8 ⟨aC, aD, cC, cD, rfl, hIA, hIB, hG1⟩; replace HI1 := Lib.hid (IntsAt.below HI1.out hG1); replace HI2 := Lib.hid (IntsAt.below HI2.out hG1); have HI3 := Lib.hid hIA; have HI4 := Lib.hid hIB; clear hIA hIB; clear m0 m1 m2 m3 m4 m5 a0 a1 a2 a3 a4 lM lA o0 o1 o2 o3 o4 o5 lO u0 u1 v0 v1 l6 l8; replace b8 := b8.keep hG1; replace b6 := b6.keep hG1; replace b0 := b0.keep hG1; replace b1 := b1.keep hG1; replace bO := bO.keep hG1; replace g0 := g0.t hG1; replace go := go.t hG1; clear hG1; have m0 := b0.cell 0; have m1 := b0.cell 1; have m2 := b0.cell 2; have m3 := b0.cell 3; have m4 := b0.cell 4; have m5 := b0.cell 5; have a0 := b1.cell 0; have a1 := b1.cell 1; have a2 := b1.cell 2; have a3 := b1.cell 3; have a4 := b1.cell 4; have lM := b0.lt; have lA := b1.lt; have o0 := bO.cell 0; have o1 := bO.cell 1; have o2 := bO.cell 2; have o3 := bO.cell 3; have o4 := bO.cell 4; have o5 := bO.cell 5; have lO := bO.lt; have u0 := b6.cell 0; have u1 := b6.cell 1; have v0 := b8.cell 0; have v1 := b8.cell 1; have l6 := b6.lt; have l8 := b8.lt) | (go_at_call 41; refine (sameInts_eq _ _ LA _ _ _ HI1.out HI3.out HlA.out).mono ?_; rintro e w9 ⟨rfl, hG1⟩; clear HI1 HI3; replace HI2 := Lib.hid (IntsAt.below HI2.out hG1); replace HI4 := Lib.hid (IntsAt.below HI4.out hG1); clear m0 m1 m2 m3 m4 m5 a0 a1 a2 a3 a4 lM lA o0 o1 o2 o3 o4 o5 lO u0 u1 v0 v1 l6 l8; replace b8 := b8.keep hG1; replace b6 := b6.keep hG1; replace b0 := b0.keep hG1; replace b1 := b1.keep hG1; replace bO := bO.keep hG1; replace g0 := g0.t hG1; replace go := go.t hG1; clear hG1; have m0 := b0.cell 0; have m1 := b0.cell 1; have m2 := b0.cell 2; have m3 := b0.cell 3; have m4 := b0.cell 4; have m5 := b0.cell 5; have a0 := b1.cell 0; have a1 := b1.cell 1; have a2 := b1.cell 2; have a3 := b1.cell 3; have a4 := b1.cell 4; have lM := b0.lt; have lA := b1.lt; have o0 := bO.cell 0; have o1 := bO.cell 1; have o2 := bO.cell 2; have o3 := bO.cell 3; have o4 := bO.cell 4; have o5 := bO.cell 5; have lO := bO.lt; have u0 := b6.cell 0; have u1 := b6.cell 1; have v0 := b8.cell 0; have v1 := b8.cell 1; have l6 := b6.lt; have l8 := b8.lt) | (go_at_call 41; refine (sameInts_eq _ _ LB _ _ _ HI2.out HI4.out HlB.out).mono ?_; rintro e w10 ⟨rfl, hG1⟩; clear HI2 HI4; clear m0 m1 m2 m3 m4 m5 a0 a1 a2 a3 a4 lM lA o0 o1 o2 o3 o4 o5 lO u0 u1 v0 v1 l6 l8; replace b8 := b8.keep hG1; replace b6 := b6.keep hG1; replace b0 := b0.keep hG1; replace b1 := b1.keep hG1; replace bO := bO.keep hG1; replace g0 := g0.t hG1; replace go := go.t hG1; clear hG1) | (go_at_call 16; refine (works_any _).mono ?_; rintro e w2 ⟨rfl, hG2⟩))
  go_ret
  exact ⟨rfl, g0.t hG2⟩
end
theorem Distance_law (north cols lofts wrong o a b r rc px py qx qy : Int) (east : List Int) (svs : List Sv) (ea sa : Option Addr) (ec sc : Nat) (w : World) (he : IntsAt w ea east) (hs : SvsAt w sa svs) (hn : sa = none → sc = 0) (hne : ea = none → ec = 0) (hl : east.length ≤ 9223372036854775807) (hl2 : svs.length ≤ 9223372036854775807) :
    LawDGoal north cols lofts wrong o a b r rc px py qx qy east svs ea sa ec sc w := by
  cases hf : farB north cols east lofts svs wrong
  · have hle : east.length ≤ 100 ∧ svs.length ≤ 100 := by
      unfold farB at hf
      by_cases h1 : 40 < east.length
      · rw [if_pos h1] at hf; simp at hf
      · rw [if_neg h1] at hf
        by_cases h2 : 60 < svs.length
        · rw [if_pos h2] at hf; simp at hf
        · omega
    exact lawD_near north cols lofts wrong o a b r rc px py qx qy east svs ea sa ec sc w he hs hle.1 hle.2 hn hne hf
  · exact lawD_far north cols lofts wrong o a b r rc px py qx qy east svs ea sa ec sc w he hs hl hl2 hf
end Go.Proofs.Ytpjfdfddcnocpaa
