import Derived.Test.YtpjfdfddcnocpaaUo
import Derived.Test.YtpjfdfddcnocpaaJb
set_option linter.unusedSimpArgs false
set_option linter.unusedVariables false
namespace Go.Proofs.Ytpjfdfddcnocpaa
open Go.RowKit
attribute [local go_sem] Oper.semAt_some

section
open Go.ChangeShapes Go.WideShapes Go.ChangeAt
variable {H : Type} {enc : TypeId × Value → H} {w : World}
theorem map_nilE2 {v0 v1 v3 v4 v5 : Value} {ea : Option Addr} {k ec : Nat} {d : DataW H} {p : List MemPlace} (h : DataW.Trod enc Try.prog w 0 (fun _ => true) true 25 (.agg #[v0, v1, .slice ea k ec, v3, v4, v5]) d p) : ea = none → ec = 0 := by
  obtain ⟨fuel, hf0⟩ := h
  obtain ⟨xs, n, _, _, hl, hlen, hf⟩ := DataW.trod_struct Try.underlying25 hf0
  match xs, hlen with
  | [y0, y1, y2, y3, y4, y5], _ =>
    have h4 := hf 2 _ rfl
    simp [k22, Value.cells] at h4
    rcases Deep.open_slice Try.underlying22 h4 with ⟨e, _⟩ | ⟨a, len, cap, m, n, D, Pl, e, _⟩
    · simp at e
      exact fun _ => e.2.2
    · simp at e
      intro hs
      rw [hs] at e
      simp at e
end
section
variable (north cols lofts wrong o a b r rc px py qx qy : Int) (east : List Int) (svs : List Sv) (ea sa : Option Addr) (ec sc : Nat) (w : World)
abbrev LawPGoal : Prop := Calls Try.prog 11 #[.agg #[.int .i64 north, .int .i64 cols, .slice ea east.length ec, .int .i64 lofts, .slice sa svs.length sc, .int .i64 wrong], .agg #[.int .i64 o, .int .i64 a, .int .i64 b, .int .i64 r, .int .i64 rc, .int .i64 px, .int .i64 py, .int .i64 qx, .int .i64 qy]] w fun e w' => e = .returned (.bool true) ∧ G w w'
set_option maxRecDepth 100000 in
set_option maxHeartbeats 4000000 in
theorem lawP_far (he : IntsAt w ea east) (hs : SvsAt w sa svs) (hl : east.length ≤ 9223372036854775807) (hl2 : svs.length ≤ 9223372036854775807) (hf : farB north cols east lofts svs wrong = true) : LawPGoal north cols lofts wrong o a b r rc px py qx qy east svs ea sa ec sc w := by
  obtain ⟨g0, b0, b1⟩ := w2_spec w #[.int .i64 north, .int .i64 cols, .slice ea east.length ec, .int .i64 lofts, .slice sa svs.length sc, .int .i64 wrong] #[.int .i64 o, .int .i64 a, .int .i64 b, .int .i64 r, .int .i64 rc, .int .i64 px, .int .i64 py, .int .i64 qx, .int .i64 qy] 25 38
  have hF := fun (W : World) (hW : G w W) => Far_any north cols lofts wrong east svs ea sa ec sc W (he.below hW) (hs.below hW) hl hl2
  rw [hf] at hF
  have HF := Lib.hid hF
  clear hF
  unfold LawPGoal
  go_enter Try.func11, Try.ntmps11
  go_wp2_with (first | (go_at_call 33; refine (HF.out _ g0).mono ?_; rintro e w1 ⟨rfl, hG1⟩; replace b0 := b0.keep hG1; replace b1 := b1.keep hG1; replace g0 := g0.t hG1; clear hG1; have m0 := b0.cell 0; have m1 := b0.cell 1; have m2 := b0.cell 2; have m3 := b0.cell 3; have m4 := b0.cell 4; have m5 := b0.cell 5; have a1 := b1.cell 1; have a3 := b1.cell 3; have a5 := b1.cell 5; have a6 := b1.cell 6; have a7 := b1.cell 7; have a8 := b1.cell 8; have lM := b0.lt; have lA := b1.lt) | (go_at_call 16; refine (works_any _).mono ?_; rintro e w2 ⟨rfl, hG2⟩))
  go_ret
  exact ⟨rfl, g0.t hG2⟩
set_option maxRecDepth 100000 in
set_option maxHeartbeats 4000000 in
theorem lawP_near (he : IntsAt w ea east) (hs : SvsAt w sa svs) (hl : east.length ≤ 100) (hl2 : svs.length ≤ 100) (hn : sa = none → sc = 0) (hne : ea = none → ec = 0) (hf : farB north cols east lofts svs wrong = false) : LawPGoal north cols lofts wrong o a b r rc px py qx qy east svs ea sa ec sc w := by
  obtain ⟨g0, b0, b1⟩ := w2_spec w #[.int .i64 north, .int .i64 cols, .slice ea east.length ec, .int .i64 lofts, .slice sa svs.length sc, .int .i64 wrong] #[.int .i64 o, .int .i64 a, .int .i64 b, .int .i64 r, .int .i64 rc, .int .i64 px, .int .i64 py, .int .i64 qx, .int .i64 qy] 25 38
  have hF := fun (W : World) (hW : G w W) => Far_any north cols lofts wrong east svs ea sa ec sc W (he.below hW) (hs.below hW) (by omega) (by omega)
  rw [hf] at hF
  have HF := Lib.hid hF
  have HCp := Lib.hid (fun (W : World) (hW : G w W) => Copy_all north cols lofts wrong east svs ea sa ec sc W (he.below hW) (hs.below hW) hl hl2 hn hne)
  have hl' : east.length ≤ 9223372036854775807 := by omega
  have hl2' : svs.length ≤ 9223372036854775807 := by omega
  have hK := fun (W : World) (ea sa : Option Addr) (ec sc : Nat) (he : IntsAt W ea east) (hs : SvsAt W sa svs) => Check_any north cols lofts wrong east svs ea sa ec sc W he hs hl' hl2'
  have hKr := fun (W : World) (ea sa : Option Addr) (ec sc : Nat) (he : IntsAt W ea east) (hs : SvsAt W sa svs) => rCheck_any north cols lofts wrong east svs ea sa ec sc W he hs hl' hl2'
  have hL := fun (W : World) (ea sa : Option Addr) (ec sc : Nat) (he : IntsAt W ea east) (hs : SvsAt W sa svs) => Length_any north cols lofts wrong px py qx qy r east svs ea sa ec sc W he hs hl' hl2'
  have hLr := fun (W : World) (ea sa : Option Addr) (ec sc : Nat) (he : IntsAt W ea east) (hs : SvsAt W sa svs) => rLength_any north cols lofts wrong px py qx qy r east svs ea sa ec sc W he hs hl' hl2'
  have hM := fun (W : World) (ea sa : Option Addr) (ec sc : Nat) (he : IntsAt W ea east) (hs : SvsAt W sa svs) => Many_all north cols lofts wrong east svs ea sa ec sc W he hs hl' hl2'
  have hMr := fun (W : World) (ea sa : Option Addr) (ec sc : Nat) (he : IntsAt W ea east) (hs : SvsAt W sa svs) => rMany_any north cols lofts wrong east svs ea sa ec sc W he hs hl' hl2'
  have hW := fun (W : World) (ea sa : Option Addr) (ec sc : Nat) (he : IntsAt W ea east) (hs : SvsAt W sa svs) => Fewest_all north cols lofts wrong east svs ea sa ec sc W he hs hl' hl2'
  have hWr := fun (W : World) (ea sa : Option Addr) (ec sc : Nat) (he : IntsAt W ea east) (hs : SvsAt W sa svs) => rFewest_any north cols lofts wrong east svs ea sa ec sc W he hs hl' hl2'
  obtain ⟨A1, E1, hv1⟩ := lenV_open north cols lofts wrong east svs px py qx qy r
  obtain ⟨A2, E2, hv2⟩ := mnyV_open north cols lofts wrong east svs
  obtain ⟨A3, E3, hv3⟩ := fewV_open north cols lofts wrong east svs
  rw [hv1] at hL hLr
  rw [hv2] at hM hMr
  rw [hv3] at hW hWr
  clear hv1 hv2 hv3
  obtain ⟨EB, LB, hlB, hB, hBr⟩ := blames north cols lofts wrong east svs
  obtain ⟨EP, LP, hlP, hP, hPr⟩ := placesB north cols lofts wrong east svs a
  unfold LiP at hB hBr
  unfold LzP at hP hPr
  generalize checkE north cols east lofts svs wrong = E at hK hKr
  have HE := Lib.hid (fun (W : World) (hW : G w W) => he.below hW)
  have HSV := Lib.hid (fun (W : World) (hW : G w W) => hs.below hW)
  have HK := Lib.hid hK
  have HKr := Lib.hid hKr
  have HL := Lib.hid hL
  have HLr := Lib.hid hLr
  have HM := Lib.hid hM
  have HMr := Lib.hid hMr
  have HW := Lib.hid hW
  have HWr := Lib.hid hWr
  have HB := Lib.hid (fun (W : World) (ea sa : Option Addr) (ec sc : Nat) (he : IntsAt W ea east) (hs : SvsAt W sa svs) => hB W ea sa ec sc he hs hl hl2)
  have HBr := Lib.hid (fun (W : World) (ea sa : Option Addr) (ec sc : Nat) (he : IntsAt W ea east) (hs : SvsAt W sa svs) => hBr W ea sa ec sc he hs hl hl2)
  have HP := Lib.hid (fun (W : World) (ea sa : Option Addr) (ec sc : Nat) (he : IntsAt W ea east) (hs : SvsAt W sa svs) => hP W ea sa ec sc he hs hl hl2)
  have HPr := Lib.hid (fun (W : World) (ea sa : Option Addr) (ec sc : Nat) (he : IntsAt W ea east) (hs : SvsAt W sa svs) => hPr W ea sa ec sc he hs hl hl2)
  have HSm := Lib.hid (fun (ea sa ea' sa' : Option Addr) (ec sc ec' sc' : Nat) (W : World) (he : IntsAt W ea east) (hs : SvsAt W sa svs) (he' : IntsAt W ea' east) (hs' : SvsAt W sa' svs) => same_eq north cols lofts wrong east svs ea sa ea' sa' ec sc ec' sc' W he hs he' hs' (by omega) (by omega))
  have HlB := Lib.hid hlB
  have HlP := Lib.hid hlP
  have q0 : (E == E) = true := by simp
  have q1 : (A1 == A1) = true := by simp
  have q2 : (A2 == A2) = true := by simp
  have q3 : (A3 == A3) = true := by simp
  have p1 : (E1 == E1) = true := by simp
  have p2 : (E2 == E2) = true := by simp
  have p3 : (E3 == E3) = true := by simp
  have p4 : (EB == EB) = true := by simp
  have p5 : (EP == EP) = true := by simp
  clear hF hK hKr hL hLr hM hMr hW hWr hB hBr hP hPr hlB hlP hl hl2 hl' hl2' hf hn hne he hs
  unfold LawPGoal
  go_enter Try.func11, Try.ntmps11
  go_wp2_with (first | (go_at_call 33; refine (HF.out _ g0).mono ?_; rintro e w1 ⟨rfl, hG1⟩; replace b0 := b0.keep hG1; replace b1 := b1.keep hG1; replace g0 := g0.t hG1; clear hG1; have m0 := b0.cell 0; have m1 := b0.cell 1; have m2 := b0.cell 2; have m3 := b0.cell 3; have m4 := b0.cell 4; have m5 := b0.cell 5; have a1 := b1.cell 1; have a3 := b1.cell 3; have a5 := b1.cell 5; have a6 := b1.cell 6; have a7 := b1.cell 7; have a8 := b1.cell 8; have lM := b0.lt; have lA := b1.lt) | (go_at_call 28; refine (HCp.out _ g0).mono ?_; rintro e w2 ⟨gE, capE, curE, gS, capS, curS, rfl, h1, h2, h3, hG1, h5, h6⟩; have hE := east_at h2 h3; have hS := OwnSv.at h6; clear h1 h2 h3 h5 h6; clear m0 m1 m2 m3 m4 m5 a1 a3 a5 a6 a7 a8 lM lA; replace b0 := b0.keep hG1; replace b1 := b1.keep hG1; replace g0 := g0.t hG1; clear hG1))
  obtain ⟨N, hN⟩ : ∃ N, N = w2.heap.size := ⟨_, rfl⟩
  rw [← hN]
  replace b0 := b0.alloc (.cells #[.int .i64 north, .int .i64 cols, .slice (some ⟨gE, 0, none⟩) east.length capE, .int .i64 lofts, .slice (some ⟨gS, 0, none⟩) svs.length capS, .int .i64 wrong] 25)
  replace b1 := b1.alloc (.cells #[.int .i64 north, .int .i64 cols, .slice (some ⟨gE, 0, none⟩) east.length capE, .int .i64 lofts, .slice (some ⟨gS, 0, none⟩) svs.length capS, .int .i64 wrong] 25)
  have bO : Blk (w2.alloc (.cells #[.int .i64 north, .int .i64 cols, .slice (some ⟨gE, 0, none⟩) east.length capE, .int .i64 lofts, .slice (some ⟨gS, 0, none⟩) svs.length capS, .int .i64 wrong] 25)) N 25 _ := Blk.newAt hN.symm _ _
  replace g0 := g0.a (.cells #[.int .i64 north, .int .i64 cols, .slice (some ⟨gE, 0, none⟩) east.length capE, .int .i64 lofts, .slice (some ⟨gS, 0, none⟩) svs.length capS, .int .i64 wrong] 25)
  have hE5 := hE.below ((G.rf w2).a (.cells #[.int .i64 north, .int .i64 cols, .slice (some ⟨gE, 0, none⟩) east.length capE, .int .i64 lofts, .slice (some ⟨gS, 0, none⟩) svs.length capS, .int .i64 wrong] 25))
  have hS5 := hS.below ((G.rf w2).a (.cells #[.int .i64 north, .int .i64 cols, .slice (some ⟨gE, 0, none⟩) east.length capE, .int .i64 lofts, .slice (some ⟨gS, 0, none⟩) svs.length capS, .int .i64 wrong] 25))
  clear hE hS hN
  generalize w2.alloc (.cells #[.int .i64 north, .int .i64 cols, .slice (some ⟨gE, 0, none⟩) east.length capE, .int .i64 lofts, .slice (some ⟨gS, 0, none⟩) svs.length capS, .int .i64 wrong] 25) = W5 at *
  have HEo := Lib.hid (fun (W : World) (hW : G W5 W) => hE5.below hW)
  have HSo := Lib.hid (fun (W : World) (hW : G W5 W) => hS5.below hW)
  clear hE5 hS5
  have m0 := b0.gw 0 rfl
  have m1 := b0.gw 1 rfl
  have m2 := b0.gw 2 rfl
  have m3 := b0.gw 3 rfl
  have m4 := b0.gw 4 rfl
  have m5 := b0.gw 5 rfl
  have o0 := bO.gw 0 rfl
  have o1 := bO.gw 1 rfl
  have o2 := bO.gw 2 rfl
  have o3 := bO.gw 3 rfl
  have o4 := bO.gw 4 rfl
  have o5 := bO.gw 5 rfl
  refine wp_region_quiet_G (by kernel_rfl) (by kernel_rfl) ?_
  repeat (quiet_step (first | (go_at_call 34; exact Calls.gq (HK.out _ _ _ _ _ (HEo.out _ (GW.g _)) (HSo.out _ (GW.g _)))) | (go_at_call 14; exact Calls.gq (HKr.out _ _ _ _ _ (HE.out _ (g0.t (GW.g _))) (HSV.out _ (g0.t (GW.g _)))))))
  refine wpQuiet_nil ?_
  intro _ hw'
  obtain ⟨y, rfl⟩ := hw'
  have hG1 := y.g
  generalize y.w = W6 at *
  clear m0 m1 m2 m3 m4 m5 o0 o1 o2 o3 o4 o5 y
  have go : G W5 W5 := G.rf _
  replace b0 := b0.keep hG1; replace b1 := b1.keep hG1; replace bO := bO.keep hG1; replace g0 := g0.t hG1; replace go := go.t hG1; clear hG1
  have m0 := b0.cell 0; have m1 := b0.cell 1; have m2 := b0.cell 2; have m3 := b0.cell 3; have m4 := b0.cell 4; have m5 := b0.cell 5; have a1 := b1.cell 1; have a3 := b1.cell 3; have a5 := b1.cell 5; have a6 := b1.cell 6; have a7 := b1.cell 7; have a8 := b1.cell 8; have lM := b0.lt; have lA := b1.lt; have o0 := bO.cell 0; have o1 := bO.cell 1; have o2 := bO.cell 2; have o3 := bO.cell 3; have o4 := bO.cell 4; have o5 := bO.cell 5; have lO := bO.lt
  go_wp2_with (first | (go_at_call 17; refine (HL.out _ _ _ _ _ (HEo.out _ go) (HSo.out _ go)).mono ?_; rintro e w1 ⟨rfl, hG1⟩; clear m0 m1 m2 m3 m4 m5 a1 a3 a5 a6 a7 a8 lM lA o0 o1 o2 o3 o4 o5 lO; replace b0 := b0.keep hG1; replace b1 := b1.keep hG1; replace bO := bO.keep hG1; replace g0 := g0.t hG1; replace go := go.t hG1; clear hG1; have m0 := b0.cell 0; have m1 := b0.cell 1; have m2 := b0.cell 2; have m3 := b0.cell 3; have m4 := b0.cell 4; have m5 := b0.cell 5; have a1 := b1.cell 1; have a3 := b1.cell 3; have a5 := b1.cell 5; have a6 := b1.cell 6; have a7 := b1.cell 7; have a8 := b1.cell 8; have lM := b0.lt; have lA := b1.lt; have o0 := bO.cell 0; have o1 := bO.cell 1; have o2 := bO.cell 2; have o3 := bO.cell 3; have o4 := bO.cell 4; have o5 := bO.cell 5; have lO := bO.lt) | (go_at_call 35; refine (HLr.out _ _ _ _ _ (HE.out _ g0) (HSV.out _ g0)).mono ?_; rintro e w1 ⟨rfl, hG1⟩; clear m0 m1 m2 m3 m4 m5 a1 a3 a5 a6 a7 a8 lM lA o0 o1 o2 o3 o4 o5 lO; replace b0 := b0.keep hG1; replace b1 := b1.keep hG1; replace bO := bO.keep hG1; replace g0 := g0.t hG1; replace go := go.t hG1; clear hG1; have m0 := b0.cell 0; have m1 := b0.cell 1; have m2 := b0.cell 2; have m3 := b0.cell 3; have m4 := b0.cell 4; have m5 := b0.cell 5; have a1 := b1.cell 1; have a3 := b1.cell 3; have a5 := b1.cell 5; have a6 := b1.cell 6; have a7 := b1.cell 7; have a8 := b1.cell 8; have lM := b0.lt; have lA := b1.lt; have o0 := bO.cell 0; have o1 := bO.cell 1; have o2 := bO.cell 2; have o3 := bO.cell 3; have o4 := bO.cell 4; have o5 := bO.cell 5; have lO := bO.lt) | (go_at_call 36; refine (HM.out _ _ _ _ _ (HEo.out _ go) (HSo.out _ go)).mono ?_; rintro e w1 ⟨rfl, hG1⟩; clear m0 m1 m2 m3 m4 m5 a1 a3 a5 a6 a7 a8 lM lA o0 o1 o2 o3 o4 o5 lO; replace b0 := b0.keep hG1; replace b1 := b1.keep hG1; replace bO := bO.keep hG1; replace g0 := g0.t hG1; replace go := go.t hG1; clear hG1; have m0 := b0.cell 0; have m1 := b0.cell 1; have m2 := b0.cell 2; have m3 := b0.cell 3; have m4 := b0.cell 4; have m5 := b0.cell 5; have a1 := b1.cell 1; have a3 := b1.cell 3; have a5 := b1.cell 5; have a6 := b1.cell 6; have a7 := b1.cell 7; have a8 := b1.cell 8; have lM := b0.lt; have lA := b1.lt; have o0 := bO.cell 0; have o1 := bO.cell 1; have o2 := bO.cell 2; have o3 := bO.cell 3; have o4 := bO.cell 4; have o5 := bO.cell 5; have lO := bO.lt) | (go_at_call 37; refine (HMr.out _ _ _ _ _ (HE.out _ g0) (HSV.out _ g0)).mono ?_; rintro e w1 ⟨rfl, hG1⟩; clear m0 m1 m2 m3 m4 m5 a1 a3 a5 a6 a7 a8 lM lA o0 o1 o2 o3 o4 o5 lO; replace b0 := b0.keep hG1; replace b1 := b1.keep hG1; replace bO := bO.keep hG1; replace g0 := g0.t hG1; replace go := go.t hG1; clear hG1; have m0 := b0.cell 0; have m1 := b0.cell 1; have m2 := b0.cell 2; have m3 := b0.cell 3; have m4 := b0.cell 4; have m5 := b0.cell 5; have a1 := b1.cell 1; have a3 := b1.cell 3; have a5 := b1.cell 5; have a6 := b1.cell 6; have a7 := b1.cell 7; have a8 := b1.cell 8; have lM := b0.lt; have lA := b1.lt; have o0 := bO.cell 0; have o1 := bO.cell 1; have o2 := bO.cell 2; have o3 := bO.cell 3; have o4 := bO.cell 4; have o5 := bO.cell 5; have lO := bO.lt) | (go_at_call 31; refine (HW.out _ _ _ _ _ (HEo.out _ go) (HSo.out _ go)).mono ?_; rintro e w1 ⟨rfl, hG1⟩; clear m0 m1 m2 m3 m4 m5 a1 a3 a5 a6 a7 a8 lM lA o0 o1 o2 o3 o4 o5 lO; replace b0 := b0.keep hG1; replace b1 := b1.keep hG1; replace bO := bO.keep hG1; replace g0 := g0.t hG1; replace go := go.t hG1; clear hG1; have m0 := b0.cell 0; have m1 := b0.cell 1; have m2 := b0.cell 2; have m3 := b0.cell 3; have m4 := b0.cell 4; have m5 := b0.cell 5; have a1 := b1.cell 1; have a3 := b1.cell 3; have a5 := b1.cell 5; have a6 := b1.cell 6; have a7 := b1.cell 7; have a8 := b1.cell 8; have lM := b0.lt; have lA := b1.lt; have o0 := bO.cell 0; have o1 := bO.cell 1; have o2 := bO.cell 2; have o3 := bO.cell 3; have o4 := bO.cell 4; have o5 := bO.cell 5; have lO := bO.lt) | (go_at_call 38; refine (HWr.out _ _ _ _ _ (HE.out _ g0) (HSV.out _ g0)).mono ?_; rintro e w1 ⟨rfl, hG1⟩; clear m0 m1 m2 m3 m4 m5 a1 a3 a5 a6 a7 a8 lM lA o0 o1 o2 o3 o4 o5 lO; replace b0 := b0.keep hG1; replace b1 := b1.keep hG1; replace bO := bO.keep hG1; replace g0 := g0.t hG1; replace go := go.t hG1; clear hG1; have m0 := b0.cell 0; have m1 := b0.cell 1; have m2 := b0.cell 2; have m3 := b0.cell 3; have m4 := b0.cell 4; have m5 := b0.cell 5; have a1 := b1.cell 1; have a3 := b1.cell 3; have a5 := b1.cell 5; have a6 := b1.cell 6; have a7 := b1.cell 7; have a8 := b1.cell 8; have lM := b0.lt; have lA := b1.lt; have o0 := bO.cell 0; have o1 := bO.cell 1; have o2 := bO.cell 2; have o3 := bO.cell 3; have o4 := bO.cell 4; have o5 := bO.cell 5; have lO := bO.lt) | (go_at_call 32; refine (HB.out _ _ _ _ _ (HEo.out _ go) (HSo.out _ go)).mono ?_; rintro e w1 ⟨aB, cB, rfl, hI, hG1⟩; have HI1 := Lib.hid hI; clear hI; clear m0 m1 m2 m3 m4 m5 a1 a3 a5 a6 a7 a8 lM lA o0 o1 o2 o3 o4 o5 lO; replace b0 := b0.keep hG1; replace b1 := b1.keep hG1; replace bO := bO.keep hG1; replace g0 := g0.t hG1; replace go := go.t hG1; clear hG1; have m0 := b0.cell 0; have m1 := b0.cell 1; have m2 := b0.cell 2; have m3 := b0.cell 3; have m4 := b0.cell 4; have m5 := b0.cell 5; have a1 := b1.cell 1; have a3 := b1.cell 3; have a5 := b1.cell 5; have a6 := b1.cell 6; have a7 := b1.cell 7; have a8 := b1.cell 8; have lM := b0.lt; have lA := b1.lt; have o0 := bO.cell 0; have o1 := bO.cell 1; have o2 := bO.cell 2; have o3 := bO.cell 3; have o4 := bO.cell 4; have o5 := bO.cell 5; have lO := bO.lt) | (go_at_call 39; refine (HBr.out _ _ _ _ _ (HE.out _ g0) (HSV.out _ g0)).mono ?_; rintro e w1 ⟨aR, cR, rfl, hI, hG1⟩; replace HI1 := Lib.hid (IntsAt.below HI1.out hG1); have HI2 := Lib.hid hI; clear hI; clear m0 m1 m2 m3 m4 m5 a1 a3 a5 a6 a7 a8 lM lA o0 o1 o2 o3 o4 o5 lO; replace b0 := b0.keep hG1; replace b1 := b1.keep hG1; replace bO := bO.keep hG1; replace g0 := g0.t hG1; replace go := go.t hG1; clear hG1; have m0 := b0.cell 0; have m1 := b0.cell 1; have m2 := b0.cell 2; have m3 := b0.cell 3; have m4 := b0.cell 4; have m5 := b0.cell 5; have a1 := b1.cell 1; have a3 := b1.cell 3; have a5 := b1.cell 5; have a6 := b1.cell 6; have a7 := b1.cell 7; have a8 := b1.cell 8; have lM := b0.lt; have lA := b1.lt; have o0 := bO.cell 0; have o1 := bO.cell 1; have o2 := bO.cell 2; have o3 := bO.cell 3; have o4 := bO.cell 4; have o5 := bO.cell 5; have lO := bO.lt) | (go_at_call 22; refine (HP.out _ _ _ _ _ (HEo.out _ go) (HSo.out _ go)).mono ?_; rintro e w1 ⟨aP, cP, rfl, hI, hG1⟩; replace HI1 := Lib.hid (IntsAt.below HI1.out hG1); replace HI2 := Lib.hid (IntsAt.below HI2.out hG1); have HZ1 := Lib.hid hI; clear hI; clear m0 m1 m2 m3 m4 m5 a1 a3 a5 a6 a7 a8 lM lA o0 o1 o2 o3 o4 o5 lO; replace b0 := b0.keep hG1; replace b1 := b1.keep hG1; replace bO := bO.keep hG1; replace g0 := g0.t hG1; replace go := go.t hG1; clear hG1; have m0 := b0.cell 0; have m1 := b0.cell 1; have m2 := b0.cell 2; have m3 := b0.cell 3; have m4 := b0.cell 4; have m5 := b0.cell 5; have a1 := b1.cell 1; have a3 := b1.cell 3; have a5 := b1.cell 5; have a6 := b1.cell 6; have a7 := b1.cell 7; have a8 := b1.cell 8; have lM := b0.lt; have lA := b1.lt; have o0 := bO.cell 0; have o1 := bO.cell 1; have o2 := bO.cell 2; have o3 := bO.cell 3; have o4 := bO.cell 4; have o5 := bO.cell 5; have lO := bO.lt) | (go_at_call 40; refine (HPr.out _ _ _ _ _ (HE.out _ g0) (HSV.out _ g0)).mono ?_; rintro e w1 ⟨aQ, cQ, rfl, hI, hG1⟩; replace HI1 := Lib.hid (IntsAt.below HI1.out hG1); replace HI2 := Lib.hid (IntsAt.below HI2.out hG1); replace HZ1 := Lib.hid (ZAt.below HZ1.out hG1); have HZ2 := Lib.hid hI; clear hI; clear m0 m1 m2 m3 m4 m5 a1 a3 a5 a6 a7 a8 lM lA o0 o1 o2 o3 o4 o5 lO; replace b0 := b0.keep hG1; replace b1 := b1.keep hG1; replace bO := bO.keep hG1; replace g0 := g0.t hG1; replace go := go.t hG1; clear hG1; have m0 := b0.cell 0; have m1 := b0.cell 1; have m2 := b0.cell 2; have m3 := b0.cell 3; have m4 := b0.cell 4; have m5 := b0.cell 5; have a1 := b1.cell 1; have a3 := b1.cell 3; have a5 := b1.cell 5; have a6 := b1.cell 6; have a7 := b1.cell 7; have a8 := b1.cell 8; have lM := b0.lt; have lA := b1.lt; have o0 := bO.cell 0; have o1 := bO.cell 1; have o2 := bO.cell 2; have o3 := bO.cell 3; have o4 := bO.cell 4; have o5 := bO.cell 5; have lO := bO.lt) | (go_at_call 41; refine (sameInts_eq _ _ LB _ _ _ HI1.out HI2.out HlB.out).mono ?_; rintro e w1 ⟨rfl, hG1⟩; clear HI1 HI2; replace HZ1 := Lib.hid (ZAt.below HZ1.out hG1); replace HZ2 := Lib.hid (ZAt.below HZ2.out hG1); clear m0 m1 m2 m3 m4 m5 a1 a3 a5 a6 a7 a8 lM lA o0 o1 o2 o3 o4 o5 lO; replace b0 := b0.keep hG1; replace b1 := b1.keep hG1; replace bO := bO.keep hG1; replace g0 := g0.t hG1; replace go := go.t hG1; clear hG1; have m0 := b0.cell 0; have m1 := b0.cell 1; have m2 := b0.cell 2; have m3 := b0.cell 3; have m4 := b0.cell 4; have m5 := b0.cell 5; have a1 := b1.cell 1; have a3 := b1.cell 3; have a5 := b1.cell 5; have a6 := b1.cell 6; have a7 := b1.cell 7; have a8 := b1.cell 8; have lM := b0.lt; have lA := b1.lt; have o0 := bO.cell 0; have o1 := bO.cell 1; have o2 := bO.cell 2; have o3 := bO.cell 3; have o4 := bO.cell 4; have o5 := bO.cell 5; have lO := bO.lt) | (go_at_call 42; refine (samePoints_eq _ _ LP _ _ _ HZ1.out HZ2.out HlP.out).mono ?_; rintro e w1 ⟨rfl, hG1⟩; clear HZ1 HZ2; clear m0 m1 m2 m3 m4 m5 a1 a3 a5 a6 a7 a8 lM lA o0 o1 o2 o3 o4 o5 lO; replace b0 := b0.keep hG1; replace b1 := b1.keep hG1; replace bO := bO.keep hG1; replace g0 := g0.t hG1; replace go := go.t hG1; clear hG1; have m0 := b0.cell 0; have m1 := b0.cell 1; have m2 := b0.cell 2; have m3 := b0.cell 3; have m4 := b0.cell 4; have m5 := b0.cell 5; have a1 := b1.cell 1; have a3 := b1.cell 3; have a5 := b1.cell 5; have a6 := b1.cell 6; have a7 := b1.cell 7; have a8 := b1.cell 8; have lM := b0.lt; have lA := b1.lt; have o0 := bO.cell 0; have o1 := bO.cell 1; have o2 := bO.cell 2; have o3 := bO.cell 3; have o4 := bO.cell 4; have o5 := bO.cell 5; have lO := bO.lt) | (go_at_call 43; refine (HSm.out _ _ _ _ _ _ _ _ _ (HE.out _ g0) (HSV.out _ g0) (HEo.out _ go) (HSo.out _ go)).mono ?_; rintro e w1 ⟨rfl, hG1⟩; clear m0 m1 m2 m3 m4 m5 a1 a3 a5 a6 a7 a8 lM lA o0 o1 o2 o3 o4 o5 lO; replace b0 := b0.keep hG1; replace b1 := b1.keep hG1; replace bO := bO.keep hG1; replace g0 := g0.t hG1; replace go := go.t hG1; clear hG1; have m0 := b0.cell 0; have m1 := b0.cell 1; have m2 := b0.cell 2; have m3 := b0.cell 3; have m4 := b0.cell 4; have m5 := b0.cell 5; have a1 := b1.cell 1; have a3 := b1.cell 3; have a5 := b1.cell 5; have a6 := b1.cell 6; have a7 := b1.cell 7; have a8 := b1.cell 8; have lM := b0.lt; have lA := b1.lt; have o0 := bO.cell 0; have o1 := bO.cell 1; have o2 := bO.cell 2; have o3 := bO.cell 3; have o4 := bO.cell 4; have o5 := bO.cell 5; have lO := bO.lt) | (go_at_call 16; refine (works_any _).mono ?_; rintro e w2 ⟨rfl, hG2⟩))
  go_ret
  exact ⟨rfl, g0.t hG2⟩
end
theorem Places_law (north cols lofts wrong o a b r rc px py qx qy : Int) (east : List Int) (svs : List Sv) (ea sa : Option Addr) (ec sc : Nat) (w : World) (he : IntsAt w ea east) (hs : SvsAt w sa svs) (hn : sa = none → sc = 0) (hne : ea = none → ec = 0) (hl : east.length ≤ 9223372036854775807) (hl2 : svs.length ≤ 9223372036854775807) :
    LawPGoal north cols lofts wrong o a b r rc px py qx qy east svs ea sa ec sc w := by
  cases hf : farB north cols east lofts svs wrong
  · have hle : east.length ≤ 100 ∧ svs.length ≤ 100 := by
      unfold farB at hf
      by_cases h1 : 40 < east.length
      · rw [if_pos h1] at hf; simp at hf
      · rw [if_neg h1] at hf
        by_cases h2 : 60 < svs.length
        · rw [if_pos h2] at hf; simp at hf
        · omega
    exact lawP_near north cols lofts wrong o a b r rc px py qx qy east svs ea sa ec sc w he hs hle.1 hle.2 hn hne hf
  · exact lawP_far north cols lofts wrong o a b r rc px py qx qy east svs ea sa ec sc w he hs hl hl2 hf
end Go.Proofs.Ytpjfdfddcnocpaa
