import Derived.Test.YtpjfdfddcnocpaaSf
import Derived.Test.YtpjfdfddcnocpaaJb
set_option linter.unusedSimpArgs false
set_option linter.unusedVariables false
namespace Go.Proofs.Ytpjfdfddcnocpaa
open Go.RowKit
attribute [local go_sem] Oper.semAt_some

section
open Go.ChangeShapes Go.WideShapes Go.ChangeAt
variable {H : Type} {enc : TypeId × Value → H} {w : World}
theorem map_nilE {v0 v1 v3 v4 v5 : Value} {ea : Option Addr} {k ec : Nat} {d : DataW H} {p : List MemPlace} (h : DataW.Trod enc Try.prog w 0 (fun _ => true) true 25 (.agg #[v0, v1, .slice ea k ec, v3, v4, v5]) d p) : ea = none → ec = 0 := by
  obtain ⟨fuel, hf0⟩ := h
  obtain ⟨xs, n, _, _, hl, hlen, hf⟩ := DataW.trod_struct Try.underlying25 hf0
  match xs, hlen with
  | [y0, y1, y2, y3, y4, y5], _ =>
    have h4 := hf 2 _ rfl
    simp [k22, Value.cells] at h4
    rcases Deep.open_slice Try.underlying22 h4 with ⟨e, _⟩ | ⟨a, len, cap, m, n, D, Pl, e, _⟩
    · simp at e
      exact fun _ => e.2.2
    · simp at e
      intro hs
      rw [hs] at e
      simp at e
end
theorem Show_err (north cols lofts wrong : Int) (east : List Int) (svs : List Sv) (ea sa : Option Addr) (ec sc : Nat) (w : World) (he : IntsAt w ea east) (hs : SvsAt w sa svs) (hl : east.length ≤ 9223372036854775807) (hl2 : svs.length ≤ 9223372036854775807) (hk : checkE north cols east lofts svs wrong ≠ 0) :
    Calls Try.prog 47 #[.agg #[.int .i64 north, .int .i64 cols, .slice ea east.length ec, .int .i64 lofts, .slice sa svs.length sc, .int .i64 wrong]] w fun e w' => e = .returned (.tuple #[.slice none 0 0, .int .i64 (checkE north cols east lofts svs wrong)]) ∧ G w w' := by
  have HQ := Lib.hid (fun (W : World) (hW : G w W) => question_err north cols lofts wrong east svs ea sa ec sc true (.slice none 0 0) W (he.below hW) (hs.below hW) hl hl2 hk)
  have g0 : G w (w.alloc (.cells #[.int .i64 north, .int .i64 cols, .slice ea east.length ec, .int .i64 lofts, .slice sa svs.length sc, .int .i64 wrong] 25)) := (G.rf _).a _
  generalize checkE north cols east lofts svs wrong = E at *
  have hE : (E == 0) = false := by simp [hk]
  go_enter Try.func47, Try.ntmps47
  go_wp2_with (go_at_call 57; refine (HQ.out _ g0).mono ?_; rintro e w1 ⟨rfl, hG1⟩)
  go_ret2
  exact ⟨rfl, g0.t hG1⟩
theorem Show_none (north wrong : Int) (cols lofts : Nat) (east : List Int) (svs : List Sv) (ea sa : Option Addr) (ec sc : Nat) (w : World) (he : IntsAt w ea east) (hs : SvsAt w sa svs) (hk : checkE north cols east lofts svs wrong = 0) (hw : wrong < fewSum north cols east svs lofts) :
    Calls Try.prog 47 #[.agg #[.int .i64 north, .int .i64 cols, .slice ea east.length ec, .int .i64 lofts, .slice sa svs.length sc, .int .i64 wrong]] w fun e w' => e = .returned (.tuple #[.slice none 0 0, .int .i64 3]) ∧ G w w' := by
  have HQ := Lib.hid (fun (W : World) (hW : G w W) => question_ok north wrong cols lofts east svs ea sa ec sc true [] none 0 W (he.below hW) (hs.below hW) (.inl rfl) (by simp) hk)
  have g0 : G w (w.alloc (.cells #[.int .i64 north, .int .i64 cols, .slice ea east.length ec, .int .i64 lofts, .slice sa svs.length sc, .int .i64 wrong] 25)) := (G.rf _).a _
  go_enter Try.func47, Try.ntmps47
  go_wp2_with (go_at_call 57; refine (HQ.out _ g0).mono ?_; rintro e w1 ⟨hG1, hp⟩; rw [if_neg (by simp), if_pos hw] at hp; subst hp)
  go_ret2
  exact ⟨rfl, g0.t hG1⟩
/-- the answer of Show as an argument of IsTruth -/
theorem show_own {W : World} {base lofts : Nat} {v : Value} {bp : Nat → Nat × Nat} (h0 : 0 < lofts) (h : W.ownsRow base 27 2 v ((List.range lofts).map bp).length (ptsV ((List.range lofts).map bp))) :
    ∃ g cap, v = .slice (some ⟨g, 0, none⟩) ((List.range lofts).map fun j => (((bp j).1 : Int), ((bp j).2 : Int))).length cap ∧ g < W.heap.size ∧ ZAt W (some ⟨g, 0, none⟩) ((List.range lofts).map fun j => (((bp j).1 : Int), ((bp j).2 : Int))) := by
  obtain ⟨g, cap, rfl, hg, hp⟩ := pts_own rfl h (by simpa using h0)
  refine ⟨g, cap, by simp, hg, .inr ⟨g, 0, rfl, hg, fun k hk => ?_⟩⟩
  have hk2 : k < lofts := by simpa using hk
  obtain ⟨c0, c1⟩ := hp k (by simpa using hk2)
  have e : ((List.range lofts).map bp).getD k (0, 0) = bp k := by simp [hk2]
  rw [e] at c0 c1
  rw [Nat.zero_add, c0, c1]
  simp [hk2]
section
variable (north cols lofts wrong : Int) (east : List Int) (svs : List Sv) (ea sa : Option Addr) (ec sc : Nat) (w : World)
abbrev ShowGoal : Prop := Calls Try.prog 13 #[.agg #[.int .i64 north, .int .i64 cols, .slice ea east.length ec, .int .i64 lofts, .slice sa svs.length sc, .int .i64 wrong]] w fun e w' => e = .returned (.bool true) ∧ G w w'
set_option maxHeartbeats 4000000 in
theorem show_far (he : IntsAt w ea east) (hs : SvsAt w sa svs) (hl : east.length ≤ 9223372036854775807) (hl2 : svs.length ≤ 9223372036854775807) (hf : farB north cols east lofts svs wrong = true) : ShowGoal north cols lofts wrong east svs ea sa ec sc w := by
  have hF := fun (W : World) (hW : G w W) => Far_any north cols lofts wrong east svs ea sa ec sc W (he.below hW) (hs.below hW) hl hl2
  rw [hf] at hF
  have HF := Lib.hid hF
  clear hF
  have g0 : G w (w.alloc (.cells #[.int .i64 north, .int .i64 cols, .slice ea east.length ec, .int .i64 lofts, .slice sa svs.length sc, .int .i64 wrong] 25)) := (G.rf _).a _
  have b0 := Blk.new w 25 #[.int .i64 north, .int .i64 cols, .slice ea east.length ec, .int .i64 lofts, .slice sa svs.length sc, .int .i64 wrong]
  unfold ShowGoal
  go_enter Try.func13, Try.ntmps13
  go_wp2_with (first | (go_at_call 33; refine (HF.out _ g0).mono ?_; rintro e w1 ⟨rfl, hG1⟩; replace b0 := b0.keep hG1; replace g0 := g0.t hG1; clear hG1; have m0 := b0.cell 0; have m1 := b0.cell 1; have m2 := b0.cell 2; have m3 := b0.cell 3; have m4 := b0.cell 4; have m5 := b0.cell 5; have lM := b0.lt) | (go_at_call 16; refine (works_any _).mono ?_; rintro e w2 ⟨rfl, hG2⟩))
  go_ret
  exact ⟨rfl, g0.t hG2⟩
set_option maxHeartbeats 4000000 in
theorem show_bad (E : Int) (hE0 : ¬ E = 0) (he : IntsAt w ea east) (hs : SvsAt w sa svs) (hl : east.length ≤ 100) (hl2 : svs.length ≤ 100) (hn : sa = none → sc = 0) (hne : ea = none → ec = 0) (hf : farB north cols east lofts svs wrong = false)
    (hsh : ∀ (W : World) (ea' sa' : Option Addr) (ec' sc' : Nat), IntsAt W ea' east → SvsAt W sa' svs → Calls Try.prog 47 #[.agg #[.int .i64 north, .int .i64 cols, .slice ea' east.length ec', .int .i64 lofts, .slice sa' svs.length sc', .int .i64 wrong]] W fun e w' => e = .returned (.tuple #[.slice none 0 0, .int .i64 E]) ∧ G W w')
    (hct : ctE north cols lofts wrong east svs 0 0 0 = E) : ShowGoal north cols lofts wrong east svs ea sa ec sc w := by
  have hF := fun (W : World) (hW : G w W) => Far_any north cols lofts wrong east svs ea sa ec sc W (he.below hW) (hs.below hW) (by omega) (by omega)
  rw [hf] at hF
  have HF := Lib.hid hF
  have HCp := Lib.hid (fun (W : World) (hW : G w W) => Copy_all north cols lofts wrong east svs ea sa ec sc W (he.below hW) (hs.below hW) hl hl2 hn hne)
  have HSh := Lib.hid hsh
  have hC := fun (W : World) (hW : G w W) => rCheckShow_any north cols lofts wrong east svs ea sa ec sc W (he.below hW) (hs.below hW) (by omega) (by omega)
  rw [hct] at hC
  have HCs := Lib.hid hC
  have hEb : (E == 0) = false := by simp [hE0]
  have hEb2 : (E == E) = true := by simp
  clear hF hsh hC hct
  have g0 : G w (w.alloc (.cells #[.int .i64 north, .int .i64 cols, .slice ea east.length ec, .int .i64 lofts, .slice sa svs.length sc, .int .i64 wrong] 25)) := (G.rf _).a _
  have b0 := Blk.new w 25 #[.int .i64 north, .int .i64 cols, .slice ea east.length ec, .int .i64 lofts, .slice sa svs.length sc, .int .i64 wrong]
  unfold ShowGoal
  go_enter Try.func13, Try.ntmps13
  go_wp2_with (first | (go_at_call 33; refine (HF.out _ g0).mono ?_; rintro e w1 ⟨rfl, hG1⟩; replace b0 := b0.keep hG1; replace g0 := g0.t hG1; clear hG1; have m0 := b0.cell 0; have m1 := b0.cell 1; have m2 := b0.cell 2; have m3 := b0.cell 3; have m4 := b0.cell 4; have m5 := b0.cell 5; have lM := b0.lt) | (go_at_call 28; refine (HCp.out _ g0).mono ?_; rintro e w1 ⟨gE, capE, curE, gS, capS, curS, rfl, h1, h2, h3, hG1, h5, h6⟩; have hE := east_at h2 h3; have hS := OwnSv.at h6; clear h1 h2 h3 h5 h6; clear m0 m1 m2 m3 m4 m5 lM; replace b0 := b0.keep hG1; replace g0 := g0.t hG1; clear hG1; have m0 := b0.cell 0; have m1 := b0.cell 1; have m2 := b0.cell 2; have m3 := b0.cell 3; have m4 := b0.cell 4; have m5 := b0.cell 5; have lM := b0.lt) | (go_at_call 47; refine (HSh.out _ _ _ _ _ hE hS).mono ?_; rintro e w1 ⟨rfl, hG1⟩; clear hE hS; clear m0 m1 m2 m3 m4 m5 lM; replace b0 := b0.keep hG1; replace g0 := g0.t hG1; clear hG1; have m0 := b0.cell 0; have m1 := b0.cell 1; have m2 := b0.cell 2; have m3 := b0.cell 3; have m4 := b0.cell 4; have m5 := b0.cell 5; have lM := b0.lt) | (go_at_call 48; refine (HCs.out _ g0).mono ?_; rintro e w1 ⟨rfl, hG1⟩; clear m0 m1 m2 m3 m4 m5 lM; replace b0 := b0.keep hG1; replace g0 := g0.t hG1; clear hG1; have m0 := b0.cell 0; have m1 := b0.cell 1; have m2 := b0.cell 2; have m3 := b0.cell 3; have m4 := b0.cell 4; have m5 := b0.cell 5; have lM := b0.lt) | (go_at_call 16; refine (works_any _).mono ?_; rintro e w2 ⟨rfl, hG2⟩))
  go_ret
  exact ⟨rfl, g0.t hG2⟩
end
section
variable (north wrong : Int) (cols lofts : Nat) (east : List Int) (svs : List Sv) (ea sa : Option Addr) (ec sc : Nat) (w : World)
set_option maxHeartbeats 4000000 in
theorem show_good (he : IntsAt w ea east) (hs : SvsAt w sa svs) (hl : east.length ≤ 100) (hl2 : svs.length ≤ 100) (hn : sa = none → sc = 0) (hne : ea = none → ec = 0) (hf : farB north cols east lofts svs wrong = false)
    (hk : checkE north cols east lofts svs wrong = 0) (hw : ¬ wrong < fewSum north cols east svs lofts) : ShowGoal north cols lofts wrong east svs ea sa ec sc w := by
  have hvb := vm_bounds (checkE_ok hk)
  have hlo1 : 0 < lofts := by omega
  have hF := fun (W : World) (hW : G w W) => Far_any north cols lofts wrong east svs ea sa ec sc W (he.below hW) (hs.below hW) (by omega) (by omega)
  rw [hf] at hF
  have HF := Lib.hid hF
  have HCp := Lib.hid (fun (W : World) (hW : G w W) => Copy_all north cols lofts wrong east svs ea sa ec sc W (he.below hW) (hs.below hW) hl hl2 hn hne)
  have HSh := Lib.hid (fun (W : World) (ea' sa' : Option Addr) (ec' sc' : Nat) (he' : IntsAt W ea' east) (hs' : SvsAt W sa' svs) => Show_ok north wrong cols lofts east svs ea' sa' ec' sc' W he' hs' hk hw)
  have hC := fun (W : World) (hW : G w W) => rCheckShow_any north cols lofts wrong east svs ea sa ec sc W (he.below hW) (hs.below hW) (by omega) (by omega)
  have hct : ctE north cols lofts wrong east svs 0 0 0 = 0 := by
    unfold ctE
    rw [if_pos hk, if_pos (by simp [isInB]; omega)]
    simp [hw]
  rw [hct] at hC
  have HCs := Lib.hid hC
  have hst := show_truth (north := north) (svs := svs) (wrong := wrong) (lofts := lofts) (show 1 ≤ cols by omega) (show 1 ≤ east.length by omega) hw
  unfold ShowPost at HSh
  generalize bestP (spotsOf north cols east svs) = bp at *
  obtain ⟨lz, hlz⟩ : ∃ lz, lz = ((List.range lofts).map fun j => (((bp j).1 : Int), ((bp j).2 : Int))) := ⟨_, rfl⟩
  rw [← hlz] at hst
  have hsho : ∀ (W : World) (base : Nat) (v : Value), W.ownsRow base 27 2 v ((List.range lofts).map bp).length (ptsV ((List.range lofts).map bp)) → ∃ g cap, v = .slice (some ⟨g, 0, none⟩) lz.length cap ∧ g < W.heap.size ∧ ZAt W (some ⟨g, 0, none⟩) lz := fun W base v h => by rw [hlz]; exact show_own hlo1 h
  have hzl : lz.length ≤ 9223372036854775807 := by rw [hlz, List.length_map, List.length_range]; omega
  have HI := Lib.hid (fun (W : World) (g cap : Nat) (hW : G w W) (hz : ZAt W (some ⟨g, 0, none⟩) lz) => by
    have h := rIsTruth_any north cols lofts wrong east svs lz ea sa (some ⟨g, 0, none⟩) ec sc cap W (he.below hW) (hs.below hW) hz hk hzl
    rw [hst] at h
    exact h)
  have HSO := Lib.hid hsho
  clear hF hC hct hst hlz hsho hzl hvb hk hw
  have g0 : G w (w.alloc (.cells #[.int .i64 north, .int .i64 cols, .slice ea east.length ec, .int .i64 lofts, .slice sa svs.length sc, .int .i64 wrong] 25)) := (G.rf _).a _
  have b0 := Blk.new w 25 #[.int .i64 north, .int .i64 cols, .slice ea east.length ec, .int .i64 lofts, .slice sa svs.length sc, .int .i64 wrong]
  unfold ShowGoal
  go_enter Try.func13, Try.ntmps13
  go_wp2_with (first | (go_at_call 33; refine (HF.out _ g0).mono ?_; rintro e w1 ⟨rfl, hG1⟩; replace b0 := b0.keep hG1; replace g0 := g0.t hG1; clear hG1; have m0 := b0.cell 0; have m1 := b0.cell 1; have m2 := b0.cell 2; have m3 := b0.cell 3; have m4 := b0.cell 4; have m5 := b0.cell 5; have lM := b0.lt) | (go_at_call 28; refine (HCp.out _ g0).mono ?_; rintro e w1 ⟨gE, capE, curE, gS, capS, curS, rfl, h1, h2, h3, hG1, h5, h6⟩; have hE := east_at h2 h3; have hS := OwnSv.at h6; clear h1 h2 h3 h5 h6; clear m0 m1 m2 m3 m4 m5 lM; replace b0 := b0.keep hG1; replace g0 := g0.t hG1; clear hG1; have m0 := b0.cell 0; have m1 := b0.cell 1; have m2 := b0.cell 2; have m3 := b0.cell 3; have m4 := b0.cell 4; have m5 := b0.cell 5; have lM := b0.lt) | (go_at_call 47; refine (HSh.out _ _ _ _ _ hE hS).mono ?_; rintro e w1 ⟨v, rfl, hown, hG1⟩; obtain ⟨gV, capV, rfl, hgV, hPt⟩ := HSO.out _ _ _ hown; have HZ := Lib.hid hPt; clear hE hS hown hPt; clear m0 m1 m2 m3 m4 m5 lM; replace b0 := b0.keep hG1; replace g0 := g0.t hG1; clear hG1; have m0 := b0.cell 0; have m1 := b0.cell 1; have m2 := b0.cell 2; have m3 := b0.cell 3; have m4 := b0.cell 4; have m5 := b0.cell 5; have lM := b0.lt) | (go_at_call 48; refine (HCs.out _ g0).mono ?_; rintro e w1 ⟨rfl, hG1⟩; have HZ2 := Lib.hid (ZAt.below HZ.out hG1); clear m0 m1 m2 m3 m4 m5 lM; replace b0 := b0.keep hG1; replace g0 := g0.t hG1; clear hG1; have m0 := b0.cell 0; have m1 := b0.cell 1; have m2 := b0.cell 2; have m3 := b0.cell 3; have m4 := b0.cell 4; have m5 := b0.cell 5; have lM := b0.lt) | (go_at_call 20; refine (HI.out _ _ _ g0 HZ2.out).mono ?_; rintro e w1 ⟨rfl, hG1⟩; clear m0 m1 m2 m3 m4 m5 lM; replace b0 := b0.keep hG1; replace g0 := g0.t hG1; clear hG1; have m0 := b0.cell 0; have m1 := b0.cell 1; have m2 := b0.cell 2; have m3 := b0.cell 3; have m4 := b0.cell 4; have m5 := b0.cell 5; have lM := b0.lt) | (go_at_call 16; refine (works_any _).mono ?_; rintro e w2 ⟨rfl, hG2⟩))
  go_ret
  exact ⟨rfl, g0.t hG2⟩
end
theorem Show_law (north cols lofts wrong : Int) (east : List Int) (svs : List Sv) (ea sa : Option Addr) (ec sc : Nat) (w : World) (he : IntsAt w ea east) (hs : SvsAt w sa svs) (hl : east.length ≤ 9223372036854775807) (hl2 : svs.length ≤ 9223372036854775807)
    (hn : sa = none → sc = 0) (hne : ea = none → ec = 0) : ShowGoal north cols lofts wrong east svs ea sa ec sc w := by
  cases hf : farB north cols east lofts svs wrong
  · have hle : east.length ≤ 100 ∧ svs.length ≤ 100 := by
      unfold farB at hf
      by_cases h1 : 40 < east.length
      · rw [if_pos h1] at hf; simp at hf
      · rw [if_neg h1] at hf
        by_cases h2 : 60 < svs.length
        · rw [if_pos h2] at hf; simp at hf
        · omega
    by_cases hk : checkE north cols east lofts svs wrong = 0
    · have hvb := vm_bounds (checkE_ok hk)
      obtain ⟨cn, rfl⟩ := Int.eq_ofNat_of_zero_le (show 0 ≤ cols by omega)
      obtain ⟨ln, rfl⟩ := Int.eq_ofNat_of_zero_le (show 0 ≤ lofts by omega)
      by_cases hw : wrong < fewSum north cn east svs ln
      · refine show_bad north cn ln wrong east svs ea sa ec sc w 3 (by omega) he hs hle.1 hle.2 hn hne hf (fun W ea' sa' ec' sc' he' hs' => Show_none north wrong cn ln east svs ea' sa' ec' sc' W he' hs' hk hw) ?_
        unfold ctE
        rw [if_pos hk, if_pos (by simp [isInB]; omega)]
        simp [hw]
      · exact show_good north wrong cn ln east svs ea sa ec sc w he hs hle.1 hle.2 hn hne hf hk hw
    · exact show_bad north cols lofts wrong east svs ea sa ec sc w (checkE north cols east lofts svs wrong) hk he hs hle.1 hle.2 hn hne hf (fun W ea' sa' ec' sc' he' hs' => Show_err north cols lofts wrong east svs ea' sa' ec' sc' W he' hs' hl hl2 hk) (by unfold ctE; rw [if_neg hk])
  · exact show_far north cols lofts wrong east svs ea sa ec sc w he hs hl hl2 hf
end Go.Proofs.Ytpjfdfddcnocpaa
