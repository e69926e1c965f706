import Derived.Test.YtcekdljjmfkacaaGreatZp0
import Derived.Test.YtcekdljjmfkacaaGreatXh
import Derived.Test.YtcekdljjmfkacaaGreatXf
import Derived.Test.YtcekdljjmfkacaaGreatXj
import Derived.Test.YtcekdljjmfkacaaGreatXi
set_option linter.unusedSimpArgs false
set_option linter.unusedVariables false
namespace Go.Proofs.YtcekdljjmfkacaaGreat
open Go.RowKit Go.Shelf
attribute [local go_sem] Oper.semAt_some wide_fn wide_dep wideR_fn wideR_dep
section
variable {H : Type} {enc : TypeId × Value → H} {w : World}
theorem rel_capsE {north cols lofts wrong bx bY sl sh lw lg lh hours dark : Int} {en sn n k : Nat} {ea sa ha fa : Option Addr} {ec sc hc fc : Nat} {d : DataW H} {p : List MemPlace}
    (h : DataW.Trod enc Tryz.prog w 0 (fun _ => true) true 35 (.agg #[.int .i64 north, .int .i64 cols, .slice ea en ec, .int .i64 lofts, .slice sa sn sc, .int .i64 wrong, .int .i64 bx, .int .i64 bY, .slice ha n hc, .int .i64 sl, .int .i64 sh, .slice fa k fc, .int .i64 lw, .int .i64 lg, .int .i64 lh, .int .i64 hours, .int .i64 dark]) d p) :
    (ea = none → ec = 0) ∧ (sa = none → sc = 0) ∧ ((ha = none → hc = 0) ∧ n ≤ hc) ∧ (fa = none → fc = 0) ∧ k ≤ fc := by
  obtain ⟨fuel, hf0⟩ := h
  obtain ⟨xs, m, _, _, hl, hlen, hf⟩ := DataW.trod_struct Tryz.underlying35 hf0
  match xs, hlen with
  | [y0, y1, y2, y3, y4, y5, y6, y7], _ =>
    have h0 := hf 0 _ rfl
    have h2 := hf 2 _ rfl
    have h4 := hf 4 _ rfl
    simp [k3, k25, k27, k28, k31, k33, k46, Value.cells] at h0 h2 h4
    obtain ⟨xs, m, _, _, hl, hlen, hg⟩ := DataW.trod_struct Tryz.underlying25 h0
    match xs, hlen with
    | [z0, z1, z2, z3, z4, z5], _ =>
      have q2 := hg 2 _ rfl
      have q4 := hg 4 _ rfl
      simp [k3, k22, k23] at q2 q4
      exact ⟨(svs_nil Tryz.underlying22 q2).1, (svs_nil Tryz.underlying23 q4).1, svs_nil Tryz.underlying28 h2, svs_nil Tryz.underlying31 h4⟩
end
section
variable (north cols lofts wrong bx bY sl sh lw lg lh hours dark : Int) (east : List Int) (svs : List Sv) (n k : Nat) (h f : Nat → Nat → Int) (ea sa ha fa : Option Addr) (ec sc hc fc : Nat) (w : World)
set_option maxRecDepth 100000 in
set_option maxHeartbeats 8000000 in
theorem rCopy_all (he : IntsAt w ea east) (hs : SvsAt w sa svs) (hH : RowAt w ha n 2 h) (hF : RowAt w fa k 12 f) (hl : east.length ≤ 100) (hl2 : svs.length ≤ 100) (hn : n ≤ 100) (hk : k ≤ 100)
    (hce : ea = none → ec = 0) (hcs : sa = none → sc = 0) (hch : (ha = none → hc = 0) ∧ n ≤ hc) (hcf : (fa = none → fc = 0) ∧ k ≤ fc) :
    Calls Tryz.prog 8 #[.agg #[.int .i64 north, .int .i64 cols, .slice ea east.length ec, .int .i64 lofts, .slice sa svs.length sc, .int .i64 wrong, .int .i64 bx, .int .i64 bY, .slice ha n hc, .int .i64 sl, .int .i64 sh, .slice fa k fc, .int .i64 lw, .int .i64 lg, .int .i64 lh, .int .i64 hours, .int .i64 dark]] w (CpPost north cols lofts wrong bx bY sl sh lw lg lh hours dark east svs n k h f w) := by
  have HC := Lib.hid (fun (W : World) (hW : G w W) => Copy_all north cols lofts wrong east svs ea sa ec sc W (he.below hW) (hs.below hW) hl hl2 hcs hce)
  have HOK : Hid (∀ w' gE capE curE gS capS curS aH cH xH BH aF cF xF BF, CpIn w east svs n k h f gE curE gS capS curS aH cH xH BH aF cF xF BF w' → CpPost north cols lofts wrong bx bY sl sh lw lg lh hours dark east svs n k h f w (.returned (.agg #[.int .i64 north, .int .i64 cols, .slice (some ⟨gE, 0, none⟩) east.length capE, .int .i64 lofts, .slice (some ⟨gS, 0, none⟩) svs.length capS, .int .i64 wrong, .int .i64 bx, .int .i64 bY, .slice aH n cH, .int .i64 sl, .int .i64 sh, .slice aF k cF, .int .i64 lw, .int .i64 lg, .int .i64 lh, .int .i64 hours, .int .i64 dark])) w') := fun w' gE capE curE gS capS curS aH cH xH BH aF cF xF BF hc => ⟨gE, capE, curE, gS, capS, curS, aH, cH, xH, BH, aF, cF, xF, BF, rfl, hc⟩
  generalize CpPost north cols lofts wrong bx bY sl sh lw lg lh hours dark east svs n k h f w = PP at *
  have HHO := Lib.hid hH
  have HFF := Lib.hid hF
  clear he hs hH hF
  obtain ⟨i27, hi27, hz0, hz1, hz2⟩ := info_parts info27
  obtain ⟨i60, hi60, hy0, hy1, hy2⟩ := info_parts info60
  have g0 : G w ((w.alloc (.cells #[.int .i64 north, .int .i64 cols, .slice ea east.length ec, .int .i64 lofts, .slice sa svs.length sc, .int .i64 wrong, .int .i64 bx, .int .i64 bY, .slice ha n hc, .int .i64 sl, .int .i64 sh, .slice fa k fc, .int .i64 lw, .int .i64 lg, .int .i64 lh, .int .i64 hours, .int .i64 dark] 35)).alloc (.cells #[.int .i64 0, .int .i64 0, .slice none 0 0, .int .i64 0, .slice none 0 0, .int .i64 0, .int .i64 0, .int .i64 0, .slice none 0 0, .int .i64 0, .int .i64 0, .slice none 0 0, .int .i64 0, .int .i64 0, .int .i64 0, .int .i64 0, .int .i64 0] 35)) := ((G.rf _).a _).a _
  have b1 : Blk ((w.alloc (.cells #[.int .i64 north, .int .i64 cols, .slice ea east.length ec, .int .i64 lofts, .slice sa svs.length sc, .int .i64 wrong, .int .i64 bx, .int .i64 bY, .slice ha n hc, .int .i64 sl, .int .i64 sh, .slice fa k fc, .int .i64 lw, .int .i64 lg, .int .i64 lh, .int .i64 hours, .int .i64 dark] 35)).alloc (.cells #[.int .i64 0, .int .i64 0, .slice none 0 0, .int .i64 0, .slice none 0 0, .int .i64 0, .int .i64 0, .int .i64 0, .slice none 0 0, .int .i64 0, .int .i64 0, .slice none 0 0, .int .i64 0, .int .i64 0, .int .i64 0, .int .i64 0, .int .i64 0] 35)) w.heap.size 35 #[.int .i64 north, .int .i64 cols, .slice ea east.length ec, .int .i64 lofts, .slice sa svs.length sc, .int .i64 wrong, .int .i64 bx, .int .i64 bY, .slice ha n hc, .int .i64 sl, .int .i64 sh, .slice fa k fc, .int .i64 lw, .int .i64 lg, .int .i64 lh, .int .i64 hours, .int .i64 dark] := (Blk.new w 35 _).keep ((G.rf _).a _)
  have b2 : Blk ((w.alloc (.cells #[.int .i64 north, .int .i64 cols, .slice ea east.length ec, .int .i64 lofts, .slice sa svs.length sc, .int .i64 wrong, .int .i64 bx, .int .i64 bY, .slice ha n hc, .int .i64 sl, .int .i64 sh, .slice fa k fc, .int .i64 lw, .int .i64 lg, .int .i64 lh, .int .i64 hours, .int .i64 dark] 35)).alloc (.cells #[.int .i64 0, .int .i64 0, .slice none 0 0, .int .i64 0, .slice none 0 0, .int .i64 0, .int .i64 0, .int .i64 0, .slice none 0 0, .int .i64 0, .int .i64 0, .slice none 0 0, .int .i64 0, .int .i64 0, .int .i64 0, .int .i64 0, .int .i64 0] 35)) (w.heap.size + 1) 35 #[.int .i64 0, .int .i64 0, .slice none 0 0, .int .i64 0, .slice none 0 0, .int .i64 0, .int .i64 0, .int .i64 0, .slice none 0 0, .int .i64 0, .int .i64 0, .slice none 0 0, .int .i64 0, .int .i64 0, .int .i64 0, .int .i64 0, .int .i64 0] := Blk.new1 w _ 35 _
  go_enter Tryz.func8, Tryz.ntmps8
  go_upto_region 1 with fail
  change Code.wp _ _ _ _ ((w.alloc (.cells #[.int .i64 north, .int .i64 cols, .slice ea east.length ec, .int .i64 lofts, .slice sa svs.length sc, .int .i64 wrong, .int .i64 bx, .int .i64 bY, .slice ha n hc, .int .i64 sl, .int .i64 sh, .slice fa k fc, .int .i64 lw, .int .i64 lg, .int .i64 lh, .int .i64 hours, .int .i64 dark] 35)).alloc (.cells #[.int .i64 0, .int .i64 0, .slice none 0 0, .int .i64 0, .slice none 0 0, .int .i64 0, .int .i64 0, .int .i64 0, .slice none 0 0, .int .i64 0, .int .i64 0, .slice none 0 0, .int .i64 0, .int .i64 0, .int .i64 0, .int .i64 0, .int .i64 0] 35))
  generalize (w.alloc (.cells #[.int .i64 north, .int .i64 cols, .slice ea east.length ec, .int .i64 lofts, .slice sa svs.length sc, .int .i64 wrong, .int .i64 bx, .int .i64 bY, .slice ha n hc, .int .i64 sl, .int .i64 sh, .slice fa k fc, .int .i64 lw, .int .i64 lg, .int .i64 lh, .int .i64 hours, .int .i64 dark] 35)).alloc (.cells #[.int .i64 0, .int .i64 0, .slice none 0 0, .int .i64 0, .slice none 0 0, .int .i64 0, .int .i64 0, .int .i64 0, .slice none 0 0, .int .i64 0, .int .i64 0, .slice none 0 0, .int .i64 0, .int .i64 0, .int .i64 0, .int .i64 0, .int .i64 0] 35) = w1 at *
  have m0 := b1.cell 0; have m1 := b1.cell 1; have m2 := b1.cell 2; have m3 := b1.cell 3; have m4 := b1.cell 4; have m5 := b1.cell 5
  have l1 := b1.lt
  go_upto_region 2 with (go_at_call 30; refine (HC.out _ g0).mono ?_; rintro e w2 ⟨gE, capE, curE, gS, capS, curS, rfl, hgE, hE, hEt, hG2, hgS, hS⟩; clear m0 m1 m2 m3 m4 m5 l1; have l0 := b2.lt; replace hgE := Nat.le_trans (Nat.le_of_lt l0) hgE; replace hgS := Nat.le_trans (Nat.le_of_lt l0) hgS; clear l0; replace b1 := b1.keep hG2; replace b2 := b2.keep hG2; replace g0 := g0.t hG2; have m0 := b1.cell 0; have m1 := b1.cell 1; have m2 := b1.cell 2; have m3 := b1.cell 3; have m4 := b1.cell 4; have m5 := b1.cell 5; have z0 := b1.frozen 0; have z1 := b1.frozen 1; have z2 := b1.frozen 2; have z3 := b1.frozen 3; have z4 := b1.frozen 4; have z5 := b1.frozen 5; have l1 := b1.lt)
  clear m0 m1 m2 m3 m4 m5 z0 z1 z2 z3 z4 z5 l1 HC hG2
  change Code.wp _ _ _ _ (W6 w2 w.heap.size (.int .i64 north) (.int .i64 cols) (.slice (some ⟨gE, 0, none⟩) east.length capE) (.int .i64 lofts) (.slice (some ⟨gS, 0, none⟩) svs.length capS) (.int .i64 wrong))
  have n1 : Blk (W6 w2 w.heap.size (.int .i64 north) (.int .i64 cols) (.slice (some ⟨gE, 0, none⟩) east.length capE) (.int .i64 lofts) (.slice (some ⟨gS, 0, none⟩) svs.length capS) (.int .i64 wrong)) w.heap.size 35 #[.int .i64 north, .int .i64 cols, .slice (some ⟨gE, 0, none⟩) east.length capE, .int .i64 lofts, .slice (some ⟨gS, 0, none⟩) svs.length capS, .int .i64 wrong, .int .i64 bx, .int .i64 bY, .slice ha n hc, .int .i64 sl, .int .i64 sh, .slice fa k fc, .int .i64 lw, .int .i64 lg, .int .i64 lh, .int .i64 hours, .int .i64 dark] := W6_blk b1 _ _ _ _ _ _
  have hfar := W6_heap w2 w.heap.size (.int .i64 north) (.int .i64 cols) (.slice (some ⟨gE, 0, none⟩) east.length capE) (.int .i64 lofts) (.slice (some ⟨gS, 0, none⟩) svs.length capS) (.int .i64 wrong)
  have n2 : Blk (W6 w2 w.heap.size (.int .i64 north) (.int .i64 cols) (.slice (some ⟨gE, 0, none⟩) east.length capE) (.int .i64 lofts) (.slice (some ⟨gS, 0, none⟩) svs.length capS) (.int .i64 wrong)) (w.heap.size + 1) 35 #[.int .i64 0, .int .i64 0, .slice none 0 0, .int .i64 0, .slice none 0 0, .int .i64 0, .int .i64 0, .int .i64 0, .slice none 0 0, .int .i64 0, .int .i64 0, .slice none 0 0, .int .i64 0, .int .i64 0, .int .i64 0, .int .i64 0, .int .i64 0] := (hfar _ (by omega)).trans b2
  replace hE := Blk.apart hE b1 (by decide) hfar
  replace hS := hS.far b1 (by decide) hfar
  replace g0 := W6_G (Nat.le_refl _) g0 (.int .i64 north) (.int .i64 cols) (.slice (some ⟨gE, 0, none⟩) east.length capE) (.int .i64 lofts) (.slice (some ⟨gS, 0, none⟩) svs.length capS) (.int .i64 wrong)
  clear hfar b1 b2
  generalize W6 w2 w.heap.size (.int .i64 north) (.int .i64 cols) (.slice (some ⟨gE, 0, none⟩) east.length capE) (.int .i64 lofts) (.slice (some ⟨gS, 0, none⟩) svs.length capS) (.int .i64 wrong) = w3 at *
  have hSz : w.heap.size ≤ w3.heap.size := g0.size
  have d8 := n1.cell 8
  have l1 := n1.lt
  have e1 := own_empty (Blk.new w3 27 #[]) 2
  have ga : G w3 (w3.alloc (.cells #[] 27)) := (G.rf _).a _
  go_wp2_with (at_builtin; refine wpList_append_row rfl _ _ 28 rfl w3.heap.size 27 i27 (.agg #[.int .i64 0, .int .i64 0]) 2 16 Tryz.underlying28 hi27 hz0 hz1 hz2 rfl (by decide) _ _ _ rfl e1 ha n hc h rfl HHO.out (g0.t ga) hch.2 hch.1 (by unfold maxLen; omega) (by omega) (by simp) ?_)
  intro v' w4 xH hown hxl hxg hgr
  have g4 : G w3 w4 := grow_own ga e1 (Nat.le_refl _) hgr
  try rw [Nat.zero_add, List.nil_append] at hown
  obtain ⟨aH, cH, rfl⟩ := own_slice hown
  clear d8 l1 e1 ga hgr
  replace n1 := n1.keep g4
  replace n2 := n2.keep g4
  replace hE := hE.keep g4
  replace hS := hS.keep g4
  replace g0 := g0.t g4
  have d8 := n1.cell 8
  have z8 := n1.frozen 8
  have l1 := n1.lt
  go_upto_region 3 with fail
  have k1 : Blk (w4.setCell ⟨w.heap.size, 8, none⟩ (.slice aH n cH)) w.heap.size 35 #[.int .i64 north, .int .i64 cols, .slice (some ⟨gE, 0, none⟩) east.length capE, .int .i64 lofts, .slice (some ⟨gS, 0, none⟩) svs.length capS, .int .i64 wrong, .int .i64 bx, .int .i64 bY, .slice aH n cH, .int .i64 sl, .int .i64 sh, .slice fa k fc, .int .i64 lw, .int .i64 lg, .int .i64 lh, .int .i64 hours, .int .i64 dark] := n1.set_ 8 _
  have hfar := heap_set w4 w.heap.size 8 (.slice aH n cH)
  have k2 : Blk (w4.setCell ⟨w.heap.size, 8, none⟩ (.slice aH n cH)) (w.heap.size + 1) 35 #[.int .i64 0, .int .i64 0, .slice none 0 0, .int .i64 0, .slice none 0 0, .int .i64 0, .int .i64 0, .int .i64 0, .slice none 0 0, .int .i64 0, .int .i64 0, .slice none 0 0, .int .i64 0, .int .i64 0, .int .i64 0, .int .i64 0, .int .i64 0] := (hfar _ (by omega)).trans n2
  replace hE := Blk.apart hE n1 (by decide) hfar
  replace hS := hS.far n1 (by decide) hfar
  replace hown := own_farT hown n1 (by decide) hfar
  replace g0 := g0.s (p := ⟨w.heap.size, 8, none⟩) (Nat.le_refl _) (.slice aH n cH)
  clear hfar n1 n2 d8 z8 l1 g4
  generalize w4.setCell ⟨w.heap.size, 8, none⟩ (.slice aH n cH) = w5 at *
  have hBH : w.heap.size ≤ w3.heap.size := hSz
  generalize w3.heap.size = BH at hown hBH
  have hSz5 : w.heap.size ≤ w5.heap.size := g0.size
  have d11 := k1.cell 11
  have l1 := k1.lt
  have e1 := own_empty (Blk.new w5 71 #[]) 12
  have ga : G w5 (w5.alloc (.cells #[] 71)) := (G.rf _).a _
  go_wp2_with (at_builtin; refine wpList_append_row rfl _ _ 31 rfl w5.heap.size 71 i60 (.agg #[.int .i64 0, .int .i64 0, .int .i64 0, .int .i64 0, .int .i64 0, .int .i64 0, .int .i64 0, .int .i64 0, .int .i64 0, .int .i64 0, .int .i64 0, .int .i64 0]) 12 96 Tryz.underlying31 hi60 hy0 hy1 hy2 rfl (by decide) _ _ _ rfl e1 fa k fc f rfl HFF.out (g0.t ga) hcf.2 hcf.1 (by unfold maxLen; omega) (by omega) (by simp) ?_)
  intro v' w6 xF hownF hxlF hxgF hgr
  have g6 : G w5 w6 := grow_own ga e1 (Nat.le_refl _) hgr
  try rw [Nat.zero_add, List.nil_append] at hownF
  obtain ⟨aF, cF, rfl⟩ := own_slice hownF
  clear d11 l1 e1 ga hgr
  replace k1 := k1.keep g6
  replace k2 := k2.keep g6
  replace hE := hE.keep g6
  replace hS := hS.keep g6
  replace hown := own_G hown g6
  replace g0 := g0.t g6
  have d11 := k1.cell 11
  have z11 := k1.frozen 11
  have l1 := k1.lt
  go_upto_region 4 with fail
  have p1 : Blk (w6.setCell ⟨w.heap.size, 11, none⟩ (.slice aF k cF)) w.heap.size 35 #[.int .i64 north, .int .i64 cols, .slice (some ⟨gE, 0, none⟩) east.length capE, .int .i64 lofts, .slice (some ⟨gS, 0, none⟩) svs.length capS, .int .i64 wrong, .int .i64 bx, .int .i64 bY, .slice aH n cH, .int .i64 sl, .int .i64 sh, .slice aF k cF, .int .i64 lw, .int .i64 lg, .int .i64 lh, .int .i64 hours, .int .i64 dark] := k1.set_ 11 _
  have hfar := heap_set w6 w.heap.size 11 (.slice aF k cF)
  have p2 : Blk (w6.setCell ⟨w.heap.size, 11, none⟩ (.slice aF k cF)) (w.heap.size + 1) 35 #[.int .i64 0, .int .i64 0, .slice none 0 0, .int .i64 0, .slice none 0 0, .int .i64 0, .int .i64 0, .int .i64 0, .slice none 0 0, .int .i64 0, .int .i64 0, .slice none 0 0, .int .i64 0, .int .i64 0, .int .i64 0, .int .i64 0, .int .i64 0] := (hfar _ (by omega)).trans k2
  replace hE := Blk.apart hE k1 (by decide) hfar
  replace hS := hS.far k1 (by decide) hfar
  replace hown := own_farT hown k1 (by decide) hfar
  replace hownF := own_farT hownF k1 (by decide) hfar
  replace g0 := g0.s (p := ⟨w.heap.size, 11, none⟩) (Nat.le_refl _) (.slice aF k cF)
  clear hfar k1 k2 d11 z11 l1 g6
  generalize w6.setCell ⟨w.heap.size, 11, none⟩ (.slice aF k cF) = w7 at *
  have hBF : w.heap.size ≤ w5.heap.size := hSz5
  generalize w5.heap.size = BF at hownF hBF
  have hcp : CpIn w east svs n k h f gE curE gS capS curS aH cH xH BH aF cF xF BF w7 := ⟨hE, hEt, hS, hown, hxg, hownF, hxgF, ⟨by omega, by omega, hBH, hBF⟩, g0⟩
  clear hE hEt hS hown hxg hownF hxgF
  refine wp_region_lit ?_
  refine wpList_load35 w.heap.size 1 (REL := #[.int .i64 north, .int .i64 cols, .slice (some ⟨gE, 0, none⟩) east.length capE, .int .i64 lofts, .slice (some ⟨gS, 0, none⟩) svs.length capS, .int .i64 wrong, .int .i64 bx, .int .i64 bY, .slice aH n cH, .int .i64 sl, .int .i64 sh, .slice aF k cF, .int .i64 lw, .int .i64 lg, .int .i64 lh, .int .i64 hours, .int .i64 dark]) ⟨_, _, _, _, _, _, _, _, _, _, _, _, _, _, _, _, _, _, _, _, _, _, _, _, _, rfl⟩ rfl rfl rfl p1 ?_
  try simp only [Act.put, List.getElem_toArray, List.getElem_cons_zero, List.getElem_cons_succ, List.setIfInBounds_toArray, List.set_cons_zero, List.set_cons_succ]
  refine wpList_plain rfl fun K hK => ?_
  refine wp_store46 (w.heap.size + 1) 2 17 (OLD := #[.int .i64 0, .int .i64 0, .slice none 0 0, .int .i64 0, .slice none 0 0, .int .i64 0, .int .i64 0, .int .i64 0, .slice none 0 0, .int .i64 0, .int .i64 0, .slice none 0 0, .int .i64 0, .int .i64 0, .int .i64 0, .int .i64 0, .int .i64 0]) (REL := #[.int .i64 north, .int .i64 cols, .slice (some ⟨gE, 0, none⟩) east.length capE, .int .i64 lofts, .slice (some ⟨gS, 0, none⟩) svs.length capS, .int .i64 wrong, .int .i64 bx, .int .i64 bY, .slice aH n cH, .int .i64 sl, .int .i64 sh, .slice aF k cF, .int .i64 lw, .int .i64 lg, .int .i64 lh, .int .i64 hours, .int .i64 dark]) ⟨_, _, _, _, _, _, _, _, _, _, _, _, _, _, _, _, _, _, _, _, _, _, _, _, _, rfl⟩ ⟨_, _, _, _, _, _, _, _, _, _, _, _, _, _, _, _, _, _, _, _, _, _, _, _, _, rfl⟩ rfl rfl rfl p2 fun W2 hB2 hF2 hG2 => ?_
  refine hK _ _ ?_
  have hcp2 := hcp.far p2 (by decide) (by decide) (by decide) (by decide) hF2 (hG2 w (by omega) g0)
  have HF := Lib.hid (HOK.out W2 gE capE curE gS capS curS aH cH xH BH aF cF xF BF hcp2)
  clear hcp hcp2 hF2 hG2 hK p1 p2 HOK
  try simp only [Act.put, List.getElem_toArray, List.getElem_cons_zero, List.getElem_cons_succ, List.setIfInBounds_toArray, List.set_cons_zero, List.set_cons_succ]
  go_wp2
  exact bodyPost_ret (res21 _ _ (w.heap.size + 1) ⟨_, _, _, _, _, _, _, _, _, _, _, _, _, _, _, _, _, _, _, _, _, _, _, _, _, rfl⟩ rfl hB2) rfl HF.out
end
end Go.Proofs.YtcekdljjmfkacaaGreat
set_option linter.unusedSimpArgs false
set_option linter.unusedVariables false
namespace Go.Proofs.YtcekdljjmfkacaaGreat
open Go.RowKit Go.Shelf
attribute [local go_sem] Oper.semAt_some wide_fn wide_dep wideR_fn wideR_dep
theorem rMinute6_any (m : Int) (w : World) : Calls Tryz.prog 46 #[.int .i64 m] w fun e w' => e = .returned (.bool (isInB m 0 9999)) ∧ G w w' := by
  have HW := Lib.hid (fun W : World => rIn6_any m 0 9999 W)
  go_enter Tryz.func46, Tryz.ntmps46
  go_wp2_with fail
  refine (HW.out _).mono ?_
  rintro e w2 ⟨rfl, g2⟩
  go_wp2
  go_ret
  exact ⟨rfl, g2⟩
theorem rHome6_any (north cols lofts wrong bx bY sl sh lw lg lh hours dark i : Int) (el sl' n k : Nat) (ea sa ha fa : Option Addr) (ec sc hc fc : Nat) (w : World) (hn : n ≤ 9223372036854775807) :
    Calls Tryz.prog 41 #[.agg #[.int .i64 north, .int .i64 cols, .slice ea el ec, .int .i64 lofts, .slice sa sl' sc, .int .i64 wrong, .int .i64 bx, .int .i64 bY, .slice ha n hc, .int .i64 sl, .int .i64 sh, .slice fa k fc, .int .i64 lw, .int .i64 lg, .int .i64 lh, .int .i64 hours, .int .i64 dark], .int .i64 i] w fun e w' => e = .returned (.bool (isInB i 0 ((n : Int) - 1))) ∧ G w w' := by
  have HW := Lib.hid (fun W : World => rIn6_any i 0 ((n : Int) - 1) W)
  have g0 : G w (w.alloc (.cells #[.int .i64 north, .int .i64 cols, .slice ea el ec, .int .i64 lofts, .slice sa sl' sc, .int .i64 wrong, .int .i64 bx, .int .i64 bY, .slice ha n hc, .int .i64 sl, .int .i64 sh, .slice fa k fc, .int .i64 lw, .int .i64 lg, .int .i64 lh, .int .i64 hours, .int .i64 dark] 35)) := (G.rf _).a _
  have b0 : Blk (w.alloc (.cells #[.int .i64 north, .int .i64 cols, .slice ea el ec, .int .i64 lofts, .slice sa sl' sc, .int .i64 wrong, .int .i64 bx, .int .i64 bY, .slice ha n hc, .int .i64 sl, .int .i64 sh, .slice fa k fc, .int .i64 lw, .int .i64 lg, .int .i64 lh, .int .i64 hours, .int .i64 dark] 35)) w.heap.size 35 #[.int .i64 north, .int .i64 cols, .slice ea el ec, .int .i64 lofts, .slice sa sl' sc, .int .i64 wrong, .int .i64 bx, .int .i64 bY, .slice ha n hc, .int .i64 sl, .int .i64 sh, .slice fa k fc, .int .i64 lw, .int .i64 lg, .int .i64 lh, .int .i64 hours, .int .i64 dark] := Blk.new _ _ _
  go_enter Tryz.func41, Tryz.ntmps41
  go_upto_region 1 with fail
  change Code.wp _ _ _ _ (w.alloc (.cells #[.int .i64 north, .int .i64 cols, .slice ea el ec, .int .i64 lofts, .slice sa sl' sc, .int .i64 wrong, .int .i64 bx, .int .i64 bY, .slice ha n hc, .int .i64 sl, .int .i64 sh, .slice fa k fc, .int .i64 lw, .int .i64 lg, .int .i64 lh, .int .i64 hours, .int .i64 dark] 35))
  generalize w.alloc (.cells #[.int .i64 north, .int .i64 cols, .slice ea el ec, .int .i64 lofts, .slice sa sl' sc, .int .i64 wrong, .int .i64 bx, .int .i64 bY, .slice ha n hc, .int .i64 sl, .int .i64 sh, .slice fa k fc, .int .i64 lw, .int .i64 lg, .int .i64 lh, .int .i64 hours, .int .i64 dark] 35) = w1 at *
  have e8 := b0.cell 8
  have lb := b0.lt
  go_wp2_with fail
  refine (HW.out _).mono ?_
  rintro e w2 ⟨rfl, g2⟩
  go_wp2
  go_ret
  exact ⟨rfl, g0.t g2⟩
end Go.Proofs.YtcekdljjmfkacaaGreat
set_option linter.unusedSimpArgs false
set_option linter.unusedVariables false
namespace Go.Proofs.YtcekdljjmfkacaaGreat
open Go.RowKit Go.Shelf
theorem isInB_nat {m a : Int} (h : isInB m 0 a = true) : m = (m.toNat : Nat) ∧ (m.toNat : Int) ≤ a := by
  unfold isInB at h
  simp only [Bool.and_eq_true, decide_eq_true_eq] at h
  omega
theorem home_lt {i : Int} {n : Nat} (h : isInB i 0 ((n : Int) - 1) = true) : i = (i.toNat : Nat) ∧ i.toNat < n := by
  unfold isInB at h
  simp only [Bool.and_eq_true, decide_eq_true_eq] at h
  omega
theorem err_good {r : Rl} (h : r.err = 0) : r.good := by
  unfold Rl.err at h
  cases hg : r.goodB
  · rw [hg] at h; cases h
  · exact r.good_iff.1 hg
section
variable (north cols lofts wrong bx bY sl sh lw lg lh hours dark : Int) (east : List Int) (svs : List Sv) (n k : Nat) (h f : Nat → Nat → Int) (ea sa ha fa : Option Addr) (ec sc hc fc : Nat) (w : World)
/-- a copy of a release, as it lies -/
def CpQ (RO : Array Value) (W : World) : Prop := ∃ (ea sa ha fa : Option Addr) (ec sc hc fc : Nat), RO = #[.int .i64 north, .int .i64 cols, .slice ea east.length ec, .int .i64 lofts, .slice sa svs.length sc, .int .i64 wrong, .int .i64 bx, .int .i64 bY, .slice ha n hc, .int .i64 sl, .int .i64 sh, .slice fa k fc, .int .i64 lw, .int .i64 lg, .int .i64 lh, .int .i64 hours, .int .i64 dark] ∧ Laid east svs n k h f ea sa ha fa W
theorem copy_q (L : Laid east svs n k h f ea sa ha fa w) (hl : n ≤ 20 ∧ k ≤ 30 ∧ east.length ≤ 40 ∧ svs.length ≤ 60) (hcaps : (ea = none → ec = 0) ∧ (sa = none → sc = 0) ∧ ((ha = none → hc = 0) ∧ n ≤ hc) ∧ (fa = none → fc = 0) ∧ k ≤ fc) :
    Calls Tryz.prog 8 #[.agg #[.int .i64 north, .int .i64 cols, .slice ea east.length ec, .int .i64 lofts, .slice sa svs.length sc, .int .i64 wrong, .int .i64 bx, .int .i64 bY, .slice ha n hc, .int .i64 sl, .int .i64 sh, .slice fa k fc, .int .i64 lw, .int .i64 lg, .int .i64 lh, .int .i64 hours, .int .i64 dark]] w fun e w' => ∃ RO, e = .returned (.agg RO) ∧ G w w' ∧ CpQ north cols lofts wrong bx bY sl sh lw lg lh hours dark east svs n k h f RO w' := by
  refine (rCopy_all north cols lofts wrong bx bY sl sh lw lg lh hours dark east svs n k h f ea sa ha fa ec sc hc fc w L.he L.hs L.hH L.hF (by omega) (by omega) (by omega) (by omega) hcaps.1 hcaps.2.1 hcaps.2.2.1 hcaps.2.2.2).mono fun e w' hp => ?_
  obtain ⟨gE, capE, curE, gS, capS, curS, aH, cH, xH, BH, aF, cF, xF, BF, rfl, hcp⟩ := hp
  exact ⟨_, rfl, hcp.hG, _, _, _, _, _, _, _, _, rfl, ⟨hcp.ints, hcp.svsAt, L.hl, L.hl2, hcp.homes, L.hn, hcp.fronts, L.hk⟩⟩
theorem CpQ_keep {RO : Array Value} {W W' : World} (h0 : CpQ north cols lofts wrong bx bY sl sh lw lg lh hours dark east svs n k h f RO W) (hG : G W W') : CpQ north cols lofts wrong bx bY sl sh lw lg lh hours dark east svs n k h f RO W' := by
  obtain ⟨ea', sa', ha', fa', ec', sc', hc', fc', rfl, L'⟩ := h0
  exact ⟨ea', sa', ha', fa', ec', sc', hc', fc', rfl, L'.keep hG⟩
theorem copy_r (L : Laid east svs n k h f ea sa ha fa w) (hl : n ≤ 20 ∧ k ≤ 30 ∧ east.length ≤ 40 ∧ svs.length ≤ 60) (hcaps : (ea = none → ec = 0) ∧ (sa = none → sc = 0) ∧ ((ha = none → hc = 0) ∧ n ≤ hc) ∧ (fa = none → fc = 0) ∧ k ≤ fc) :
    Calls Tryz.prog 8 #[.agg #[.int .i64 north, .int .i64 cols, .slice ea east.length ec, .int .i64 lofts, .slice sa svs.length sc, .int .i64 wrong, .int .i64 bx, .int .i64 bY, .slice ha n hc, .int .i64 sl, .int .i64 sh, .slice fa k fc, .int .i64 lw, .int .i64 lg, .int .i64 lh, .int .i64 hours, .int .i64 dark]] w fun e w' => ∃ RO, e = .returned (.agg RO) ∧ IsRel RO ∧ G w w' ∧ CpQ north cols lofts wrong bx bY sl sh lw lg lh hours dark east svs n k h f RO w' :=
  (copy_q north cols lofts wrong bx bY sl sh lw lg lh hours dark east svs n k h f ea sa ha fa ec sc hc fc w L hl hcaps).mono fun e w' hp => by
    obtain ⟨RO, rfl, hG, hq⟩ := hp
    refine ⟨RO, rfl, ?_, hG, hq⟩
    obtain ⟨ea', sa', ha', fa', ec', sc', hc', fc', rfl, L'⟩ := hq
    exact isRelV
end
end Go.Proofs.YtcekdljjmfkacaaGreat
set_option linter.unusedSimpArgs false
set_option linter.unusedVariables false
namespace Go.Proofs.YtcekdljjmfkacaaGreat
open Go.RowKit Go.Shelf
section
variable {r : Rl} {w : World} {i mi k : Nat}
theorem pv_get (h : r.Nums) (hi : i < r.n) (hk : k < r.ns i) : (pvL (r.ln i) (r.ns i) r.sl r.sh mi (r.ns i))[k * 2]? = some (.int .i64 ((mi + r.st i k 2 : Nat) : Int)) ∧ (pvL (r.ln i) (r.ns i) r.sl r.sh mi (r.ns i))[k * 2 + 1]? = some (.int .i64 ((mi + r.st i k 3 : Nat) : Int)) := by
  have := flat2q_get (plo (r.ln i) r.sh mi) (phi (r.ln i) (r.ns i) r.sl mi) (r.ns i) k hk
  unfold plo phi at this
  rw [plo_eq hk, phi_eq h hi hk] at this
  exact this
end
end Go.Proofs.YtcekdljjmfkacaaGreat
