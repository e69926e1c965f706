import Derived.Test.YtcekdljjmfkacaaGreatSa
import Derived.Deep.Cut
set_option linter.unusedSimpArgs false
set_option linter.unusedVariables false
namespace Go.Proofs.YtcekdljjmfkacaaGreat
open Go.RowKit Go.Shelf
attribute [local go_sem] Oper.semAt_some wide_fn wide_dep wideR_fn wideR_dep

set_option maxRecDepth 100000 in
set_option maxHeartbeats 8000000 in
theorem Copy_nilA (north cols lofts wrong : Int) (svs : List Sv) (sa : Option Addr) (sc : Nat) (w : World) (hs : SvsAt w sa svs) (hl2 : svs.length ≤ 100) (hn : sa = none → sc = 0) :
    Calls Tryz.prog 30 #[.agg #[.int .i64 north, .int .i64 cols, .slice none 0 0, .int .i64 lofts, .slice sa svs.length sc, .int .i64 wrong]] w (CopyFull north cols lofts wrong [] svs w) := by
  obtain ⟨i0, hi0, hz0, hz1, hz2⟩ := info_parts info3
  obtain ⟨i6, hi6, hy0, hy1, hy2⟩ := info_parts info56
  have g0 : G w (((w.alloc (.cells #[.int .i64 north, .int .i64 cols, .slice none 0 0, .int .i64 lofts, .slice sa svs.length sc, .int .i64 wrong] 25)).alloc (.cells #[.int .i64 0, .int .i64 0, .slice none 0 0, .int .i64 0, .slice none 0 0, .int .i64 0] 25)).alloc (.cells #[] 3)) := (((G.rf w).a _).a _).a _
  have b0 : Blk (((w.alloc (.cells #[.int .i64 north, .int .i64 cols, .slice none 0 0, .int .i64 lofts, .slice sa svs.length sc, .int .i64 wrong] 25)).alloc (.cells #[.int .i64 0, .int .i64 0, .slice none 0 0, .int .i64 0, .slice none 0 0, .int .i64 0] 25)).alloc (.cells #[] 3)) w.heap.size 25 #[.int .i64 north, .int .i64 cols, .slice none 0 0, .int .i64 lofts, .slice sa svs.length sc, .int .i64 wrong] := ((Blk.new w _ _).alloc _).alloc _
  have b1 : Blk (((w.alloc (.cells #[.int .i64 north, .int .i64 cols, .slice none 0 0, .int .i64 lofts, .slice sa svs.length sc, .int .i64 wrong] 25)).alloc (.cells #[.int .i64 0, .int .i64 0, .slice none 0 0, .int .i64 0, .slice none 0 0, .int .i64 0] 25)).alloc (.cells #[] 3)) (w.heap.size + 1) 25 #[.int .i64 0, .int .i64 0, .slice none 0 0, .int .i64 0, .slice none 0 0, .int .i64 0] := (Blk.new1 w _ _ _).alloc _
  have b2 := own_empty (Blk.new2 w (.cells #[.int .i64 north, .int .i64 cols, .slice none 0 0, .int .i64 lofts, .slice sa svs.length sc, .int .i64 wrong] 25) (.cells #[.int .i64 0, .int .i64 0, .slice none 0 0, .int .i64 0, .slice none 0 0, .int .i64 0] 25) 3 #[]) 1
  go_enter Tryz.func30, Tryz.ntmps30
  go_upto_region 2 with (at_builtin; refine wpList_append_own_none rfl _ _ 22 rfl (w.heap.size + 1 + 1) 3 i0 1 Tryz.underlying22 hi0 _ _ _ rfl b2 rfl ?_)
  have eW : ((((w.alloc (.cells #[.int .i64 north, .int .i64 cols, .slice none 0 0, .int .i64 lofts, .slice sa svs.length sc, .int .i64 wrong] 25)).alloc (.cells #[.int .i64 0, .int .i64 0, .slice none 0 0, .int .i64 0, .slice none 0 0, .int .i64 0] 25)).alloc (.cells #[] 3)).setCell ⟨w.heap.size, 2, none⟩ (.slice (some ⟨w.heap.size + 1 + 1, 0, none⟩) 0 0)) = (((w.alloc (.cells #[.int .i64 north, .int .i64 cols, .slice (some ⟨w.heap.size + 1 + 1, 0, none⟩) 0 0, .int .i64 lofts, .slice sa svs.length sc, .int .i64 wrong] 25)).alloc (.cells #[.int .i64 0, .int .i64 0, .slice none 0 0, .int .i64 0, .slice none 0 0, .int .i64 0] 25)).alloc (.cells #[] 3)) := by go_simp
  rw [← eW]
  clear eW
  have hE : Blk (((w.alloc (.cells #[.int .i64 north, .int .i64 cols, .slice none 0 0, .int .i64 lofts, .slice sa svs.length sc, .int .i64 wrong] 25)).alloc (.cells #[.int .i64 0, .int .i64 0, .slice none 0 0, .int .i64 0, .slice none 0 0, .int .i64 0] 25)).alloc (.cells #[] 3)) (w.heap.size + 1 + 1) 3 #[] := Blk.new2 w _ _ _ _
  clear b2
  generalize hw1 : (((w.alloc (.cells #[.int .i64 north, .int .i64 cols, .slice none 0 0, .int .i64 lofts, .slice sa svs.length sc, .int .i64 wrong] 25)).alloc (.cells #[.int .i64 0, .int .i64 0, .slice none 0 0, .int .i64 0, .slice none 0 0, .int .i64 0] 25)).alloc (.cells #[] 3)) = w1 at *
  have hz : w.heap.size + 1 + 1 ≤ w1.heap.size := by have := b1.lt; omega
  have hgE : w.heap.size + 1 + 1 ≤ w.heap.size + 1 + 1 := Nat.le_refl _
  have m0 := b0.cell 0
  have z2 := b0.frozen 2
  have c2 := b0.cell 2
  have l0 := b0.lt
  have n0 := (b0.set_ 2 (.slice (some ⟨(w.heap.size + 1 + 1), 0, none⟩) 0 0)).alloc (.cells #[] 135)
  have n1 := (b1.far (p := ⟨w.heap.size, 2, none⟩) (by simp) (.slice (some ⟨(w.heap.size + 1 + 1), 0, none⟩) 0 0)).alloc (.cells #[] 135)
  have nE := (hE.far (p := ⟨w.heap.size, 2, none⟩) (by first | (simp; done) | (simp; omega)) (.slice (some ⟨(w.heap.size + 1 + 1), 0, none⟩) 0 0)).alloc (.cells #[] 135)
  have nG := (g0.s (p := ⟨w.heap.size, 2, none⟩) (Nat.le_refl _) (.slice (some ⟨(w.heap.size + 1 + 1), 0, none⟩) 0 0)).a (.cells #[] 135)
  have n2 := own_empty (Blk.new (w1.setCell ⟨w.heap.size, 2, none⟩ (.slice (some ⟨(w.heap.size + 1 + 1), 0, none⟩) 0 0)) 135 #[]) 10
  have nZ : (w1.setCell ⟨w.heap.size, 2, none⟩ (.slice (some ⟨(w.heap.size + 1 + 1), 0, none⟩) 0 0)).heap.size = w1.heap.size := by simp [World.setCell]
  rw [nZ] at n2
  have hnE : (w.heap.size + 1 + 1) < w1.heap.size := hE.lt
  have c4 := b0.cell 4
  have lM : w.heap.size < w1.heap.size := b0.lt
  have lM1 : w.heap.size + 1 < w1.heap.size := b1.lt
  rcases src_full hs hn with ⟨rfl, hs0, rfl⟩ | ⟨ad, rfl, hl', hc', h1'⟩
  · clear m0 z2 c2 c4 l0
    have d0 := b0.cell 0
    have d1 := b0.cell 1
    have d2 := b0.cell 2
    have d3 := b0.cell 3
    have d4 := b0.cell 4
    have d5 := b0.cell 5
    have y2 := b0.frozen 2
    have y4 := b0.frozen 4
    have k0 := b1.cell 0
    have k1 := b1.cell 1
    have k2 := b1.cell 2
    have k3 := b1.cell 3
    have k4 := b1.cell 4
    have k5 := b1.cell 5
    have f0 := b1.frozen 0
    have f1 := b1.frozen 1
    have f2 := b1.frozen 2
    have f3 := b1.frozen 3
    have f4 := b1.frozen 4
    have f5 := b1.frozen 5
    go_wp2_with (at_builtin; refine wpList_append_own_none rfl _ _ 23 rfl (w1.heap.size) 135 i6 10 Tryz.underlying23 hi6 _ _ _ rfl n2 rfl ?_)
    have bf := ((((((((b1.far (p := ⟨w.heap.size, 2, none⟩) (by simp) (.slice (some ⟨(w.heap.size + 1 + 1), 0, none⟩) 0 0)).far (p := ⟨w.heap.size, 4, none⟩) (by simp) (.slice (some ⟨w1.heap.size, 0, none⟩) 0 0)).set_ 0 (.int .i64 north)).set_ 1 (.int .i64 cols)).set_ 2 (.slice (some ⟨(w.heap.size + 1 + 1), 0, none⟩) 0 0)).set_ 3 (.int .i64 lofts)).set_ 4 (.slice (some ⟨w1.heap.size, 0, none⟩) 0 0)).set_ 5 (.int .i64 wrong)).alloc (.cells #[] 135)
    refine bodyPost_ret (res28 _ _ (w.heap.size + 1) _ _ _ _ _ _ rfl (bf.cell 0) (bf.cell 1) (bf.cell 2) (bf.cell 3) (bf.cell 4) (bf.cell 5)) rfl ?_
    exact ⟨(w.heap.size + 1 + 1), 0, (#[] : Array Value), w1.heap.size, 0, #[], by rw [hs0]; rfl, by omega, ((((((((hE.far (p := ⟨w.heap.size, 2, none⟩) (by first | (simp; done) | (simp; omega)) (.slice (some ⟨(w.heap.size + 1 + 1), 0, none⟩) 0 0)).far (p := ⟨w.heap.size, 4, none⟩) (by first | (simp; done) | (simp; omega)) (.slice (some ⟨w1.heap.size, 0, none⟩) 0 0)).far (p := ⟨w.heap.size + 1, 0, none⟩) (by first | (simp; done) | (simp; omega)) (.int .i64 north)).far (p := ⟨w.heap.size + 1, 1, none⟩) (by first | (simp; done) | (simp; omega)) (.int .i64 cols)).far (p := ⟨w.heap.size + 1, 2, none⟩) (by first | (simp; done) | (simp; omega)) (.slice (some ⟨(w.heap.size + 1 + 1), 0, none⟩) 0 0)).far (p := ⟨w.heap.size + 1, 3, none⟩) (by first | (simp; done) | (simp; omega)) (.int .i64 lofts)).far (p := ⟨w.heap.size + 1, 4, none⟩) (by first | (simp; done) | (simp; omega)) (.slice (some ⟨w1.heap.size, 0, none⟩) 0 0)).far (p := ⟨w.heap.size + 1, 5, none⟩) (by first | (simp; done) | (simp; omega)) (.int .i64 wrong)).alloc _, by simp, ((((((((g0.s (p := ⟨w.heap.size, 2, none⟩) (by simp) (.slice (some ⟨(w.heap.size + 1 + 1), 0, none⟩) 0 0)).s (p := ⟨w.heap.size, 4, none⟩) (by simp) (.slice (some ⟨w1.heap.size, 0, none⟩) 0 0)).s (p := ⟨w.heap.size + 1, 0, none⟩) (by simp) (.int .i64 north)).s (p := ⟨w.heap.size + 1, 1, none⟩) (by simp) (.int .i64 cols)).s (p := ⟨w.heap.size + 1, 2, none⟩) (by simp) (.slice (some ⟨(w.heap.size + 1 + 1), 0, none⟩) 0 0)).s (p := ⟨w.heap.size + 1, 3, none⟩) (by simp) (.int .i64 lofts)).s (p := ⟨w.heap.size + 1, 4, none⟩) (by simp) (.slice (some ⟨w1.heap.size, 0, none⟩) 0 0)).s (p := ⟨w.heap.size + 1, 5, none⟩) (by simp) (.int .i64 wrong)).a _, by omega, Blk.newAt (by simp [World.setCell]) _ _, by omega, by unfold maxLen; omega, rfl, by rw [List.eq_nil_of_length_eq_zero hs0]; rfl⟩
  · have hcn := hc' _ nG
    have HCN := Lib.hid hcn
    clear hc' hcn
    go_wp2_with (at_builtin; refine wpList_append_own _ rfl _ _ 23 rfl w1.heap.size 135 i6 (.agg #[.int .i64 0, .int .i64 0, .int .i64 0, .int .i64 0, .int .i64 0, .int .i64 0, .int .i64 0, .int .i64 0, .int .i64 0, .int .i64 0]) 10 80 Tryz.underlying23 hi6 hy0 hy1 hy2 rfl (by decide) _ _ _ rfl n2 ad svs.length sc (svCells svs) rfl hl' HCN.out h1' (by unfold maxLen; omega) (by omega) (by simp) ?_)
    intro v2 w3 hown hg hnl
    rw [show (Value.slice (some ⟨w1.heap.size, 0, none⟩) 0 0).ownBlock = some w1.heap.size from rfl] at hg
    have p0 := n0.grown hg (fun e => by injection e with e; omega)
    have p1 := n1.grown hg (fun e => by injection e with e; omega)
    have pE := nE.grown hg (fun e => by injection e with e; omega)
    have pG : G w w3 := ((G.fr (R := fun _ => False) nG).grown hg (fun g e => .inr (by injection e with e; omega))).toG (fun _ _ h => h)
    obtain ⟨gS, cap2, curS, rfl, hgS, pS, q1, q2, q3, q4⟩ : ∃ gS cap2 curS, v2 = .slice (some ⟨gS, 0, none⟩) svs.length cap2 ∧ w1.heap.size ≤ gS ∧ Blk w3 gS 135 curS ∧ svs.length ≤ cap2 ∧ cap2 ≤ maxLen ∧ curS.size = cap2 * 10 ∧ curS.toList.take (svs.length * 10) = svCells svs := by
      rcases hown.2 with ⟨h, _⟩ | ⟨gb, cap, cur, h, h2, h3, r1, r2, r3, r4⟩
      · exact (hnl h).elim
      · exact ⟨gb, cap, cur, by simpa using h, h2, h3, by simpa using r1, r2, r3, by simpa using r4⟩
    clear hown hg hnl n0 n1 n2 nE nG b0 b1 hE m0 z2 c2 c4 HCN h1' hl'
    have d0 := p0.cell 0
    have d1 := p0.cell 1
    have d2 := p0.cell 2
    have d3 := p0.cell 3
    have d4 := p0.cell 4
    have d5 := p0.cell 5
    have y2 := p0.frozen 2
    have y4 := p0.frozen 4
    have k0 := p1.cell 0
    have k1 := p1.cell 1
    have k2 := p1.cell 2
    have k3 := p1.cell 3
    have k4 := p1.cell 4
    have k5 := p1.cell 5
    have f0 := p1.frozen 0
    have f1 := p1.frozen 1
    have f2 := p1.frozen 2
    have f3 := p1.frozen 3
    have f4 := p1.frozen 4
    have f5 := p1.frozen 5
    have lM := p0.lt
    have lM1 := p1.lt
    go_wp2
    have bf := (((((((p1.far (p := ⟨w.heap.size, 4, none⟩) (by simp) (.slice (some ⟨gS, 0, none⟩) svs.length cap2)).set_ 0 (.int .i64 north)).set_ 1 (.int .i64 cols)).set_ 2 (.slice (some ⟨(w.heap.size + 1 + 1), 0, none⟩) 0 0)).set_ 3 (.int .i64 lofts)).set_ 4 (.slice (some ⟨gS, 0, none⟩) svs.length cap2)).set_ 5 (.int .i64 wrong))
    refine bodyPost_ret (res28 _ _ (w.heap.size + 1) _ _ _ _ _ _ rfl (bf.cell 0) (bf.cell 1) (bf.cell 2) (bf.cell 3) (bf.cell 4) (bf.cell 5)) rfl ?_
    exact ⟨(w.heap.size + 1 + 1), 0, (#[] : Array Value), gS, cap2, curS, rfl, by omega, (((((((pE.far (p := ⟨w.heap.size, 4, none⟩) (by first | (simp; done) | (simp; omega)) (.slice (some ⟨gS, 0, none⟩) svs.length cap2)).far (p := ⟨w.heap.size + 1, 0, none⟩) (by first | (simp; done) | (simp; omega)) (.int .i64 north)).far (p := ⟨w.heap.size + 1, 1, none⟩) (by first | (simp; done) | (simp; omega)) (.int .i64 cols)).far (p := ⟨w.heap.size + 1, 2, none⟩) (by first | (simp; done) | (simp; omega)) (.slice (some ⟨(w.heap.size + 1 + 1), 0, none⟩) 0 0)).far (p := ⟨w.heap.size + 1, 3, none⟩) (by first | (simp; done) | (simp; omega)) (.int .i64 lofts)).far (p := ⟨w.heap.size + 1, 4, none⟩) (by first | (simp; done) | (simp; omega)) (.slice (some ⟨gS, 0, none⟩) svs.length cap2)).far (p := ⟨w.heap.size + 1, 5, none⟩) (by first | (simp; done) | (simp; omega)) (.int .i64 wrong)), by simp, (((((((pG.s (p := ⟨w.heap.size, 4, none⟩) (by simp) (.slice (some ⟨gS, 0, none⟩) svs.length cap2)).s (p := ⟨w.heap.size + 1, 0, none⟩) (by simp) (.int .i64 north)).s (p := ⟨w.heap.size + 1, 1, none⟩) (by simp) (.int .i64 cols)).s (p := ⟨w.heap.size + 1, 2, none⟩) (by simp) (.slice (some ⟨(w.heap.size + 1 + 1), 0, none⟩) 0 0)).s (p := ⟨w.heap.size + 1, 3, none⟩) (by simp) (.int .i64 lofts)).s (p := ⟨w.heap.size + 1, 4, none⟩) (by simp) (.slice (some ⟨gS, 0, none⟩) svs.length cap2)).s (p := ⟨w.heap.size + 1, 5, none⟩) (by simp) (.int .i64 wrong)), by omega, (((((((pS.far (p := ⟨w.heap.size, 4, none⟩) (by first | (simp; done) | (simp; omega)) (.slice (some ⟨gS, 0, none⟩) svs.length cap2)).far (p := ⟨w.heap.size + 1, 0, none⟩) (by first | (simp; done) | (simp; omega)) (.int .i64 north)).far (p := ⟨w.heap.size + 1, 1, none⟩) (by first | (simp; done) | (simp; omega)) (.int .i64 cols)).far (p := ⟨w.heap.size + 1, 2, none⟩) (by first | (simp; done) | (simp; omega)) (.slice (some ⟨(w.heap.size + 1 + 1), 0, none⟩) 0 0)).far (p := ⟨w.heap.size + 1, 3, none⟩) (by first | (simp; done) | (simp; omega)) (.int .i64 lofts)).far (p := ⟨w.heap.size + 1, 4, none⟩) (by first | (simp; done) | (simp; omega)) (.slice (some ⟨gS, 0, none⟩) svs.length cap2)).far (p := ⟨w.heap.size + 1, 5, none⟩) (by first | (simp; done) | (simp; omega)) (.int .i64 wrong)), q1, q2, q3, q4⟩
set_option maxRecDepth 100000 in
set_option maxHeartbeats 8000000 in
theorem Copy_nilB (north cols lofts wrong : Int) (svs : List Sv) (ad0 : Addr) (sa : Option Addr) (ec sc : Nat) (w : World) (hs : SvsAt w sa svs) (hl2 : svs.length ≤ 100) (hn : sa = none → sc = 0) :
    Calls Tryz.prog 30 #[.agg #[.int .i64 north, .int .i64 cols, .slice (some ad0) 0 ec, .int .i64 lofts, .slice sa svs.length sc, .int .i64 wrong]] w (CopyFull north cols lofts wrong [] svs w) := by
  obtain ⟨i0, hi0, hz0, hz1, hz2⟩ := info_parts info3
  obtain ⟨i6, hi6, hy0, hy1, hy2⟩ := info_parts info56
  have g0 : G w (((w.alloc (.cells #[.int .i64 north, .int .i64 cols, .slice (some ad0) 0 ec, .int .i64 lofts, .slice sa svs.length sc, .int .i64 wrong] 25)).alloc (.cells #[.int .i64 0, .int .i64 0, .slice none 0 0, .int .i64 0, .slice none 0 0, .int .i64 0] 25)).alloc (.cells #[] 3)) := (((G.rf w).a _).a _).a _
  have b0 : Blk (((w.alloc (.cells #[.int .i64 north, .int .i64 cols, .slice (some ad0) 0 ec, .int .i64 lofts, .slice sa svs.length sc, .int .i64 wrong] 25)).alloc (.cells #[.int .i64 0, .int .i64 0, .slice none 0 0, .int .i64 0, .slice none 0 0, .int .i64 0] 25)).alloc (.cells #[] 3)) w.heap.size 25 #[.int .i64 north, .int .i64 cols, .slice (some ad0) 0 ec, .int .i64 lofts, .slice sa svs.length sc, .int .i64 wrong] := ((Blk.new w _ _).alloc _).alloc _
  have b1 : Blk (((w.alloc (.cells #[.int .i64 north, .int .i64 cols, .slice (some ad0) 0 ec, .int .i64 lofts, .slice sa svs.length sc, .int .i64 wrong] 25)).alloc (.cells #[.int .i64 0, .int .i64 0, .slice none 0 0, .int .i64 0, .slice none 0 0, .int .i64 0] 25)).alloc (.cells #[] 3)) (w.heap.size + 1) 25 #[.int .i64 0, .int .i64 0, .slice none 0 0, .int .i64 0, .slice none 0 0, .int .i64 0] := (Blk.new1 w _ _ _).alloc _
  have b2 := own_empty (Blk.new2 w (.cells #[.int .i64 north, .int .i64 cols, .slice (some ad0) 0 ec, .int .i64 lofts, .slice sa svs.length sc, .int .i64 wrong] 25) (.cells #[.int .i64 0, .int .i64 0, .slice none 0 0, .int .i64 0, .slice none 0 0, .int .i64 0] 25) 3 #[]) 1
  go_enter Tryz.func30, Tryz.ntmps30
  go_wp2_with (at_builtin; refine wpList_append_own _ rfl _ _ 22 rfl (w.heap.size + 1 + 1) 3 i0 (.int .i64 0) 1 8 Tryz.underlying22 hi0 hz0 hz1 hz2 rfl (by decide) _ _ _ rfl b2 ad0 0 ec [] rfl rfl (fun j u h => by simp at h) (by simp) (by unfold maxLen; omega) (by omega) (by simp) ?_)
  intro v' w1 hown hg hnl
  rw [show (Value.slice (some ⟨w.heap.size + 1 + 1, 0, none⟩) 0 0).ownBlock = some (w.heap.size + 1 + 1) from rfl] at hg
  replace b0 := b0.grown hg (fun e => by injection e with e; omega)
  replace b1 := b1.grown hg (fun e => by injection e with e; omega)
  have f1 : Fr (fun _ => False) w w1 := (G.fr g0).grown hg (fun g e => .inr (by injection e with e; omega))
  replace g0 : G w w1 := f1.toG (fun _ _ h => h)
  have hz : w.heap.size + 1 + 1 ≤ w1.heap.size := by have := b1.lt; omega
  obtain ⟨gE, capE, curE, rfl, hgE, hE⟩ : ∃ gE capE curE, v' = .slice (some ⟨gE, 0, none⟩) 0 capE ∧ w.heap.size + 1 + 1 ≤ gE ∧ Blk w1 gE 3 curE := by
    rcases hown.2 with ⟨h, _⟩ | ⟨gb, cap, cur, h1, h2, h3, r1, r2, r3, r4⟩
    · exact (hnl h).elim
    · exact ⟨gb, cap, cur, by simpa using h1, h2, h3⟩
  clear hown b2 hg f1 hnl
  have m0 := b0.cell 0
  have z2 := b0.frozen 2
  have c2 := b0.cell 2
  have l0 := b0.lt
  have n0 := (b0.set_ 2 (.slice (some ⟨gE, 0, none⟩) 0 capE)).alloc (.cells #[] 135)
  have n1 := (b1.far (p := ⟨w.heap.size, 2, none⟩) (by simp) (.slice (some ⟨gE, 0, none⟩) 0 capE)).alloc (.cells #[] 135)
  have nE := (hE.far (p := ⟨w.heap.size, 2, none⟩) (by simp; omega) (.slice (some ⟨gE, 0, none⟩) 0 capE)).alloc (.cells #[] 135)
  have nG := (g0.s (p := ⟨w.heap.size, 2, none⟩) (Nat.le_refl _) (.slice (some ⟨gE, 0, none⟩) 0 capE)).a (.cells #[] 135)
  have n2 := own_empty (Blk.new (w1.setCell ⟨w.heap.size, 2, none⟩ (.slice (some ⟨gE, 0, none⟩) 0 capE)) 135 #[]) 10
  have nZ : (w1.setCell ⟨w.heap.size, 2, none⟩ (.slice (some ⟨gE, 0, none⟩) 0 capE)).heap.size = w1.heap.size := by simp [World.setCell]
  rw [nZ] at n2
  have hnE : gE < w1.heap.size := hE.lt
  have c4 := b0.cell 4
  have lM : w.heap.size < w1.heap.size := b0.lt
  have lM1 : w.heap.size + 1 < w1.heap.size := b1.lt
  rcases src_full hs hn with ⟨rfl, hs0, rfl⟩ | ⟨ad, rfl, hl', hc', h1'⟩
  · clear m0 z2 c2 c4 l0
    have d0 := b0.cell 0
    have d1 := b0.cell 1
    have d2 := b0.cell 2
    have d3 := b0.cell 3
    have d4 := b0.cell 4
    have d5 := b0.cell 5
    have y2 := b0.frozen 2
    have y4 := b0.frozen 4
    have k0 := b1.cell 0
    have k1 := b1.cell 1
    have k2 := b1.cell 2
    have k3 := b1.cell 3
    have k4 := b1.cell 4
    have k5 := b1.cell 5
    have f0 := b1.frozen 0
    have f1 := b1.frozen 1
    have f2 := b1.frozen 2
    have f3 := b1.frozen 3
    have f4 := b1.frozen 4
    have f5 := b1.frozen 5
    go_wp2_with (at_builtin; refine wpList_append_own_none rfl _ _ 23 rfl (w1.heap.size) 135 i6 10 Tryz.underlying23 hi6 _ _ _ rfl n2 rfl ?_)
    have bf := ((((((((b1.far (p := ⟨w.heap.size, 2, none⟩) (by simp) (.slice (some ⟨gE, 0, none⟩) 0 capE)).far (p := ⟨w.heap.size, 4, none⟩) (by simp) (.slice (some ⟨w1.heap.size, 0, none⟩) 0 0)).set_ 0 (.int .i64 north)).set_ 1 (.int .i64 cols)).set_ 2 (.slice (some ⟨gE, 0, none⟩) 0 capE)).set_ 3 (.int .i64 lofts)).set_ 4 (.slice (some ⟨w1.heap.size, 0, none⟩) 0 0)).set_ 5 (.int .i64 wrong)).alloc (.cells #[] 135)
    refine bodyPost_ret (res28 _ _ (w.heap.size + 1) _ _ _ _ _ _ rfl (bf.cell 0) (bf.cell 1) (bf.cell 2) (bf.cell 3) (bf.cell 4) (bf.cell 5)) rfl ?_
    exact ⟨gE, capE, curE, w1.heap.size, 0, #[], by rw [hs0]; rfl, by omega, ((((((((hE.far (p := ⟨w.heap.size, 2, none⟩) (by simp; omega) (.slice (some ⟨gE, 0, none⟩) 0 capE)).far (p := ⟨w.heap.size, 4, none⟩) (by simp; omega) (.slice (some ⟨w1.heap.size, 0, none⟩) 0 0)).far (p := ⟨w.heap.size + 1, 0, none⟩) (by simp; omega) (.int .i64 north)).far (p := ⟨w.heap.size + 1, 1, none⟩) (by simp; omega) (.int .i64 cols)).far (p := ⟨w.heap.size + 1, 2, none⟩) (by simp; omega) (.slice (some ⟨gE, 0, none⟩) 0 capE)).far (p := ⟨w.heap.size + 1, 3, none⟩) (by simp; omega) (.int .i64 lofts)).far (p := ⟨w.heap.size + 1, 4, none⟩) (by simp; omega) (.slice (some ⟨w1.heap.size, 0, none⟩) 0 0)).far (p := ⟨w.heap.size + 1, 5, none⟩) (by simp; omega) (.int .i64 wrong)).alloc _, by simp, ((((((((g0.s (p := ⟨w.heap.size, 2, none⟩) (by simp) (.slice (some ⟨gE, 0, none⟩) 0 capE)).s (p := ⟨w.heap.size, 4, none⟩) (by simp) (.slice (some ⟨w1.heap.size, 0, none⟩) 0 0)).s (p := ⟨w.heap.size + 1, 0, none⟩) (by simp) (.int .i64 north)).s (p := ⟨w.heap.size + 1, 1, none⟩) (by simp) (.int .i64 cols)).s (p := ⟨w.heap.size + 1, 2, none⟩) (by simp) (.slice (some ⟨gE, 0, none⟩) 0 capE)).s (p := ⟨w.heap.size + 1, 3, none⟩) (by simp) (.int .i64 lofts)).s (p := ⟨w.heap.size + 1, 4, none⟩) (by simp) (.slice (some ⟨w1.heap.size, 0, none⟩) 0 0)).s (p := ⟨w.heap.size + 1, 5, none⟩) (by simp) (.int .i64 wrong)).a _, by omega, Blk.newAt (by simp [World.setCell]) _ _, by omega, by unfold maxLen; omega, rfl, by rw [List.eq_nil_of_length_eq_zero hs0]; rfl⟩
  · have hcn := hc' _ nG
    have HCN := Lib.hid hcn
    clear hc' hcn
    go_wp2_with (at_builtin; refine wpList_append_own _ rfl _ _ 23 rfl w1.heap.size 135 i6 (.agg #[.int .i64 0, .int .i64 0, .int .i64 0, .int .i64 0, .int .i64 0, .int .i64 0, .int .i64 0, .int .i64 0, .int .i64 0, .int .i64 0]) 10 80 Tryz.underlying23 hi6 hy0 hy1 hy2 rfl (by decide) _ _ _ rfl n2 ad svs.length sc (svCells svs) rfl hl' HCN.out h1' (by unfold maxLen; omega) (by omega) (by simp) ?_)
    intro v2 w3 hown hg hnl
    rw [show (Value.slice (some ⟨w1.heap.size, 0, none⟩) 0 0).ownBlock = some w1.heap.size from rfl] at hg
    have p0 := n0.grown hg (fun e => by injection e with e; omega)
    have p1 := n1.grown hg (fun e => by injection e with e; omega)
    have pE := nE.grown hg (fun e => by injection e with e; omega)
    have pG : G w w3 := ((G.fr (R := fun _ => False) nG).grown hg (fun g e => .inr (by injection e with e; omega))).toG (fun _ _ h => h)
    obtain ⟨gS, cap2, curS, rfl, hgS, pS, q1, q2, q3, q4⟩ : ∃ gS cap2 curS, v2 = .slice (some ⟨gS, 0, none⟩) svs.length cap2 ∧ w1.heap.size ≤ gS ∧ Blk w3 gS 135 curS ∧ svs.length ≤ cap2 ∧ cap2 ≤ maxLen ∧ curS.size = cap2 * 10 ∧ curS.toList.take (svs.length * 10) = svCells svs := by
      rcases hown.2 with ⟨h, _⟩ | ⟨gb, cap, cur, h, h2, h3, r1, r2, r3, r4⟩
      · exact (hnl h).elim
      · exact ⟨gb, cap, cur, by simpa using h, h2, h3, by simpa using r1, r2, r3, by simpa using r4⟩
    clear hown hg hnl n0 n1 n2 nE nG b0 b1 hE m0 z2 c2 c4 HCN h1' hl'
    have d0 := p0.cell 0
    have d1 := p0.cell 1
    have d2 := p0.cell 2
    have d3 := p0.cell 3
    have d4 := p0.cell 4
    have d5 := p0.cell 5
    have y2 := p0.frozen 2
    have y4 := p0.frozen 4
    have k0 := p1.cell 0
    have k1 := p1.cell 1
    have k2 := p1.cell 2
    have k3 := p1.cell 3
    have k4 := p1.cell 4
    have k5 := p1.cell 5
    have f0 := p1.frozen 0
    have f1 := p1.frozen 1
    have f2 := p1.frozen 2
    have f3 := p1.frozen 3
    have f4 := p1.frozen 4
    have f5 := p1.frozen 5
    have lM := p0.lt
    have lM1 := p1.lt
    go_wp2
    have bf := (((((((p1.far (p := ⟨w.heap.size, 4, none⟩) (by simp) (.slice (some ⟨gS, 0, none⟩) svs.length cap2)).set_ 0 (.int .i64 north)).set_ 1 (.int .i64 cols)).set_ 2 (.slice (some ⟨gE, 0, none⟩) 0 capE)).set_ 3 (.int .i64 lofts)).set_ 4 (.slice (some ⟨gS, 0, none⟩) svs.length cap2)).set_ 5 (.int .i64 wrong))
    refine bodyPost_ret (res28 _ _ (w.heap.size + 1) _ _ _ _ _ _ rfl (bf.cell 0) (bf.cell 1) (bf.cell 2) (bf.cell 3) (bf.cell 4) (bf.cell 5)) rfl ?_
    exact ⟨gE, capE, curE, gS, cap2, curS, rfl, by omega, (((((((pE.far (p := ⟨w.heap.size, 4, none⟩) (by simp; omega) (.slice (some ⟨gS, 0, none⟩) svs.length cap2)).far (p := ⟨w.heap.size + 1, 0, none⟩) (by simp; omega) (.int .i64 north)).far (p := ⟨w.heap.size + 1, 1, none⟩) (by simp; omega) (.int .i64 cols)).far (p := ⟨w.heap.size + 1, 2, none⟩) (by simp; omega) (.slice (some ⟨gE, 0, none⟩) 0 capE)).far (p := ⟨w.heap.size + 1, 3, none⟩) (by simp; omega) (.int .i64 lofts)).far (p := ⟨w.heap.size + 1, 4, none⟩) (by simp; omega) (.slice (some ⟨gS, 0, none⟩) svs.length cap2)).far (p := ⟨w.heap.size + 1, 5, none⟩) (by simp; omega) (.int .i64 wrong)), by simp, (((((((pG.s (p := ⟨w.heap.size, 4, none⟩) (by simp) (.slice (some ⟨gS, 0, none⟩) svs.length cap2)).s (p := ⟨w.heap.size + 1, 0, none⟩) (by simp) (.int .i64 north)).s (p := ⟨w.heap.size + 1, 1, none⟩) (by simp) (.int .i64 cols)).s (p := ⟨w.heap.size + 1, 2, none⟩) (by simp) (.slice (some ⟨gE, 0, none⟩) 0 capE)).s (p := ⟨w.heap.size + 1, 3, none⟩) (by simp) (.int .i64 lofts)).s (p := ⟨w.heap.size + 1, 4, none⟩) (by simp) (.slice (some ⟨gS, 0, none⟩) svs.length cap2)).s (p := ⟨w.heap.size + 1, 5, none⟩) (by simp) (.int .i64 wrong)), by omega, (((((((pS.far (p := ⟨w.heap.size, 4, none⟩) (by simp; omega) (.slice (some ⟨gS, 0, none⟩) svs.length cap2)).far (p := ⟨w.heap.size + 1, 0, none⟩) (by simp; omega) (.int .i64 north)).far (p := ⟨w.heap.size + 1, 1, none⟩) (by simp; omega) (.int .i64 cols)).far (p := ⟨w.heap.size + 1, 2, none⟩) (by simp; omega) (.slice (some ⟨gE, 0, none⟩) 0 capE)).far (p := ⟨w.heap.size + 1, 3, none⟩) (by simp; omega) (.int .i64 lofts)).far (p := ⟨w.heap.size + 1, 4, none⟩) (by simp; omega) (.slice (some ⟨gS, 0, none⟩) svs.length cap2)).far (p := ⟨w.heap.size + 1, 5, none⟩) (by simp; omega) (.int .i64 wrong)), q1, q2, q3, q4⟩
theorem Copy_nil (north cols lofts wrong : Int) (svs : List Sv) (ea sa : Option Addr) (ec sc : Nat) (w : World) (hs : SvsAt w sa svs) (hl2 : svs.length ≤ 100) (hn : sa = none → sc = 0) (hne : ea = none → ec = 0) :
    Calls Tryz.prog 30 #[.agg #[.int .i64 north, .int .i64 cols, .slice ea 0 ec, .int .i64 lofts, .slice sa svs.length sc, .int .i64 wrong]] w (CopyFull north cols lofts wrong [] svs w) := by
  cases ea with
  | none =>
    obtain rfl := hne rfl
    exact Copy_nilA north cols lofts wrong svs sa sc w hs hl2 hn
  | some ad0 => exact Copy_nilB north cols lofts wrong svs ad0 sa ec sc w hs hl2 hn
theorem Copy_all (north cols lofts wrong : Int) (east : List Int) (svs : List Sv) (ea sa : Option Addr) (ec sc : Nat) (w : World) (he : IntsAt w ea east) (hs : SvsAt w sa svs) (hl : east.length ≤ 100) (hl2 : svs.length ≤ 100) (hn : sa = none → sc = 0) (hne : ea = none → ec = 0) :
    Calls Tryz.prog 30 #[.agg #[.int .i64 north, .int .i64 cols, .slice ea east.length ec, .int .i64 lofts, .slice sa svs.length sc, .int .i64 wrong]] w (CopyFull north cols lofts wrong east svs w) := by
  by_cases h : east = []
  · subst h
    exact Copy_nil north cols lofts wrong svs ea sa ec sc w hs hl2 hn hne
  · exact Copy_full north cols lofts wrong east svs ea sa ec sc w he hs (by have := List.length_pos_iff.2 h; omega) hl hl2 hn
end Go.Proofs.YtcekdljjmfkacaaGreat
