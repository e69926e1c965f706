import Derived.Maps.OwnIn
import Derived.Test.YtnkmcoljijmgpaaGreatFy
set_option linter.unusedSimpArgs false
set_option linter.unusedVariables false
namespace Go.Proofs.YtnkmcoljijmgpaaGreat
open Go.RowKit Go.Shelf Go.Sort Go.Maps
attribute [local go_sem] Oper.semAt_some wide_fn wide_dep wideR_fn wideR_dep
def FiI (fu : Fu) (K : Nat) (Wb : World) (pre : List Yd) (W : World) : Prop := ∃ (N : Nat) (ps : List Pu), Blk W (K + 1) 3 #[.int .i64 (pre.length : Nat)] ∧ CnM W (K + 1 + 1) N ps ∧ CtS fu (pre.map Yd.st) [] 0 ps ∧ N ≤ 12 * pre.length ∧ Fr (fun i => i = K + 1 ∨ i = K + 1 + 1) Wb W
theorem FiI.mk {fu : Fu} {K : Nat} {Wb W : World} {pre : List Yd} {N : Nat} {ps : List Pu} (h1 : Blk W (K + 1) 3 #[.int .i64 (pre.length : Nat)]) (h2 : CnM W (K + 1 + 1) N ps) (h3 : CtS fu (pre.map Yd.st) [] 0 ps) (h4 : N ≤ 12 * pre.length) (h5 : Fr (fun i => i = K + 1 ∨ i = K + 1 + 1) Wb W) : FiI fu K Wb pre W := ⟨N, ps, h1, h2, h3, h4, h5⟩
theorem res29 (tmps : Array Value) (w : World) (a b c : Value) (h4 : tmps.getD 4 undef = a) (h5 : tmps.getD 5 undef = b) (h6 : tmps.getD 6 undef = c) :
    (results Tryz.f29 tmps).run Tryz.prog w = .ok (.tuple #[a, b, c]) w := by
  have hr : Tryz.f29.results = #[.tmp 4, .tmp 5, .tmp 6] := rfl
  have h4' : tmps[4]?.getD undef = a := by simpa using h4
  have h5' : tmps[5]?.getD undef = b := by simpa using h5
  have h6' : tmps[6]?.getD undef = c := by simpa using h6
  simp only [results, hr]
  go_simp
set_option maxRecDepth 100000 in
set_option maxHeartbeats 8000000 in
theorem First_any (r : Ra) (p : Int) (w : World) (h : r.At w) : Calls Tryz.prog 29 #[.agg r.v, .int .i64 p] w (FiPost r p w) := by
  have HQ := Lib.hid (fun (W : World) (hW : G w W) => question_any r p [] none 0 W (h.keep hW) (.inl rfl) (by simp))
  have HE : Hid (qE r p [] ≠ 0 → ∀ W', G w W' → FiPost r p w (.returned (.tuple #[.slice none 0 0, .slice none 0 0, .int .i64 (qE r p [])])) W') := fun a W' b => ⟨b, .inl ⟨a, rfl⟩⟩
  have HS : Hid (qE r p [] = 0 → ∀ (v1 v2 : Value) (S M : List Int) W', G w W' → W'.ownsRow w.heap.size 3 1 v1 S.length (iv S) → W'.ownsRow w.heap.size 3 1 v2 M.length (iv M) → FiOk (fuOf r p none 0) (caseL r.protests) S M → FiPost r p w (.returned (.tuple #[v1, v2, .int .i64 0])) W') := fun a v1 v2 S M W' b c d e => ⟨b, .inr ⟨a, v1, v2, S, M, rfl, c, d, e⟩⟩
  have HC := Lib.hid (fun (hq : qE r p [] = 0) (W : World) (hW : G w W) (B : Nat) (fa : Option Addr) (fc : Nat) (ho : W.ownsRow B 60 5 (.slice fa (runners r p).length fc) (runners r p).length (rcV (runners r p))) => gf_of (qE_parts hq).1 (qE_parts hq).2 (h.keep hW) ho)
  unfold QPost at HQ
  have hv : ∀ fa fc, (fuOf r p fa fc).v = #[.int .i64 (poolAt r p).stake, .int .i64 (poolAt r p).cut, .int .i64 (poolAt r p).kind, .slice (poolAt r p).ta (poolAt r p).table.length (poolAt r p).tc, .int .i64 (poolAt r p).quota, .bool (poolAt r p).first, .slice fa (runners r p).length fc, .slice r.ta r.protests.length r.tc] := fun _ _ => rfl
  have hNo : ∀ W, ¬ FiPost r p w .outgrown W := fun W ⟨_, hh⟩ => by rcases hh with ⟨_, e⟩ | ⟨_, _, _, _, _, e, _⟩ <;> cases e
  have hprot := h.ts
  have hpl4 : qE r p [] = 0 → r.protests.length ≤ 4 := fun hq => race_np (qE_parts hq).1
  generalize FiPost r p w = PP at *
  clear h
  obtain ⟨W1, hW1⟩ : ∃ W1, W1 = w.alloc (.cells #[.slice r.ra r.racers.length r.rc, .slice r.pa r.pools.length r.pc, .slice r.ta r.protests.length r.tc] 26) := ⟨_, rfl⟩
  have g0 : G w W1 := by rw [hW1]; exact (G.rf _).a _
  have b0 : Blk W1 w.heap.size 26 #[.slice r.ra r.racers.length r.rc, .slice r.pa r.pools.length r.pc, .slice r.ta r.protests.length r.tc] := by rw [hW1]; exact Blk.new _ _ _
  have hrv : r.v = #[.slice r.ra r.racers.length r.rc, .slice r.pa r.pools.length r.pc, .slice r.ta r.protests.length r.tc] := rfl
  rw [hrv] at HQ ⊢
  clear hrv
  generalize hQE : qE r p [] = QE at *
  refine (callsIn_wide (n := 4)).1 ?_
  refine callsIn_of_wp_marks Tryz.func29 rfl trivial ?_ rfl
  simp only [Tryz.ntmps29, List.size_toArray, List.length_cons, List.length_nil, Nat.reduceAdd, Nat.reduceSub, Array.replicate_succ, Array.replicate_zero, List.push_toArray, List.append_toArray, List.nil_append, List.cons_append]
  have m0 := b0.cell 0
  have m1 := b0.cell 1
  have m2 := b0.cell 2
  have l0 := b0.lt
  by_cases hq : QE = 0
  · have HQ1 : Hid (Calls Tryz.prog 46 #[.agg #[.slice r.ra r.racers.length r.rc, .slice r.pa r.pools.length r.pc, .slice r.ta r.protests.length r.tc], .int .i64 p, .slice none 0 0] W1 fun e w' => ∃ fa fc, e = .returned (.tuple #[.agg (fuOf r p fa fc).v, .int .i64 0]) ∧ w'.ownsRow W1.heap.size 60 5 (.slice fa (runners r p).length fc) (runners r p).length (rcV (runners r p)) ∧ G W1 w') := by
      refine (HQ.out W1 g0).mono ?_
      rintro e w' ⟨hG, hh⟩
      rcases hh with ⟨a, _⟩ | ⟨_, fa, fc, a, b⟩
      · exact absurd hq a
      · exact ⟨fa, fc, a, b, hG⟩
    simp only [hv] at HQ1
    clear HQ HE
    have HPL := Lib.hid (hpl4 hq)
    clear hpl4
    rw [hW1] at m0 m1 m2 l0
    have hmm := @run_makeMap Tryz.prog
    gi_wp2_with (first | (gi_at_call 46; rw [← hW1]; refine (callsIn_wide.2 HQ1.out).mono ?_; rintro e w2 ⟨fa, fc, rfl, ho2, hG2⟩; clear m0 m1 m2 l0 HQ1) | (gi_at_call 60; refine (callsIn_wide.2 (cases_any _ _ _ _ _ _ _ _ _)).mono ?_; rintro e w5 ⟨rfl, rfl⟩))
    obtain ⟨K, hK⟩ : ∃ K, K = w2.heap.size := ⟨_, rfl⟩
    obtain ⟨Wa, hWa⟩ : ∃ Wa, Wa = w2.alloc (.cells #[.int .i64 (poolAt r p).stake, .int .i64 (poolAt r p).cut, .int .i64 (poolAt r p).kind, .slice (poolAt r p).ta (poolAt r p).table.length (poolAt r p).tc, .int .i64 (poolAt r p).quota, .bool (poolAt r p).first, .slice fa (runners r p).length fc, .slice r.ta r.protests.length r.tc] 85) := ⟨_, rfl⟩
    obtain ⟨Wc, hWc⟩ : ∃ Wc, Wc = Wa.alloc (.cells #[.int .i64 0] 3) := ⟨_, rfl⟩
    obtain ⟨Wd, hWd⟩ : ∃ Wd, Wd = Wc.alloc (.map #[] 0) := ⟨_, rfl⟩
    obtain ⟨We, hWe⟩ : ∃ We, We = Wd.alloc (.cells #[.map (some (w2.heap.size + 1 + 1))] 90) := ⟨_, rfl⟩
    obtain ⟨Wb, hWb⟩ : ∃ Wb, Wb = We.alloc (.cells #[.int .i64 (poolAt r p).stake, .int .i64 (poolAt r p).cut, .int .i64 (poolAt r p).kind, .slice (poolAt r p).ta (poolAt r p).table.length (poolAt r p).tc, .int .i64 (poolAt r p).quota, .bool (poolAt r p).first, .slice fa (runners r p).length fc, .slice r.ta r.protests.length r.tc] 85) := ⟨_, rfl⟩
    rw [← hWa, ← hWc, ← hWd, ← hWe, ← hWb]
    have sa : Wa.heap.size = K + 1 := by rw [hWa, World.size_alloc, hK]
    have sc : Wc.heap.size = K + 1 + 1 := by rw [hWc, World.size_alloc, sa]
    have sd : Wd.heap.size = K + 1 + 1 + 1 := by rw [hWd, World.size_alloc, sc]
    have se : We.heap.size = K + 1 + 1 + 1 + 1 := by rw [hWe, World.size_alloc, sd]
    have sb : Wb.heap.size = K + 1 + 1 + 1 + 1 + 1 := by rw [hWb, World.size_alloc, se]
    have bK : Blk Wb K 85 #[.int .i64 (poolAt r p).stake, .int .i64 (poolAt r p).cut, .int .i64 (poolAt r p).kind, .slice (poolAt r p).ta (poolAt r p).table.length (poolAt r p).tc, .int .i64 (poolAt r p).quota, .bool (poolAt r p).first, .slice fa (runners r p).length fc, .slice r.ta r.protests.length r.tc] := by rw [hWb, hWe, hWd, hWc, hWa, hK]; exact ((((Blk.new _ _ _).alloc _).alloc _).alloc _).alloc _
    have bA : Blk Wb (K + 1) 3 #[.int .i64 0] := by
      have := Blk.new Wa 3 #[.int .i64 0]
      rw [sa] at this
      rw [hWb, hWe, hWd, hWc]
      exact ((this.alloc _).alloc _).alloc _
    have bM : CnM Wb (K + 1 + 1) 0 [] := by
      have := CnM.made Wc
      rw [sc] at this
      rw [hWb, hWe, hWd]
      exact (this.keep ((G.rf _).a _)).keep ((G.rf _).a _)
    have bX : Blk Wb (K + 1 + 1 + 1) 90 #[.map (some (K + 1 + 1))] := by
      have := Blk.new Wd 90 #[.map (some (w2.heap.size + 1 + 1))]
      rw [sd, ← hK] at this
      rw [hWb, hWe, ← hK]
      exact this.alloc _
    have bKB : Blk Wb (K + 1 + 1 + 1 + 1) 85 #[.int .i64 (poolAt r p).stake, .int .i64 (poolAt r p).cut, .int .i64 (poolAt r p).kind, .slice (poolAt r p).ta (poolAt r p).table.length (poolAt r p).tc, .int .i64 (poolAt r p).quota, .bool (poolAt r p).first, .slice fa (runners r p).length fc, .slice r.ta r.protests.length r.tc] := by
      have := Blk.new We 85 #[.int .i64 (poolAt r p).stake, .int .i64 (poolAt r p).cut, .int .i64 (poolAt r p).kind, .slice (poolAt r p).ta (poolAt r p).table.length (poolAt r p).tc, .int .i64 (poolAt r p).quota, .bool (poolAt r p).first, .slice fa (runners r p).length fc, .slice r.ta r.protests.length r.tc]
      rw [se] at this
      rw [hWb]
      exact this
    have g2b : G w2 Wb := by rw [hWb, hWe, hWd, hWc, hWa]; exact (((((G.rf _).a _).a _).a _).a _).a _
    rw [← hK]
    have gwb : G w Wb := (g0.t hG2).t g2b
    have hgf := HC.out hq _ (g0.t hG2) _ fa fc ho2
    have hwK : w.heap.size < K := by rw [hK]; exact (b0.keep hG2).lt
    have HKS : Hid (K = w2.heap.size) := hK
    clear hWa hWc hWd hWe hWb sa sc sd se hmm ho2 hG2 b0 hW1 g0 hK HC
    have HS2 := Lib.hid (HS.out hq)
    obtain ⟨fu, hfu⟩ : ∃ fu, fu = fuOf r p fa fc := ⟨_, rfl⟩
    have hfv : fu.v = #[.int .i64 (poolAt r p).stake, .int .i64 (poolAt r p).cut, .int .i64 (poolAt r p).kind, .slice (poolAt r p).ta (poolAt r p).table.length (poolAt r p).tc, .int .i64 (poolAt r p).quota, .bool (poolAt r p).first, .slice fa (runners r p).length fc, .slice r.ta r.protests.length r.tc] := by rw [hfu]; exact hv fa fc
    have hfp : fu.pa = r.ta := by rw [hfu]; rfl
    have hfs : fu.ps = r.protests := by rw [hfu]; rfl
    have hFI : Hid (∀ sts S M, FiOk fu sts S M → FiOk (fuOf r p none 0) sts S M) := by rw [hfu]; exact fun sts S M h => ⟨h.1, h.2, h.3, h.4, h.5⟩
    rw [← hfu] at hgf
    clear hv HS hfu
    have hprB := hprot.below gwb
    have HOR := Lib.hid (fun (W : World) (hW : GF fu W) (st : List Int) (sa : Option Addr) (sc : Nat) (hi : IntsAt W sa st) (hl : st.length ≤ 1000) => hW.order st sa sc hi hl)
    rw [hfv] at HOR
    have h16 : 2 ^ r.protests.length ≤ 16 := by
      have := Nat.pow_le_pow_right (show 0 < 2 by decide) HPL.out
      omega
    have hseq := cases_seq2 3 (by omega) (K + 1 + 1 + 1 + 1) (fun i => i = K + 1 ∨ i = K + 1 + 1) fu Wb (by rw [hfv]; exact bKB) (by rw [hfp, hfs]; exact hprB) (by rw [hfs]; exact HPL.out) (by omega) (by
      rw [hfs, hfp]
      rcases hprot with h | ⟨b', o', h1, h2, _⟩
      · exact .inl h
      · refine .inr fun b2 o2 e2 => ?_
        rw [h1] at e2
        have e3 : b' = b2 := by injection e2 with e2; injection e2
        have := gwb.size
        omega)
    rw [hfs] at hseq
    have HGF := Lib.hid hgf
    clear hprot hfp hfs hgf HPL hprB
    refine rangeFunc_Y (F := Fence.wide) (α := Yd) (T := (· = 3)) (gf := 84) (lb := #[.pointer (some ⟨K + 1 + 1 + 1 + 1, 0, none⟩)]) rfl (by omega) rfl trivial (enters_of Tryz.func84 (by kernel_rfl) rfl) (ev := Yd.v) (Y := YdAt2 Wb.heap.size) (Kp := KP Wb.heap.size (fun i => i = K + 1 ∨ i = K + 1 + 1)) hseq (G.rf _) (fun h k => KP.t h k) (fun W l o o' hl _ _ => KP.put _ _ W l o o' hl) (fun x W l o o' ho hc h => YdAt2.put x W l o o' ho hc h)
      (FiI fu K Wb) (fun _ _ _ => False) ?hI (fun _ _ _ _ _ h _ _ => h) ?hIT (fun _ _ _ _ _ _ h _ => h) ?h0 10 ?assign ?body ?done ?stop
    case hI =>
      rintro st X Y row ⟨N, ps, h1, h2, h3, h4, h5⟩ hg hr
      exact FiI.mk (h1.grown hg (fun e => by have := (hr _ e.symm).1; omega)) (h2.grown hg (fun e => by have := (hr _ e.symm).1; omega)) h3 h4 (h5.grown hg (fun g e => .inr (hr g e).1))
    case hIT =>
      rintro B hB st X Y ⟨N, ps, h1, h2, h3, h4, h5⟩ hk
      refine FiI.mk (hk.blk h1 (.inl (by omega))) ?_ h3 h4 (h5.kt hk hB)
      obtain ⟨D, hD1, hD2⟩ := h2
      refine ⟨D, ?_, hD2⟩
      obtain ⟨es, clock, hb, F, hs, e⟩ := hD1
      exact ⟨es, clock, hk.block _ _ hb (.inl (by omega)), F, hs, e⟩
    case h0 => exact FiI.mk (N := 0) (ps := []) bA bM (CtS.start _ _) (by simp) (Fr.rf _ _)
    case assign =>
      intro l x W KK hK
      unfold Yd.v at hK ⊢
      gi_wp2
      exact hK
    case stop =>
      rintro D c pre W _ _ h _
      exact h.elim
    case body =>
      rintro l pre x W ⟨N, ps, h1, h2, h3, h4, h5⟩ hyx hN
      have bK1 := h5.blk bK (by omega)
      have bX1 := h5.blk bX (by omega)
      have gW : G w W := ((G.fr (R := fun _ => False) gwb).t2 h5 (fun i hi e => by rcases e with e | e <;> omega)).toG (fun _ _ h => h)
      unfold Yd.v
      obtain ⟨xa, xc, xst⟩ := x
      have hyi : IntsAt W xa xst := hyx.1.1
      have hx4 : xst.length ≤ 4 := hyx.1.2
      have hyb := hyx.2
      have HSB := Lib.hid sb
      have hK5 : K + 1 + 1 < Wb.heap.size := by omega
      clear hyx hseq HS2 bKB bA bM sb
      dsimp only at *
      have hwn : IntKind.i64.wrap ((pre.length : Int) + 1) = (pre.length : Int) + 1 := IntWalk.i64_in _ (by omega)
      have hpl16 : pre.length ≤ 100 := by omega
      have frV : Fr (fun i => i = K + 1 ∨ i = K + 1 + 1) W (W.setCell ⟨K + 1, 0, none⟩ (.int .i64 ((pre.length : Int) + 1))) := (Fr.rf _ W).s (p := ⟨K + 1, 0, none⟩) (.inl (.inl rfl)) _
      have bAV := h1.set_ 0 (.int .i64 ((pre.length : Int) + 1))
      simp only [List.setIfInBounds_toArray, List.set_cons_zero] at bAV
      have gV : G w2 (W.setCell ⟨K + 1, 0, none⟩ (.int .i64 ((pre.length : Int) + 1))) := ((G.fr (R := fun _ => False) g2b).t2 (h5.t frV) (fun i hi e => by have := HKS.out; rcases e with e | e <;> omega)).toG (fun _ _ h => h)
      have hyiV : IntsAt (W.setCell ⟨K + 1, 0, none⟩ (.int .i64 ((pre.length : Int) + 1))) xa xst := by
        rcases hyi with hx | ⟨b, off, e1, e2, e3⟩
        · exact .inl hx
        · refine .inr ⟨b, off, e1, Nat.lt_of_lt_of_le e2 frV.size, fun q hq => ?_⟩
          have e4 := e3 q hq
          have hbk := hyb b off e1
          have e5 := (frV.block b e2 (fun e => by rcases e with e | e <;> omega))
          simp only [World.cell?] at e4 ⊢
          rw [e5]
          exact e4
      have HGV := Lib.hid (HGF.out.keep gV)
      have h2V := h2.fr (R := fun i => i = K + 1) ((Fr.rf (fun i => i = K + 1) W).s (p := ⟨K + 1, 0, none⟩) (.inl rfl) (.int .i64 ((pre.length : Int) + 1))) (by omega)
      have HFRV := Lib.hid (h5.t frV)
      have HFW := Lib.hid frV
      have H2V := Lib.hid h2V
      have HBA := Lib.hid bAV
      have hszW : Wb.heap.size ≤ W.heap.size := h5.size
      have c0 := h1.cell 0
      have z0 := h1.frozen 0
      have lA := h1.lt
      have m0 := bK1.cell 0
      have m1 := bK1.cell 1
      have m2 := bK1.cell 2
      have m3 := bK1.cell 3
      have m4 := bK1.cell 4
      have m5 := bK1.cell 5
      have m6 := bK1.cell 6
      have m7 := bK1.cell 7
      have l0 := bK1.lt
      have HYI := Lib.hid hyiV
      have HOR2 := Lib.hid (HOR.out _ HGV.out xst xa xc HYI.out (by omega))
      have HH3 := Lib.hid h3
      clear h1 h2 h2V h3 h5 hyiV hyi bAV frV bK1 HGV HYI
      obtain ⟨GL, hGL⟩ : ∃ GL, GL = orderL fu xst := ⟨_, rfl⟩
      have hff := firstL_facts (st := xst) HGF.out.uq
      have hfl : firstL fu xst = GL.getD 0 [] := by rw [hGL]; rfl
      rw [← hGL] at HOR2 hff
      rw [hfl] at hff
      have HFL := Lib.hid hfl
      have HGL := Lib.hid hGL
      clear hGL
      have h12 : fu.rs.length ≤ 12 := HGF.out.B.many
      clear hfl
      by_cases hgl : GL.length = 0
      · have hgi : ¬ (0 : Int) < (GL.length : Int) := by omega
        gi_wp2_with (gi_at_call 58; refine (CallsIn.inRound l (callsIn_wide.2 HOR2.out)).mono ?_; rintro e w7 ⟨v7, cs7, Bl7, rfl, ho7, hG7⟩; clear c0 z0 lA m0 m1 m2 m3 m4 m5 m6 m7 l0; obtain ⟨va, vc, rfl, hgrp⟩ := grp_read ho7)
        have hf0 : GL.getD 0 [] = [] := by rw [List.length_eq_zero_iff.1 hgl]; rfl
        have frZ := HFRV.out.t ((G.fr (R := fun i => i = K + 1 ∨ i = K + 1 + 1) hG7).t (Fr.rf _ _))
        have frW := HFW.out.t ((G.fr (R := fun i => i = K + 1 ∨ i = K + 1 + 1) hG7).t (Fr.rf _ _))
        refine ⟨⟨frW.size, fun k o hk1 hk2 _ => (frW.block k (Array.getElem?_eq_some_iff.1 hk2).1 (fun e => by have := HSB.out; rcases e with e | e <;> omega)).trans hk2⟩, frW.kp _ hszW, FiI.mk (N := N) (ps := ps) ?_ (H2V.out.keep hG7) ?_ ?_ frZ⟩
        · rw [List.length_append, List.length_singleton, show ((pre.length + 1 : Nat) : Int) = (pre.length : Int) + 1 by omega]
          exact (HBA.out.keep hG7)
        · rw [List.map_append]
          exact (CtS.next (st := xst) (by rw [HFL.out, hf0]; exact HH3.out.turn []) [])
        · rw [List.length_append, List.length_singleton]
          omega
      · have hgi : (0 : Int) < (GL.length : Int) := by omega
        have HBAD := Lib.hid bX1
        have HMB : Hid (∀ b ∈ GL.getD 0 [], 0 ≤ b ∧ b ≤ 9999) := fun b hb => by
          obtain ⟨x, hx, e⟩ := hff.2.1 b hb
          exact e ▸ HGF.out.bd x hx
        obtain ⟨gl, hglx⟩ : ∃ gl, gl = GL.getD 0 [] := ⟨_, rfl⟩
        have HGX := Lib.hid hglx
        rw [← hglx] at hff HFL HMB
        clear hglx
        gi_wp2_with (gi_at_call 58; refine (CallsIn.inRound l (callsIn_wide.2 HOR2.out)).mono ?_; rintro e w7 ⟨v7, cs7, Bl7, rfl, ho7, hG7⟩; clear c0 z0 lA m0 m1 m2 m3 m4 m5 m6 m7 l0; obtain ⟨va, vc, rfl, hgrp⟩ := grp_read ho7; obtain ⟨go, gia, gc, hge, hgo, hcello, hgin⟩ := hgrp 0 (by omega); subst hge; rw [← HGX.out] at hcello hgin; have n0 := hcello; have ln := hgo)
        clear n0 ln hcello hgrp ho7
        have hCn7 := H2V.out.keep hG7
        have hBX7 := (HFW.out.blk bX1 (by omega)).keep hG7
        have hg12 : gl.length ≤ 12 := by have := hff.2.2.2; omega
        have HCT7 : Hid (CtS fu (pre.map Yd.st) gl 0 ps) := HH3.out.turn gl
        have HGN := Lib.hid hff
        clear hff hgl
        gi_loopw [41] (fun i wr => ∃ (k N' : Nat) (ps' : List Pu), k ≤ gl.length ∧ i = .int .i64 k ∧ CnM wr (K + 1 + 1) N' ps' ∧ Hid (CtS fu (pre.map Yd.st) gl k ps') ∧ N' ≤ 12 * pre.length + k ∧ Fr (fun i => i = K + 1 + 1) w7 wr) (fun i _ => gl.length - (intOf i).toNat)
        case atStart => exact ⟨0, N, ps, Nat.zero_le _, rfl, hCn7, HCT7.out, h4, Fr.rf _ _⟩
        case round =>
          obtain ⟨k, N', ps', hk, rfl, hCn, HCT, hN', hF8⟩ := hrel
          obtain ⟨w8, rfl⟩ : ∃ w8, w8 = wr := ⟨_, rfl⟩
          by_cases hlt : k < gl.length
          · have hki : (k : Int) < gl.length := by omega
            rcases hgin with hx | ⟨gb, goff, hge2, hgb, hcb⟩
            · rw [hx] at hlt; simp at hlt
            subst hge2
            have hcb7 := hcb k hlt
            have hgm : gb ≠ K + 1 + 1 := fun e => by
              obtain ⟨es, c, hm⟩ := hCn7.isMap
              rw [e] at hcb7
              simp [World.cell?, hm] at hcb7
            have q0 : w8.cell? ⟨gb, goff + k, none⟩ = some (.int .i64 (gl.getD k 0)) := by
              have e5 := hF8.block gb hgb hgm
              simp only [World.cell?] at hcb7 ⊢
              rw [e5]
              exact hcb7
            have lq : gb < w8.heap.size := Nat.lt_of_lt_of_le hgb hF8.size
            have bX8 := hF8.blk hBX7 (by omega)
            have x0 := bX8.cell 0
            have lx := bX8.lt
            have hstep := HCT.out.step hlt HGN.out.1 HGN.out.2.1 (by rw [List.length_map]; omega)
            have hbb := HMB.out (gl.getD k 0) (by
              rw [List.getD_eq_getElem?_getD, List.getElem?_eq_getElem hlt]
              exact List.getElem_mem hlt)
            obtain ⟨b, hb⟩ : ∃ b, b = gl.getD k 0 := ⟨_, rfl⟩
            rw [← hb] at q0 hbb hstep
            have hcnt := HCT.out.cnt b
            have hcb2 := cntI_bd fu (pre.map Yd.st) b
            rw [List.length_map] at hcb2
            have hc2 : 0 ≤ (atP ps' b).staked ∧ (atP ps' b).staked ≤ 200 := by
              rw [hcnt]
              split <;> omega
            have hlk := hCn.at (x := b) (by omega) (by go_simp)
            obtain ⟨c, hc⟩ : ∃ c, c = (atP ps' b).staked := ⟨_, rfl⟩
            rw [← hc] at hlk hc2 hstep
            have hwc : IntKind.i64.wrap (c + 1) = c + 1 := IntWalk.i64_in _ (by omega)
            obtain ⟨w9, hup, hCn9, hg9⟩ := hCn.store ⟨b, c + 1, 0⟩ (by dsimp only; omega) (by dsimp only; omega) (by unfold maxLen; omega)
            dsimp only at hup
            have HST := Lib.hid hstep
            have HF9 : Hid (Fr (fun i => i = K + 1 + 1) w7 w9) := hF8.grown hg9 (fun g e => .inl (by injection e with e; exact e.symm))
            clear hcb7 hcb hgm hcnt hcb2 hb hc hstep hgi hBX7 hCn7 bX8 hG7 hF8 hCn HCT hg9
            gi_wp2_with fail
            go_roundw
            case rel => exact ⟨k + 1, N' + 1, _, by omega, by go_num, hCn9, HST.out, by omega, HF9.out⟩
            case measure => simp [intOf] <;> omega
          · obtain rfl : k = gl.length := by omega
            have hki : ¬ ((gl.length : Nat) : Int) < gl.length := by omega
            gi_wp2_with fail
            have frX : Fr (fun i => i = K + 1 ∨ i = K + 1 + 1) w7 w8 := ⟨hF8.os, hF8.tape, hF8.output, hF8.size, fun i hi hn => hF8.block i hi (fun e => hn (.inr e))⟩
            have frZ := HFRV.out.t ((G.fr (R := fun i => i = K + 1 ∨ i = K + 1 + 1) hG7).t frX)
            have frW := HFW.out.t ((G.fr (R := fun i => i = K + 1 ∨ i = K + 1 + 1) hG7).t frX)
            refine ⟨⟨frW.size, fun k o hk1 hk2 _ => (frW.block k (Array.getElem?_eq_some_iff.1 hk2).1 (fun e => by have := HSB.out; rcases e with e | e <;> omega)).trans hk2⟩, frW.kp _ hszW, FiI.mk (N := N') (ps := ps') ?_ hCn ?_ ?_ frZ⟩
            · rw [List.length_append, List.length_singleton, show ((pre.length + 1 : Nat) : Int) = (pre.length : Int) + 1 by omega]
              exact (hF8.blk (HBA.out.keep hG7) (by omega))
            · rw [List.map_append]
              exact (CtS.next (st := xst) (by rw [HFL.out]; exact HCT.out) [])
            · rw [List.length_append, List.length_singleton]
              omega
    case done =>
      rintro D xs W hD hS ⟨N, ps, h1, h2, h3, h4, h5⟩ hDef
      rw [hS] at h3
      have hxl : (caseL r.protests).length = xs.length := by rw [← hS, List.length_map]
      have hfin := h3.fin
      rw [hxl] at hfin
      have hfin2 := hFI.out _ _ _ hfin
      have hpl := h3.len
      have h12 : fu.rs.length ≤ 12 := HGF.out.B.many
      have hbx := h5.blk bX (by omega)
      have gwD : G w W := ((G.fr (R := fun _ => False) gwb).t2 h5 (fun i hi e => by rcases e with e | e <;> omega)).toG (fun _ _ h => h)
      have hso := ksorted_any W.heap.size (K + 1 + 1) N ps h3.uniq (by omega) (W.alloc (.cells #[.map (some (K + 1 + 1))] 90)) (Blk.new _ _ _) (h2.keep ((G.rf _).a _))
      have hbd : ∀ b ∈ sortL (ps.map Pu.owner), 0 ≤ b ∧ b ≤ 9999 := fun b hb => by
        obtain ⟨q, hq2, rfl⟩ := List.mem_map.1 ((sortL_perm _).mem_iff.1 hb)
        obtain ⟨x, hx, e⟩ := h3.own q hq2
        exact e ▸ HGF.out.bd x hx
      obtain ⟨ks, hks⟩ : ∃ ks, ks = sortL (ps.map Pu.owner) := ⟨_, rfl⟩
      have hkl : ks.length = ps.length := by rw [hks, sortL_len, List.length_map]
      rw [← hks] at hfin2 hbd hso
      rw [← hkl] at hso
      obtain ⟨pq, hpq⟩ : ∃ pq : Int → Bool, pq = ctP ps (xs.length : Nat) := ⟨_, rfl⟩
      rw [← hpq] at hfin2
      have HPQ : Hid (∀ x, pq x = ((atP ps x).staked == ((xs.length : Nat) : Int))) := fun x => by rw [hpq]; rfl
      have HSO := Lib.hid hso
      have HBD := Lib.hid hbd
      have HEND : Hid (∀ (v1 v2 : Value) (W' : World), G w W' → W'.ownsRow w.heap.size 3 1 v1 (ks.filter pq).length (iv (ks.filter pq)) → W'.ownsRow w.heap.size 3 1 v2 (ks.filter fun b => !pq b).length (iv (ks.filter fun b => !pq b)) → PP (.returned (.tuple #[v1, v2, .int .i64 0])) W') := fun v1 v2 W' a b c => HS2.out v1 v2 _ _ W' a b c hfin2
      have HDF := Lib.hid hDef
      have HGW := Lib.hid gwD
      have HH1 := Lib.hid h1
      have HH2 := Lib.hid h2
      have HBX := Lib.hid hbx
      have HBB := Lib.hid bX
      have HWW : Hid (w.heap.size ≤ W.heap.size) := gwD.size
      have HDD := Lib.hid hD
      have HSB := Lib.hid sb
      have hk12 : ks.length ≤ 12 := by omega
      have hx0 : (0 : Int) ≤ ((xs.length : Nat) : Int) := by omega
      obtain ⟨n, hn⟩ : ∃ n : Int, n = ((xs.length : Nat) : Int) := ⟨_, rfl⟩
      rw [← hn] at HPQ HH1
      have x0 := hbx.cell 0
      have lx := hbx.lt
      clear hso hbd hks hpq hfin hfin2 h1 h2 h3 h4 h5 hbx gwD hDef bX bK bA bM bKB hseq HS2 hFI hS hxl hkl hpl hx0 hn HOR HGF sb
      gi_wp2_with (first | (gi_at_call 62; refine (callsIn_wide.2 (keys_any _ _)).mono ?_; rintro e w3 ⟨rfl, rfl⟩) | (gi_at_call 61; refine (callsIn_wide.2 HSO.out).mono ?_; rintro e w4 ⟨vk, rfl, hok, hG4⟩; obtain ⟨ka, kc, rfl, hki⟩ := own_ints hok))
      clear x0 lx HSO
      have gW4 : G W w4 := ((G.rf W).a _).t hG4
      have HKI := Lib.hid hki
      have HB1 := Lib.hid (HH1.out.keep gW4)
      have HB2 := Lib.hid (HBX.out.keep gW4)
      have HM2 := Lib.hid (HH2.out.keep gW4)
      have HG4 := Lib.hid gW4
      clear hki hok hG4 gW4
      gi_loopw [4, 5, 54] (fun v1 v2 i wr => ∃ k : Nat, k ≤ ks.length ∧ i = .int .i64 k ∧ Hid (wr.ownsRow w4.heap.size 3 1 v1 ((ks.take k).filter pq).length (iv ((ks.take k).filter pq))) ∧ Hid (wr.ownsRow w4.heap.size 3 1 v2 ((ks.take k).filter fun b => !pq b).length (iv ((ks.take k).filter fun b => !pq b))) ∧ Hid (apart v1 v2) ∧ Hid (G w4 wr)) (fun _ _ i _ => ks.length - (intOf i).toNat)
      case atStart => exact ⟨0, Nat.zero_le _, rfl, World.ownsRow_nil _ _ _ _, World.ownsRow_nil _ _ _ _, (fun g e => by cases e), G.rf _⟩
      case round =>
        obtain ⟨k, hk, rfl, HO1, HO2, HAP, HGR⟩ := hrel
        obtain ⟨wi, rfl⟩ : ∃ wi, wi = wr := ⟨_, rfl⟩
        obtain ⟨va1, vc1, rfl⟩ := own_slice HO1.out
        obtain ⟨va2, vc2, rfl⟩ := own_slice HO2.out
        by_cases hlt : k < ks.length
        · have hki : (k : Int) < ks.length := by omega
          rcases HKI.out.below HGR.out with h | ⟨gb, off, rfl, lgb, hcell⟩
          · rw [h] at hlt; simp at hlt
          have q0 := hcell k hlt
          have hb1 := HB1.out.keep HGR.out
          have hb2 := HB2.out.keep HGR.out
          have c0 := hb1.cell 0
          have lc := hb1.lt
          have d0 := hb2.cell 0
          have ld := hb2.lt
          have hbb := HBD.out (ks.getD k 0) (by
            rw [List.getD_eq_getElem?_getD, List.getElem?_eq_getElem hlt]
            exact List.getElem_mem hlt)
          have hf1 := filt_take pq hlt
          have hf2 := filt_take (fun b => !pq b) hlt
          have hp := HPQ.out (ks.getD k 0)
          have hl1 := List.length_filter_le pq (ks.take k)
          have hl2 := List.length_filter_le (fun b => !pq b) (ks.take k)
          rw [List.length_take] at hl1 hl2
          obtain ⟨x, hx⟩ : ∃ x, x = ks.getD k 0 := ⟨_, rfl⟩
          rw [← hx] at q0 hbb hf1 hf2 hp
          have hlk := (HM2.out.keep HGR.out).at (x := x) (by omega) (by go_simp)
          obtain ⟨c, hc⟩ : ∃ c, c = (atP ps x).staked := ⟨_, rfl⟩
          rw [← hc] at hlk hp
          try dsimp only at hf2
          obtain ⟨s1, hs1⟩ : ∃ s1, s1 = (ks.take k).filter pq := ⟨_, rfl⟩
          obtain ⟨s2, hs2⟩ : ∃ s2, s2 = (ks.take k).filter fun b => !pq b := ⟨_, rfl⟩
          rw [← hs1] at HO1 HAP hf1 hl1 ⊢
          rw [← hs2] at HO2 HAP hf2 hl2 ⊢
          obtain ⟨t1, ht1⟩ : ∃ t1, t1 = (ks.take (k + 1)).filter pq := ⟨_, rfl⟩
          obtain ⟨t2, ht2⟩ : ∃ t2, t2 = (ks.take (k + 1)).filter fun b => !pq b := ⟨_, rfl⟩
          have hg1 : s1.length ≤ 12 := by omega
          have hg2 : s2.length ≤ 12 := by omega
          obtain ⟨i0, hi0, hz0, hz1, hz2⟩ := info_parts info3
          have HT1 := Lib.hid ht1
          have HT2 := Lib.hid ht2
          have hsz : w4.heap.size ≤ wi.heap.size := HGR.out.size
          cases hpx : pq x
          · rw [hpx] at hf1 hf2 hp
            have HE1 : Hid (t1 = s1) := by rw [HT1.out, hf1]; rfl
            have HE2 : Hid (t2 = s2 ++ [x]) := by rw [HT2.out, hf2]; rfl
            have heb : (c == n) = false := hp.symm
            have HOA := Lib.hid (own_G HO1.out ((G.rf wi).a (.cells #[.int .i64 x] 3)))
            have HOB := Lib.hid (own_G HO2.out ((G.rf wi).a (.cells #[.int .i64 x] 3)))
            clear hcell hb1 hb2 hf1 hf2 hp hl1 hl2 hx hc hs1 hs2 ht1 ht2 hpx
            gi_wp2_with (gi_at_builtin; refine wpListIn_append_own_at _ rfl _ _ 24 rfl w4.heap.size 3 i0 (.int .i64 0) 1 8 Tryz.underlying24 hi0 hz0 hz1 hz2 rfl (by decide) _ s2.length (iv s2) rfl HOB.out ⟨wi.heap.size, 0, none⟩ 1 1 [.int .i64 x] rfl rfl (cell_one_new _ _ _) (by simp [Value.oneCell']) (by unfold maxLen; omega) (by omega) (by simp only [World.alloc, Array.size_push]; omega) ?_; intro v9 w9 hown9 hg9 hnil9 hat9; go_frame)
            have hWG := within_grow (HGR.out.a _) HOB.out HOA.out (fun g a b => HAP.out g b a) hg9 rfl hat9
            go_roundw
            case rel => exact ⟨k + 1, by omega, by go_num, by rw [← HT1.out, HE1.out]; exact hWG.1, by rw [← HT2.out, HE2.out, List.length_append, iv_snoc]; exact hown9, (fun g a b => hWG.2.1 g b a), hWG.2.2⟩
            case measure => simp [intOf] <;> omega
          · rw [hpx] at hf1 hf2 hp
            have HE1 : Hid (t1 = s1 ++ [x]) := by rw [HT1.out, hf1]; rfl
            have HE2 : Hid (t2 = s2) := by rw [HT2.out, hf2]; rfl
            have heb : (c == n) = true := hp.symm
            have HOA := Lib.hid (own_G HO1.out ((G.rf wi).a (.cells #[.int .i64 x] 3)))
            have HOB := Lib.hid (own_G HO2.out ((G.rf wi).a (.cells #[.int .i64 x] 3)))
            clear hcell hb1 hb2 hf1 hf2 hp hl1 hl2 hx hc hs1 hs2 ht1 ht2 hpx
            gi_wp2_with (gi_at_builtin; refine wpListIn_append_own_at _ rfl _ _ 24 rfl w4.heap.size 3 i0 (.int .i64 0) 1 8 Tryz.underlying24 hi0 hz0 hz1 hz2 rfl (by decide) _ s1.length (iv s1) rfl HOA.out ⟨wi.heap.size, 0, none⟩ 1 1 [.int .i64 x] rfl rfl (cell_one_new _ _ _) (by simp [Value.oneCell']) (by unfold maxLen; omega) (by omega) (by simp only [World.alloc, Array.size_push]; omega) ?_; intro v9 w9 hown9 hg9 hnil9 hat9; go_frame)
            have hWG := within_grow (HGR.out.a _) HOA.out HOB.out HAP.out hg9 rfl hat9
            go_roundw
            case rel => exact ⟨k + 1, by omega, by go_num, by rw [← HT1.out, HE1.out, List.length_append, iv_snoc]; exact hown9, by rw [← HT2.out, HE2.out]; exact hWG.1, hWG.2.1, hWG.2.2⟩
            case measure => simp [intOf] <;> omega
        · obtain rfl : k = ks.length := by omega
          have hki : ¬ ((ks.length : Nat) : Int) < ks.length := by omega
          rw [List.take_length] at HO1 HO2 HAP ⊢
          gi_wp2_with fail
          have gWi : G W wi := HG4.out.t HGR.out
          have hDl : D < W.heap.size := (Array.getElem?_eq_some_iff.1 HDF.out).1
          have hDef2 : wi.heap[D]? = some (.deferred (some [])) := (gWi.block D hDl).trans HDF.out
          refine ⟨by simp, .inl ⟨_, _, rfl, run_takeDeferred hDef2, ?_⟩⟩
          have hf : Fr (fun i => i = D) wi (wi.putObj D (.deferred none)) := ⟨rfl, rfl, rfl, by simp [World.putObj], fun i _ hn => World.putObj_heap_other hn⟩
          have h4s : W.heap.size ≤ w4.heap.size := HG4.out.size
          have gE2 : G w (wi.putObj D (.deferred none)) := ((G.fr (R := fun _ => False) (HGW.out.t gWi)).t2 hf (fun i hi e => by have := HDD.out; have := HSB.out; omega)).toG (fun _ _ h => h)
          refine ⟨_, res29 _ _ _ _ _ rfl rfl rfl, ?_⟩
          exact HEND.out _ _ _ gE2 (own_weaken (own_Fr HO1.out hf (fun g hg e => by have := own_base HO1.out hg; omega)) (by have := HWW.out; omega)) (own_weaken (own_Fr HO2.out hf (fun g hg e => by have := own_base HO2.out hg; omega)) (by have := HWW.out; omega))
  · have HQ0 : Hid (Calls Tryz.prog 46 #[.agg #[.slice r.ra r.racers.length r.rc, .slice r.pa r.pools.length r.pc, .slice r.ta r.protests.length r.tc], .int .i64 p, .slice none 0 0] W1 fun e w' => e = .returned (.tuple #[.agg #[.int .i64 0, .int .i64 0, .int .i64 0, .slice none 0 0, .int .i64 0, .bool false, .slice none 0 0, .slice none 0 0], .int .i64 QE]) ∧ G W1 w') := by
      refine (HQ.out W1 g0).mono ?_
      rintro e w' ⟨hG, hh⟩
      rcases hh with ⟨_, a⟩ | ⟨a, _⟩
      · exact ⟨a, hG⟩
      · exact absurd a hq
    have e0 : (QE == 0) = false := by simpa using hq
    have HE2 := Lib.hid (HE.out hq)
    clear HQ HE HC HS hv
    rw [hW1] at m0 m1 m2 l0
    gi_wp2_with (gi_at_call 46; rw [← hW1]; refine (callsIn_wide.2 HQ0.out).mono ?_; rintro e w2 ⟨rfl, hG2⟩; clear m0 m1 m2 l0 HQ0)
    refine ⟨_, res29 _ _ _ _ _ rfl rfl rfl, ?_⟩
    exact HE2.out _ ((g0.t hG2).a _)
end Go.Proofs.YtnkmcoljijmgpaaGreat
