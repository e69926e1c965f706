import Derived.Test.YtcekdljjmfkacaaLg
import Derived.Test.YtcekdljjmfkacaaMe
import Derived.Test.YtcekdljjmfkacaaLk
set_option linter.unusedSimpArgs false
set_option linter.unusedVariables false
namespace Go.Proofs.Ytcekdljjmfkacaa
open Go.RowKit
attribute [local go_sem] Oper.semAt_some

section
variable (north wrong lw lg lh hours dark : Int) (cols lofts bx bY hx hy sl sh m hi : Nat) (east : List Int) (svs : List Sv) (n k : Nat) (h f : Nat → Nat → Int) (ea sa ha fa : Option Addr) (ec sc hc fc : Nat) (w : World)
set_option maxRecDepth 100000 in
set_option maxHeartbeats 4000000 in
theorem Passes_ok (he : IntsAt w ea east) (hs : SvsAt w sa svs) (hk : checkE north cols east lofts svs wrong = 0) (hr : RelOk cols east.length bx bY sl sh lw lg lh hours dark n h) (hH : RowAt w ha n 2 h) (hF : RowAt w fa k 12 f) (hk12 : k ≤ 12) (hfo : ∀ i, i < k → FrontOk cols east.length hours (f i))
    (hin : hi < n) (h0 : h hi 0 = (hx : Nat)) (h1 : h hi 1 = (hy : Nat)) (hm : m ≤ 9999) :
    Calls Try.prog 15 #[.agg #[.int .i64 north, .int .i64 (cols : Nat), .slice ea east.length ec, .int .i64 (lofts : Nat), .slice sa svs.length sc, .int .i64 wrong, .int .i64 (bx : Nat), .int .i64 (bY : Nat), .slice ha n hc, .int .i64 (sl : Nat), .int .i64 (sh : Nat), .slice fa k fc, .int .i64 lw, .int .i64 lg, .int .i64 lh, .int .i64 hours, .int .i64 dark], .int .i64 hi, .int .i64 m] w (PaPost w (spV north east (pbK bx bY hx hy (stepsN bx bY hx hy) (stepsN bx bY hx hy)) sl sh m (stepsN bx bY hx hy + 1)) (stepsN bx bY hx hy + 1)) := by
  have hvb := vm_bounds (checkE_ok hk)
  have hsp := hr.speed
  have hbase := hr.base
  have hhome := hr.homes hi hin
  have hn6 := hr.many
  rw [h0, h1] at hhome
  unfold spanB at hsp
  simp only [Bool.and_eq_true, decide_eq_true_eq] at hsp
  unfold isPlaceB isInB at hbase hhome
  simp only [Bool.and_eq_true, decide_eq_true_eq] at hbase hhome
  have hI := fun (W : World) => isHome_any north cols lofts wrong bx bY sl sh lw lg lh hours dark ea east.length ec (.slice sa svs.length sc) (.slice fa k fc) n ha hc hi W (by omega)
  rw [show isInB (hi : Int) 0 ((n : Int) - 1) = true by simp [isInB]; omega] at hI
  have hM := fun (W : World) => lMinute_any m W
  rw [show isInB (m : Int) 0 9999 = true by simp [isInB]; omega] at hM
  have HQ := (fun (W : World) (hW : G w W) => relQuestion_ok north cols lofts wrong bx bY sl sh lw lg lh hours dark east svs n k h f ea sa ha fa ec sc hc fc W (he.below hW) (hs.below hW) hk hr (hH.below hW) (hF.below hW) hk12 hfo)
  have HST := (fun (W : World) (hW : G w W) => stopsTo_ok north wrong lw lg lh hours dark cols lofts bx bY hx hy sl sh east svs n k ea sa ha fa ec sc hc fc W (he.below hW) (hs.below hW) hk (by omega) (by omega) (by omega) (by omega) (by omega) (by omega))
  unfold StPost at HST
  rw [← pbK_len bx bY hx hy (stepsN bx bY hx hy) (stepsN bx bY hx hy)]
  have hPl := pbK_len bx bY hx hy (stepsN bx bY hx hy) (stepsN bx bY hx hy)
  have hst99 : stepsN bx bY hx hy ≤ 99 := by unfold stepsN dst; omega
  have hPm := pbK_mem (fx := bx) (fy := bY) (tx := hx) (ty := hy) (n := stepsN bx bY hx hy) (k := stepsN bx bY hx hy) (cols := cols) (rows := east.length) (Nat.le_refl _) (by omega) (by omega) (by omega) (by omega)
  obtain ⟨P, hP⟩ : ∃ P, P = pbK bx bY hx hy (stepsN bx bY hx hy) (stepsN bx bY hx hy) := ⟨_, rfl⟩
  rw [← hP] at HST hPm hPl ⊢
  have hgm : ∀ i, i < P.length → (P.getD i (0, 0)).1 < cols ∧ (P.getD i (0, 0)).2 < east.length := fun i hi => hPm _ (by
    rw [show P.getD i (0, 0) = P[i] by simp [hi]]
    exact List.getElem_mem hi)
  have hsq : ∀ i, i < P.length → lenS north east P i ≤ 100000000 := fun i hi => by
    have h1 := hgm i hi
    have h2 := hgm (min (i + 1) (P.length - 1)) (by omega)
    have := sq_bd (ax := (P.getD i (0, 0)).1) (bx := (P.getD (min (i + 1) (P.length - 1)) (0, 0)).1) (checkE_ok hk) h1.2 h2.2 (inB h1.1) (inB h2.1)
    exact rnd0_le _ (by omega)
  have hfar : ∀ i, i ≤ P.length → farL north east P i ≤ i * 100000000 := by
    intro i
    induction i with
    | zero => intro _; simp [farL]
    | succ i ih =>
      intro hi
      have := ih (by omega)
      have := hsq i (by omega)
      rw [farL_succ]
      omega
  have hbd : ∀ i, i < P.length → loT north east P sh i ≤ 20000000000 ∧ hiT north east P sl i ≤ 20000000000 := fun i hi => by
    have a := hsq i hi
    have b := hfar i (by omega)
    have c := Nat.div_le_self (farL north east P i) sh
    have d := Nat.div_le_self (farL north east P i + lenS north east P i + sl - 1) sl
    unfold loT hiT
    omega
  have hP1 : 1 ≤ P.length := by omega
  have hP100 : P.length ≤ 100 := by omega
  rcases hH with hH | ⟨gH, oH, rfl, hgH, hcH⟩
  · omega
  have e0 := hcH hi hin 0 (by omega)
  have e1 := hcH hi hin 1 (by omega)
  rw [h0, Nat.add_zero] at e0
  rw [h1] at e1
  exact Passes_walk hx hy m hi n hc w #[.int .i64 north, .int .i64 (cols : Nat), .slice ea east.length ec, .int .i64 (lofts : Nat), .slice sa svs.length sc, .int .i64 wrong, .int .i64 (bx : Nat), .int .i64 (bY : Nat), .slice (some ⟨gH, oH, none⟩) n hc, .int .i64 (sl : Nat), .int .i64 (sh : Nat), .slice fa k fc, .int .i64 lw, .int .i64 lg, .int .i64 lh, .int .i64 hours, .int .i64 dark] gH oH (fun i => ((P.getD i (0, 0)).1 : Nat)) (fun i => ((P.getD i (0, 0)).2 : Nat)) (fun i => (loT north east P sh i : Nat)) (fun i => (hiT north east P sl i : Nat)) P.length ⟨hP1, hP100⟩ hm
    (fun i hi => by have := hbd i hi; omega)
    { isrel := ⟨_, _, _, _, _, _, _, _, _, _, _, _, _, _, _, _, _, _, _, _, _, _, _, _, _, rfl⟩, home := hI, minute := hM, question := HQ, stops := HST, cell := rfl, lt := hgH, c0 := e0, c1 := e1, hin := hin }
end
end Go.Proofs.Ytcekdljjmfkacaa
