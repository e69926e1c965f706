import Derived.Below
import Derived.BigQuiet
import Derived.Deep.AppendLies
import Derived.Deep.Draws
import Derived.Deep.QuietTactic
import Derived.Deep.RegionHeld
import Derived.Deep.Slices
import Derived.Ground.Names2Prog
import Derived.Ground.SlsfProg
import Derived.Ground.SlsoProg
import Derived.IntWalk
import Derived.Laws.AppendOwn
import Derived.Laws.AppendOwnNone
import Derived.Laws.OwnMore
import Derived.Laws.Rows
import Derived.Laws.StructEq
import Derived.Lib.Hide
import Derived.Lib.SlKeysI
import Derived.Lib.SliceRun
import Derived.Lib.SmallJoins
import Derived.LoopIn
import Derived.LoopNIn
import Derived.Maps.OwnSet
import Derived.Maps.Views
import Derived.OpenShut
import Derived.OrdersHeld
import Derived.OrdersIn
import Derived.Outline
import Derived.OwnWalkIn
import Derived.ProofKit
import Derived.RangeFuncBound
import Derived.RangeFuncCalls
import Derived.RangeFuncLeaves
import Derived.RangeFuncNested
import Derived.Shelf.Abstract
import Derived.Shelf.GgSortFunc.InsertionK
import Derived.Shelf.RegionOpen
import Derived.Shelf.SlSortCmp.NoneTotal
import Derived.Shelf.SlSortCmp.WholeK
import Derived.Shelf.SlSorted.Search
import Derived.Shelf.Slices.Cells
import Derived.Shelf.Slices.CompactI
import Derived.Shelf.Slices.In.SortNone
import Derived.Shelf.Slices.SearchI
import Derived.Shelf.Small.Bits
import Derived.Shelf.Sort.Plain
import Derived.Shelf.Strconv.Itoa0
import Derived.Sort.Grow
import Derived.TacticsIn
import Derived.TacticsInMore
import Derived.Test.YtabnpimidhlbiaaGreatProg
import Derived.WalkKit
import Derived.WalkSpells
import Derived.Test.YtabnpimidhlbiaaGreatS4
set_option linter.unusedSimpArgs false
set_option linter.unusedVariables false
namespace Go.Proofs.YtabnpimidhlbiaaGreat
open Go.RowKit Go.Shelf Go.Sort
attribute [local go_sem] Oper.semAt_some
theorem vcB_act {c : Cv} (h : vcB c = true) : (∀ a ∈ c.acts, actB c.bks c.bds c.en a = true) ∧ 1 ≤ c.bks ∧ c.bks ≤ 6 ∧ 0 ≤ c.bds ∧ c.bds ≤ 12 ∧ 0 ≤ c.en ∧ c.en ≤ 9999 ∧ c.acts.length ≤ 40 := by
  unfold vcB upB at h
  simp only [Bool.and_eq_true, decide_eq_true_eq] at h
  obtain ⟨h1, h2, ⟨h3, h3b⟩, ⟨h4, h4b⟩, h5, h6, _⟩ := h
  refine ⟨fun a ha => ?_, h1, h2, h3, h3b, h4, h4b, h5⟩
  obtain ⟨i, hi, rfl⟩ := List.getElem_of_mem ha
  have := allU_iff.1 h6 i hi
  simpa [List.getD, hi] using this
theorem hrd_len (l : List Ac) : (hrd l).length ≤ l.length := by
  rw [hrd_msA]
  exact Nat.le_trans (cpt_len _) (by rw [msA_len]; exact Nat.le_refl _)
set_option maxRecDepth 100000 in
set_option maxHeartbeats 8000000 in
theorem follow_any (c : Cv) (w : World) (h : c.At w) : Calls Tryz.prog 32 #[.agg c.v] w (FolPost c w) := by
  have HP1 : Hid (vcB c = false → ∀ w', G w w' → FolPost c w (.returned (.tuple #[.pointer none, .int .i64 50])) w') := fun hv w' hG => by
    have e : folJ c = none := by unfold folJ; rw [if_neg (by rw [hv]; simp)]
    refine ⟨hG, fun _ => by unfold folE; rw [hv]; rfl, fun k hk => ?_⟩
    rw [e] at hk; cases hk
  have HP2 : Hid (vcB c = true → folJ c = none → ∀ w', G w w' → FolPost c w (.returned (.tuple #[.pointer none, .int .i64 51])) w') := fun hv e w' hG => by
    refine ⟨hG, fun _ => by unfold folE; rw [hv, e]; rfl, fun k hk => ?_⟩
    rw [e] at hk; cases hk
  have HP3 : Hid (∀ k, folJ c = some k → ∀ w' J m P pa pc qa qc, G w w' → FolAt c k w' J m P pa pc qa qc → FolPost c w (.returned (.tuple #[.pointer (some ⟨J, 0, none⟩), .int .i64 0])) w') := fun k hk w' J m P pa pc qa qc hG hF => by
    refine ⟨hG, fun e => absurd (hk.symm.trans e) (by simp), fun k2 hk2 => ?_⟩
    have e2 := hk.symm.trans hk2
    cases e2
    exact ⟨J, m, P, pa, pc, qa, qc, rfl, hF⟩
  have HFJ := Lib.hid (show folJ c = if vcB c = true ∧ clashB c.acts = false then run c.en Jn.zero (hrd c.acts) else none from rfl)
  generalize hPP : FolPost c w = PP at *
  clear hPP
  have HV := Lib.hid (fun (W : World) (hW : G w W) => convoy_any c W (h.keep hW))
  have HC := Lib.hid (fun (W : World) (hW : G w W) => clash_any c.acts c.aa c.ac W (h.keep hW).ra h.na)
  have HCO := Lib.hid (fun (hu : OneId c.acts) (W : World) (hW : G w W) => counted_any c.acts c.aa c.ac W hu h.na (h.keep hW).ra)
  have HACT := Lib.hid (fun (hv : vcB c = true) => vcB_act hv)
  have HFOL := Lib.hid (fun (b : Nat) (W : World) (J m N : Nat) (j : Jn) (P : Nat → Nat) (vp vq : Value) (hJ : JW b W J m N (.int .i64 c.bks) (.int .i64 c.bds) (.slice c.aa c.acts.length c.ac) (.slice c.da c.duties.length c.dc) c.en j P vp vq) (h1 : j.past.length ≤ 1000) (h2 : j.ps.length ≤ 1000) => JW.fol (c := c) hJ h1 h2)
  have hna := h.na
  clear h
  obtain ⟨FJ, hFJ⟩ : ∃ FJ, FJ = folJ c := ⟨_, rfl⟩
  rw [← hFJ] at HP2 HP3 HFJ
  clear hFJ
  obtain ⟨CC, hCC⟩ : ∃ CC, CC = c := ⟨_, rfl⟩
  rw [← hCC] at HFOL
  have HCC := Lib.hid hCC
  clear hCC
  obtain ⟨cbks, cbds, caa, cac, cacts, cda, cdc, cduties, cen⟩ := c
  unfold Cv.v at *
  dsimp only at *
  have g0 : G w (w.alloc (.cells #[.int .i64 cbks, .int .i64 cbds, .slice caa cacts.length cac, .slice cda cduties.length cdc, .int .i64 cen] 25)) := (G.rf _).a _
  have b0 : Blk (w.alloc (.cells #[.int .i64 cbks, .int .i64 cbds, .slice caa cacts.length cac, .slice cda cduties.length cdc, .int .i64 cen] 25)) w.heap.size 25 #[.int .i64 cbks, .int .i64 cbds, .slice caa cacts.length cac, .slice cda cduties.length cdc, .int .i64 cen] := Blk.new _ _ _
  have m0 := b0.cell 0
  have m1 := b0.cell 1
  have m2 := b0.cell 2
  have m3 := b0.cell 3
  have m4 := b0.cell 4
  have l0 := b0.lt
  cases hv : vcB ⟨cbks, cbds, caa, cac, cacts, cda, cdc, cduties, cen⟩
  · have HZ := Lib.hid (HP1.out hv)
    have HV2 := Lib.hid (HV.out)
    rw [hv] at HV2
    clear HP1 HP2 HP3 HV HC HCO HACT HFOL HFJ hv
    go_enter Tryz.func32, Tryz.ntmps32
    go_wp2_with (go_at_call 62; refine (HV2.out _ g0).mono ?_; rintro e w1 ⟨rfl, hG1⟩)
    first | exact HZ.out _ (g0.t hG1) | (go_ret; exact HZ.out _ (g0.t hG1))
  have HV2 := Lib.hid (HV.out)
  rw [hv] at HV2
  have HP2b := Lib.hid (HP2.out hv)
  have HA := Lib.hid (HACT.out hv)
  rw [hv] at HFJ
  clear HP1 HP2 HV HACT
  have HVT := Lib.hid hv
  clear hv
  cases hc : clashB cacts
  case true =>
    have HZ := Lib.hid (HP2b.out (by rw [HFJ.out, if_neg (by rw [hc]; simp)]))
    have HC2 := Lib.hid (HC.out)
    rw [hc] at HC2
    clear HP2b HP3 HC HCO HFOL HFJ hc
    go_enter Tryz.func32, Tryz.ntmps32
    go_wp2_with (first | (go_at_call 62; refine (HV2.out _ g0).mono ?_; rintro e w1 ⟨rfl, hG1⟩; clear m0 m1 m2 m3 m4 l0; replace g0 := g0.t hG1; replace b0 := b0.keep hG1; have m0 := b0.cell 0; have m1 := b0.cell 1; have m2 := b0.cell 2; have m3 := b0.cell 3; have m4 := b0.cell 4; have l0 := b0.lt) | (go_at_call 63; refine (HC2.out _ g0).mono ?_; rintro e w2 ⟨rfl, hG2⟩))
    first | exact HZ.out _ (g0.t hG2) | (go_ret; exact HZ.out _ (g0.t hG2))
  case false =>
    have hu := (clashB_iff _).1 hc
    have HC2 := Lib.hid (HC.out)
    rw [hc] at HC2 HFJ
    have HCO2 := Lib.hid (HCO.out hu)
    have HFJ2 : Hid (FJ = run cen Jn.zero (hrd cacts)) := by
      show _ = _
      rw [HFJ.out, if_pos ⟨rfl, rfl⟩]
    clear HC HCO HFJ hc hu
    go_enter Tryz.func32, Tryz.ntmps32
    go_upto_region 5 with (first | (go_at_call 62; refine (HV2.out _ g0).mono ?_; rintro e w1 ⟨rfl, hG1⟩; clear m0 m1 m2 m3 m4 l0; replace g0 := g0.t hG1; replace b0 := b0.keep hG1; have m0 := b0.cell 0; have m1 := b0.cell 1; have m2 := b0.cell 2; have m3 := b0.cell 3; have m4 := b0.cell 4; have l0 := b0.lt) | (go_at_call 63; refine (HC2.out _ g0).mono ?_; rintro e w2 ⟨rfl, hG2⟩; clear m0 m1 m2 m3 m4 l0; replace g0 := g0.t hG2; replace b0 := b0.keep hG2; have m0 := b0.cell 0; have m1 := b0.cell 1; have m2 := b0.cell 2; have m3 := b0.cell 3; have m4 := b0.cell 4; have l0 := b0.lt))
    have hmm := @run_makeMap Tryz.prog
    go_upto_region 6 with fail
    clear m0 m1 m2 m3 m4 l0
    have bm : SdM (w2.alloc (.map #[] 0)) w2.heap.size 0 (fun _ => none) := SdM.made w2
    have hM3 := bm.keepG ((G.rf _).a (.cells #[.int .i64 cbks, .int .i64 cbds, .slice caa cacts.length cac, .slice cda cduties.length cdc, .int .i64 cen, .slice none 0 0, .slice none 0 0, .map (some w2.heap.size)] 79))
    have bJ3 : Blk ((w2.alloc (.map #[] 0)).alloc (.cells #[.int .i64 cbks, .int .i64 cbds, .slice caa cacts.length cac, .slice cda cduties.length cdc, .int .i64 cen, .slice none 0 0, .slice none 0 0, .map (some w2.heap.size)] 79)) (w2.heap.size + 1) 79 #[.int .i64 cbks, .int .i64 cbds, .slice caa cacts.length cac, .slice cda cduties.length cdc, .int .i64 cen, .slice none 0 0, .slice none 0 0, .map (some w2.heap.size)] := Blk.new1 w2 _ 79 _
    have b3 := (b0.alloc (.map #[] 0)).alloc (.cells #[.int .i64 cbks, .int .i64 cbds, .slice caa cacts.length cac, .slice cda cduties.length cdc, .int .i64 cen, .slice none 0 0, .slice none 0 0, .map (some w2.heap.size)] 79)
    have g3 : G w ((w2.alloc (.map #[] 0)).alloc (.cells #[.int .i64 cbks, .int .i64 cbds, .slice caa cacts.length cac, .slice cda cduties.length cdc, .int .i64 cen, .slice none 0 0, .slice none 0 0, .map (some w2.heap.size)] 79)) := (g0.a _).a _
    have hmw : w.heap.size ≤ w2.heap.size := g0.size
    have hs3 : ((w2.alloc (.map #[] 0)).alloc (.cells #[.int .i64 cbks, .int .i64 cbds, .slice caa cacts.length cac, .slice cda cduties.length cdc, .int .i64 cen, .slice none 0 0, .slice none 0 0, .map (some w2.heap.size)] 79)).heap.size = w2.heap.size + 1 + 1 := by simp
    change Code.wp _ _ _ _ ((w2.alloc (.map #[] 0)).alloc (.cells #[.int .i64 cbks, .int .i64 cbds, .slice caa cacts.length cac, .slice cda cduties.length cdc, .int .i64 cen, .slice none 0 0, .slice none 0 0, .map (some w2.heap.size)] 79))
    generalize (w2.alloc (.map #[] 0)).alloc (.cells #[.int .i64 cbks, .int .i64 cbds, .slice caa cacts.length cac, .slice cda cduties.length cdc, .int .i64 cen, .slice none 0 0, .slice none 0 0, .map (some w2.heap.size)] 79) = W3 at *
    obtain ⟨m, hm⟩ : ∃ m, m = w2.heap.size := ⟨_, rfl⟩
    rw [← hm] at hM3 bJ3 hmw hs3 ⊢
    obtain ⟨J, hJ⟩ : ∃ J, J = m + 1 := ⟨_, rfl⟩
    rw [← hJ] at bJ3 hs3 ⊢
    have HJm := Lib.hid hJ
    clear hm bm b0 g0 hJ hmm
    have m2 := b3.cell 2
    have l0 := b3.lt
    have HS3 := Lib.hid hs3
    clear hs3
    have HLL : Hid ((hrd cacts).length ≤ 1000) := Nat.le_trans (hrd_len cacts) hna
    have HMEM : Hid (∀ x, x ∈ hrd cacts → actB cbks cbds cen x = true) := fun x hx => HA.out.1 x ((hrd_mem _ _).1 hx)
    have HBK : Hid (cbks ≤ 6) := HA.out.2.2.1
    obtain ⟨L, hL⟩ : ∃ L, L = hrd cacts := ⟨_, rfl⟩
    rw [← hL] at HCO2 HFJ2 HLL HMEM
    clear hL HA
    go_wp2_with (go_at_call 64; refine (HCO2.out _ g3).mono ?_; rintro e A ⟨v, rfl, ho, hGA⟩; obtain ⟨ra, rc, rfl⟩ := own_slice ho)
    have hJA : Blk A J 79 #[.int .i64 cbks, .int .i64 cbds, .slice caa cacts.length cac, .slice cda cduties.length cdc, .int .i64 cen, .slice none 0 0, .slice none 0 0, .map (some m)] := bJ3.keep hGA
    have hMA : SdM A m 0 (fun _ => none) := hM3.keepG hGA
    have HSZ : Hid (J < A.heap.size ∧ m < A.heap.size) := ⟨hJA.lt, hMA.lt⟩
    have HGT : Hid (∀ W, Fr (fun i => i = J ∨ i = m) A W → G w W) := fun W hF => ((g3.t hGA).fr.t2 hF (R := fun _ => False) (fun i hi hr => by have := HJm.out; omega)).toG (fun _ _ hh => hh)
    have HROW : Hid (∀ W, Fr (fun i => i = J ∨ i = m) A W → RowE Ac.v 8 W ra L) := fun W hF => by
      have h9 := own_Fr ho hF (fun g hg e => by
        rcases e with e | e
        · exact own_blk_ne ho hJA (by decide) (e ▸ hg.symm)
        · exact own_sdm hMA ho (e ▸ hg.symm))
      obtain ⟨a9, c9, e9, hr9⟩ := own_ac h9
      cases e9
      exact hr9
    have HJ0 : Hid (JW A.heap.size A J m 0 (.int .i64 cbks) (.int .i64 cbds) (.slice caa cacts.length cac) (.slice cda cduties.length cdc) cen Jn.zero (fun _ => 0) (.slice none 0 0) (.slice none 0 0)) :=
      ⟨hJA, World.ownsRow_nil _ _ _ _, World.ownsRow_nil _ _ _ _, fun i hi => absurd hi (by simp [Jn.zero]), fun i _ hi => absurd hi (by simp [Jn.zero]), hMA, JOk.zero, hJA.lt, hMA.lt, Nat.le_refl _⟩
    clear m2 l0 b3 bJ3 hM3 hJA hMA
    obtain ⟨b, hb⟩ : ∃ b, b = A.heap.size := ⟨_, rfl⟩
    rw [← hb] at HJ0 HSZ
    have HBA := Lib.hid hb
    clear hb ho hGA g3 HS3
    go_loopw [21] (fun vi wr => ∃ (k : Nat) (j : Jn) (P : Nat → Nat) (vp vq : Value), k ≤ L.length ∧ vi = .int .i64 k ∧ Hid (run cen Jn.zero (L.take k) = some j) ∧ Hid (j.past.length = k ∧ j.ps.length ≤ k) ∧ Hid (JW b wr J m k (.int .i64 cbks) (.int .i64 cbds) (.slice caa cacts.length cac) (.slice cda cduties.length cdc) cen j P vp vq) ∧ Hid (Fr (fun i => i = J ∨ i = m) A wr)) (fun vi _ => L.length - (intOf vi).toNat)
    case atStart => exact ⟨0, Jn.zero, _, _, _, Nat.zero_le _, rfl, rfl, ⟨rfl, Nat.le_refl _⟩, HJ0.out, Fr.rf _ _⟩
    case round =>
      clear HJ0
      obtain ⟨k, j, P, vp, vq, hk, rfl, HR, HLN, HJW, HFR⟩ := hrel
      obtain ⟨wo, rfl⟩ : ∃ wo, wo = wr := ⟨_, rfl⟩
      have hLL := HLL.out
      by_cases hlt : k < L.length
      · have hki : (k : Int) < L.length := by omega
        have HMX : Hid (actB cbks cbds cen (L.getD k default) = true) := HMEM.out _ (by simp [List.getD, hlt])
        have HSN : Hid (L.take (k + 1) = L.take k ++ [L.getD k default]) := by
          show _ = _
          rw [List.take_succ_eq_append_getElem hlt]; simp [hlt]
        have HFULL : Hid (∀ x : Ac, L.take (k + 1) = L.take k ++ [x] → (hap cen j x).2 = false → FJ = none) := fun x hx hh => by
          rw [HFJ2.out, ← List.take_append_drop (k + 1) L]
          refine run_none _ _ _ ?_
          rw [hx, run_snoc _ _ _ _ HR.out, hh]
          rfl
        have HSTEP : Hid (∀ x : Ac, L.take (k + 1) = L.take k ++ [x] → (hap cen j x).2 = true → run cen Jn.zero (L.take (k + 1)) = some (step cen j x)) := fun x hx hh => by
          rw [hx, run_snoc _ _ _ _ HR.out, hh]
          rfl
        rcases HROW.out wo HFR.out with h0 | ⟨g, off, rfl, hg, hcell⟩
        · omega
        have lg := hg
        have hx := hcell k hlt
        obtain ⟨x, hxx⟩ : ∃ x, x = L.getD k default := ⟨_, rfl⟩
        rw [← hxx] at hx HMX HSN
        clear hcell hxx hg
        have HHAP := Lib.hid (fun (W : World) (hG : G wo W) => happen_any x b J m k (.int .i64 cbks) (.int .i64 cbds) (.slice caa cacts.length cac) (.slice cda cduties.length cdc) cen j P vp vq W (HJW.out.keep hG) (by have := actB_bk HMX.out; have := HBK.out; omega) (by omega) (by have := HLN.out; omega) (by have := HLN.out; omega))
        obtain ⟨XX, hXX⟩ : ∃ XX, XX = x := ⟨_, rfl⟩
        rw [← hXX] at HSN
        have HXX := Lib.hid hXX
        clear hXX
        obtain ⟨yid, ytm, ykd, ybk, ybd, ym1, ym2, ysl⟩ := x
        unfold Ac.v at *
        dsimp only at HHAP
        have q0 : wo.cell? ⟨g, off + k * 8, none⟩ = some (.int .i64 yid) := hx 0 (by omega)
        have q1 : wo.cell? ⟨g, off + k * 8 + 1, none⟩ = some (.int .i64 ytm) := hx 1 (by omega)
        have q2 : wo.cell? ⟨g, off + k * 8 + 2, none⟩ = some (.int .i64 ykd) := hx 2 (by omega)
        have q3 : wo.cell? ⟨g, off + k * 8 + 3, none⟩ = some (.int .i64 ybk) := hx 3 (by omega)
        have q4 : wo.cell? ⟨g, off + k * 8 + 4, none⟩ = some (.int .i64 ybd) := hx 4 (by omega)
        have q5 : wo.cell? ⟨g, off + k * 8 + 5, none⟩ = some (.int .i64 ym1) := hx 5 (by omega)
        have q6 : wo.cell? ⟨g, off + k * 8 + 6, none⟩ = some (.int .i64 ym2) := hx 6 (by omega)
        have q7 : wo.cell? ⟨g, off + k * 8 + 7, none⟩ = some (.int .i64 ysl) := hx 7 (by omega)
        clear hx
        go_upto_region 9 with fail
        clear q0 q1 q2 q3 q4 q5 q6 q7 lg
        have bX : Blk (wo.alloc (.cells #[.int .i64 yid, .int .i64 ytm, .int .i64 ykd, .int .i64 ybk, .int .i64 ybd, .int .i64 ym1, .int .i64 ym2, .int .i64 ysl] 54)) wo.heap.size 54 #[.int .i64 yid, .int .i64 ytm, .int .i64 ykd, .int .i64 ybk, .int .i64 ybd, .int .i64 ym1, .int .i64 ym2, .int .i64 ysl] := Blk.new _ _ _
        have HH2 := Lib.hid (HHAP.out _ ((G.rf wo).a (.cells #[.int .i64 yid, .int .i64 ytm, .int .i64 ykd, .int .i64 ybk, .int .i64 ybd, .int .i64 ym1, .int .i64 ym2, .int .i64 ysl] 54)))
        have F2 : Fr (fun i => i = J ∨ i = m) A (wo.alloc (.cells #[.int .i64 yid, .int .i64 ytm, .int .i64 ykd, .int .i64 ybk, .int .i64 ybd, .int .i64 ym1, .int .i64 ym2, .int .i64 ysl] 54)) := HFR.out.a _
        have hbw : b ≤ wo.heap.size := HJW.out.lb
        have HXV := Lib.hid (own_far HJW.out.hp (Nat.le_refl _))
        change Code.wp _ _ _ _ (wo.alloc (.cells #[.int .i64 yid, .int .i64 ytm, .int .i64 ykd, .int .i64 ybk, .int .i64 ybd, .int .i64 ym1, .int .i64 ym2, .int .i64 ysl] 54))
        obtain ⟨X, hX⟩ : ∃ X, X = wo.heap.size := ⟨_, rfl⟩
        rw [← hX] at bX hbw HXV ⊢
        clear HHAP HJW HFR hX
        generalize wo.alloc (.cells #[.int .i64 yid, .int .i64 ytm, .int .i64 ykd, .int .i64 ybk, .int .i64 ybd, .int .i64 ym1, .int .i64 ym2, .int .i64 ysl] 54) = W1 at *
        rw [← HXX.out] at HH2
        have n0 := bX.cell 0
        have n1 := bX.cell 1
        have n2 := bX.cell 2
        have n3 := bX.cell 3
        have n4 := bX.cell 4
        have n5 := bX.cell 5
        have n6 := bX.cell 6
        have n7 := bX.cell 7
        have lX := bX.lt
        cases hr : (hap cen j XX).2
        · have HZ := Lib.hid (HP2b.out (HFULL.out XX HSN.out hr))
          rw [hr] at HH2
          have HGT2 := Lib.hid (fun (w3 : World) (hF : Fr (RJ W1 J m b) W1 w3) => HGT.out w3 (F2.t2 hF (fun i hi hr => by
            rcases hr with h | h | ⟨h, _⟩
            · exact .inl h
            · exact .inr h
            · exact absurd HBA.out (by omega))))
          clear hr HP2b HP3 HFULL HSTEP HR HLN HMX HMEM HGT HROW
          go_wp2_with (go_at_call 65; refine HH2.out.mono ?_; rintro e w3 ⟨rfl, hF3, _⟩)
          first | exact HZ.out _ (HGT2.out _ hF3) | (go_ret; exact HZ.out _ (HGT2.out _ hF3))
        · rw [hr] at HH2
          have HST := Lib.hid (HSTEP.out XX HSN.out hr)
          clear hr HP2b HFULL HSTEP HMX HMEM HGT HROW
          go_upto_region 11 with (go_at_call 65; refine HH2.out.mono ?_; rintro e w3 ⟨rfl, hF3, hT⟩)
          clear n0 n1 n2 n3 n4 n5 n6 n7 lX
          obtain ⟨P', vq', hJ3⟩ := hT (by simp)
          clear hT
          have hpast : (hap cen j XX).1.past = j.past := hap_past _ _ _
          have hpsl := hap_ps cen j XX
          obtain ⟨jn, hjn⟩ : ∃ jn, jn = (hap cen j XX).1 := ⟨_, rfl⟩
          have hstep : step cen j XX = ⟨jn.past ++ [XX], jn.ps, jn.sd⟩ := by unfold step; rw [hjn, hpast]
          rw [← hjn] at hJ3 hpast hpsl
          rw [hstep] at HST
          have HPA : Hid (jn.past.length = k ∧ jn.ps.length ≤ k + 1) := ⟨by rw [hpast]; exact HLN.out.1, by have := HLN.out.2; omega⟩
          clear hpast hpsl hjn hstep HLN HR HH2
          have hXm : ¬ RJ W1 J m b X := by
            have := HSZ.out
            rintro (e | e | ⟨_, c0, t0, e, ht⟩)
            · omega
            · omega
            · have e3 := (show W1.heap[X]? = _ from bX).symm.trans e
              cases e3
              rcases ht with ht | ht <;> exact absurd ht (by decide)
          have bX3 := hF3.blk bX hXm
          have F3 : Fr (fun i => i = J ∨ i = m) A w3 := F2.t2 hF3 (fun i hi hr => by
            rcases hr with h | h | ⟨h, _⟩
            · exact .inl h
            · exact .inr h
            · exact absurd HBA.out (by omega))
          clear F2 hF3 bX hXm
          have HJ3 := Lib.hid hJ3
          have bJ := hJ3.bJ
          have HlJ := Lib.hid hJ3.lJ
          clear hJ3
          refine wp_region_Y (S := fun W' => Blk W' J 79 #[.int .i64 cbks, .int .i64 cbds, .slice caa cacts.length cac, .slice cda cduties.length cdc, .int .i64 cen, vp, vq', .map (some m)] ∧ Blk W' X 54 #[.int .i64 yid, .int .i64 ytm, .int .i64 ykd, .int .i64 ybk, .int .i64 ybd, .int .i64 ym1, .int .i64 ym2, .int .i64 ysl]) 10 11 rfl (by kernel_rfl) ⟨bJ.drewN 1, bX3.drewN 1⟩ (fun hS => ?_)
          have F4 : Fr (fun i => i = J ∨ i = m) A w3.drew := F3.d
          have HJ4 := Lib.hid (HJ3.out.keep ((G.rf w3).d))
          clear F3 HJ3 bX3 bJ
          generalize w3.drew = WD at *
          refine wpAnyY_take (i := 0) (v := ?_) rfl (by kernel_rfl) (by kernel_rfl) (by kernel_rfl) (by kernel_rfl) (fun _ _ _ h => h) (Or.inl ⟨by kernel_rfl, ?_⟩) hS ?_
          rotate_left
          · intro w' hSw; go_simp; with_reducible rfl
          try simp only [Act.put, zzA, zzB, zzC, zzD, zzE, zzF]
          refine wpAnyY_take (i := 1) (v := ?_) rfl (by kernel_rfl) (by kernel_rfl) (by kernel_rfl) (by kernel_rfl) (fun _ _ _ h => h) (Or.inl ⟨by kernel_rfl, ?_⟩) hS ?_
          rotate_left
          · intro w' hSw; go_simp; with_reducible rfl
          try simp only [Act.put, zzA, zzB, zzC, zzD, zzE, zzF]
          refine wpAnyY_take (i := 2) (v := ?_) rfl (by kernel_rfl) (by kernel_rfl) (by kernel_rfl) (by kernel_rfl) (fun _ _ _ h => h) (Or.inl ⟨by kernel_rfl, ?_⟩) hS ?_
          rotate_left
          · intro w' hSw; go_simp; with_reducible rfl
          try simp only [Act.put, zzA, zzB, zzC, zzD, zzE, zzF]
          refine wpAnyY_take (i := 3) (v := ?_) rfl (by kernel_rfl) (by kernel_rfl) (by kernel_rfl) (by kernel_rfl) (fun _ _ _ h => h) (Or.inl ⟨by kernel_rfl, ?_⟩) hS ?_
          rotate_left
          · intro w' hSw; go_simp; with_reducible rfl
          try simp only [Act.put, zzA, zzB, zzC, zzD, zzE, zzF]
          refine wpAnyY_take (i := 4) (v := ?_) rfl (by kernel_rfl) (by kernel_rfl) (by kernel_rfl) (by kernel_rfl) (fun _ _ _ h => h) (Or.inl ⟨by kernel_rfl, ?_⟩) hS ?_
          rotate_left
          · intro w' hSw; have j5 := hSw.1.cell 5; have lJ := hSw.1.lt; go_simp; with_reducible rfl
          try simp only [Act.put, zzA, zzB, zzC, zzD, zzE, zzF]
          refine wpAnyY_take (i := 5) (v := ?_) rfl (by kernel_rfl) (by kernel_rfl) (by kernel_rfl) (by kernel_rfl) (fun _ _ _ h => h) (Or.inl ⟨by kernel_rfl, ?_⟩) hS ?_
          rotate_left
          · intro w' hSw; have n0 := hSw.2.cell 0; have n1 := hSw.2.cell 1; have n2 := hSw.2.cell 2; have n3 := hSw.2.cell 3; have n4 := hSw.2.cell 4; have n5 := hSw.2.cell 5; have n6 := hSw.2.cell 6; have n7 := hSw.2.cell 7; have lX := hSw.2.lt; go_simp; with_reducible rfl
          try simp only [Act.put, zzA, zzB, zzC, zzD, zzE, zzF]
          obtain ⟨i0, hi0, hz0, hz1, hz2⟩ := info_parts info54
          refine wpAnyY_oneSW (i := 6) (by kernel_rfl) rfl (by kernel_rfl) (fun K6 hK6 => ?_)
          go_simp
          refine hK6.out _ _ ⟨hS.1.alloc _, hS.2.alloc _⟩ (fun hS => ?_)
          clear hK6
          try simp only [Act.put, zzA, zzB, zzC, zzD, zzE, zzF]
          refine wpAnyY_oneSW (i := 7) (by kernel_rfl) rfl (by kernel_rfl) (fun K7 hK7 => ?_)
          refine wp_append_own _ _ _ 22 rfl b 54 i0 (.agg #[.int .i64 0, .int .i64 0, .int .i64 0, .int .i64 0, .int .i64 0, .int .i64 0, .int .i64 0, .int .i64 0]) 8 64 Tryz.underlying22 hi0 hz0 hz1 hz2 rfl (by decide) vp jn.past.length (acV jn.past) rfl (own_G HJ4.out.hp ((G.rf WD).a (.cells #[.int .i64 yid, .int .i64 ytm, .int .i64 ykd, .int .i64 ybk, .int .i64 ybd, .int .i64 ym1, .int .i64 ym2, .int .i64 ysl] 54))) ⟨WD.heap.size, 0, none⟩ 1 1 [.int .i64 yid, .int .i64 ytm, .int .i64 ykd, .int .i64 ybk, .int .i64 ybd, .int .i64 ym1, .int .i64 ym2, .int .i64 ysl] rfl rfl (cell_new8 _ _ _) (by simp [Value.oneCell']) (by have := HPA.out; unfold maxLen; omega) (by have := HPA.out; omega) (Nat.le_trans HJ4.out.lb (by simp)) ?_
          intro v9 w9 hown9 hg9 _
          obtain ⟨ra9, rc9, rfl⟩ := own_slice hown9
          have g5 : G WD (WD.alloc (.cells #[.int .i64 yid, .int .i64 ytm, .int .i64 ykd, .int .i64 ybk, .int .i64 ybd, .int .i64 ym1, .int .i64 ym2, .int .i64 ysl] 54)) := (G.rf WD).a _
          have HJ5 := Lib.hid (HJ4.out.keep g5)
          have hnJ := own_blk_ne HJ5.out.hp HJ5.out.bJ (by decide)
          have bJ9 := HJ5.out.bJ.grown hg9 hnJ
          have F5 : Fr (fun i => i = J ∨ vp.ownBlock = some i) (WD.alloc (.cells #[.int .i64 yid, .int .i64 ytm, .int .i64 ykd, .int .i64 ybk, .int .i64 ybd, .int .i64 ym1, .int .i64 ym2, .int .i64 ysl] 54)) w9 := (Fr.rf _ _).grown hg9 (fun g e => .inl (.inr e))
          have F9 : Fr (fun i => i = J ∨ i = m) A w9 := (F4.a (.cells #[.int .i64 yid, .int .i64 ytm, .int .i64 ykd, .int .i64 ybk, .int .i64 ybd, .int .i64 ym1, .int .i64 ym2, .int .i64 ysl] 54)).grown hg9 (fun g e => .inr (by have := own_base HJ5.out.hp e; have := HBA.out; omega))
          refine hK7.out _ _ ⟨bJ9, hS.2.grown hg9 HXV.out⟩ (fun hS => ?_)
          clear hK7
          try simp only [Act.put, zzA, zzB, zzC, zzD, zzE, zzF]
          refine wpAnyY_take (i := 8) (v := ?_) rfl (by kernel_rfl) (by kernel_rfl) (by kernel_rfl) (by kernel_rfl) (fun _ _ _ h => h) (Or.inl ⟨by kernel_rfl, ?_⟩) hS ?_
          rotate_left
          · intro w' hSw; go_simp; with_reducible rfl
          try simp only [Act.put, zzA, zzB, zzC, zzD, zzE, zzF]
          refine wpAnyY_take (i := 9) (v := ?_) rfl (by kernel_rfl) (by kernel_rfl) (by kernel_rfl) (by kernel_rfl) (fun _ _ _ h => h) (Or.inl ⟨by kernel_rfl, ?_⟩) hS ?_
          rotate_left
          · intro w' hSw; go_simp; with_reducible rfl
          try simp only [Act.put, zzA, zzB, zzC, zzD, zzE, zzF]
          have z5 := bJ9.frozen 5
          have c5 := bJ9.cell 5
          have lJ := bJ9.lt
          refine wpAnyY_oneW (i := 10) (by kernel_rfl) rfl (by kernel_rfl) (by kernel_rfl) (fun K10 hK10 => ?_)
          go_simp
          refine hK10.out _ _ ?_
          clear hK10
          try simp only [Act.put, zzA, zzB, zzC, zzD, zzE, zzF]
          refine wpAnyY_done (by kernel_rfl) ?_ _
          clear hS z5 c5 lJ
          have hnJ9 := own_blk_ne hown9 bJ9 (by decide)
          have F10 := F9.s (p := ⟨J, 5, none⟩) (.inl (.inl rfl)) (.slice ra9 (jn.past.length + 1) rc9)
          have HJ10 := Lib.hid (JW.pushed (a := XX) (vp' := .slice ra9 (jn.past.length + 1) rc9) (W' := w9.setCell ⟨J, 5, none⟩ (.slice ra9 (jn.past.length + 1) rc9)) HJ5.out (bJ9.set_ 5 (.slice ra9 (jn.past.length + 1) rc9)) (own_Fr (by rw [HXX.out]; exact hown9) ((Fr.rf (fun i => i = J) w9).s (p := ⟨J, 5, none⟩) (.inl rfl) _) (fun g hg e => hnJ9 (by rw [hg, e]))) (F5.s (p := ⟨J, 5, none⟩) (.inl (.inl rfl)) _))
          have HPA2 : Hid ((jn.past ++ [XX]).length = k + 1 ∧ jn.ps.length ≤ k + 1) := ⟨by rw [List.length_append, HPA.out.1]; rfl, HPA.out.2⟩
          clear F9 F5 bJ9 HJ5 HJ4 F4 hown9 hg9 hnJ g5 hnJ9 HPA HP3
          generalize w9.setCell ⟨J, 5, none⟩ (.slice ra9 (jn.past.length + 1) rc9) = w10 at *
          go_wp2_with fail
          go_roundw
          case rel => exact ⟨k + 1, _, P', _, vq', by omega, by go_num, HST.out, HPA2.out, HJ10.out, F10⟩
          case measure => simp [intOf] <;> omega
      · obtain rfl : k = L.length := by omega
        have hki : ¬ ((L.length : Nat) : Int) < L.length := by omega
        have hr := HR.out
        rw [List.take_length] at hr
        obtain ⟨pa, pc, qa, qc, hfol⟩ := HFOL.out b wo J m L.length j P vp vq (by rw [HCC.out]; exact HJW.out) (by have := HLN.out; omega) (by have := HLN.out; omega)
        have HZ := Lib.hid (HP3.out j (by rw [HFJ2.out, hr]) wo J m P pa pc qa qc (HGT.out _ HFR.out) (by rw [HCC.out] at hfol; exact hfol))
        clear HP2b HP3 HMEM HGT HROW hr HR HFOL hfol HJW HFR
        go_wp2_with fail
        first | exact HZ.out | (go_ret; exact HZ.out)
end Go.Proofs.YtabnpimidhlbiaaGreat

set_option linter.unusedSimpArgs false
set_option linter.unusedVariables false
namespace Go.Proofs.YtabnpimidhlbiaaGreat
open Go.RowKit Go.Shelf Go.Sort
attribute [local go_sem] Oper.semAt_some
/-- the error of a question about a convoy; d: it is as described -/
def qErr (c : Cv) (d : Bool) : Int := if folE c = 0 then (if d = true then 0 else 1) else folE c
theorem folE_some {c : Cv} {k : Jn} (h : folJ c = some k) : folE c = 0 := by
  have hv : vcB c = true := by
    unfold folJ at h
    by_cases e : vcB c = true ∧ clashB c.acts = false
    · exact e.1
    · rw [if_neg e] at h; cases h
  unfold folE
  rw [if_pos hv, h]; rfl
theorem folE_none {c : Cv} (h : folJ c = none) : folE c = 50 ∨ folE c = 51 := by
  unfold folE
  rw [h]
  by_cases hv : vcB c = true
  · rw [if_pos hv]; exact .inr rfl
  · rw [if_neg hv]; exact .inl rfl
def QuPost (c : Cv) (d : Bool) (w : World) (e : Ending) (w' : World) : Prop :=
  G w w' ∧ ((qErr c d ≠ 0 ∧ e = .returned (.tuple #[.pointer none, .int .i64 (qErr c d)])) ∨ (qErr c d = 0 ∧ d = true ∧ ∃ k J m P pa pc qa qc, folJ c = some k ∧ e = .returned (.tuple #[.pointer (some ⟨J, 0, none⟩), .int .i64 0]) ∧ FolAt c k w' J m P pa pc qa qc))
/-- what follow answers, in two cases -/
theorem FolPost.two {c : Cv} {w w' : World} {e : Ending} (h : FolPost c w e w') : G w w' ∧ ((folJ c = none ∧ folE c ≠ 0 ∧ e = .returned (.tuple #[.pointer none, .int .i64 (folE c)])) ∨ ∃ k J m P pa pc qa qc, folJ c = some k ∧ e = .returned (.tuple #[.pointer (some ⟨J, 0, none⟩), .int .i64 0]) ∧ FolAt c k w' J m P pa pc qa qc) := by
  obtain ⟨hG, h1, h2⟩ := h
  refine ⟨hG, ?_⟩
  cases hf : folJ c with
  | none =>
    refine .inl ⟨rfl, ?_, h1 hf⟩
    have := folE_none hf
    omega
  | some k =>
    obtain ⟨J, m, P, pa, pc, qa, qc, h3, h4⟩ := h2 k hf
    exact .inr ⟨k, J, m, P, pa, pc, qa, qc, rfl, h3, h4⟩
set_option maxRecDepth 100000 in
set_option maxHeartbeats 8000000 in
theorem question_any (c : Cv) (d : Bool) (w : World) (h : c.At w) : Calls Tryz.prog 37 #[.agg c.v, .bool d] w (QuPost c d w) := by
  have HF := Lib.hid (fun (W : World) (hW : G w W) => (follow_any c W (h.keep hW)).mono fun e w' hh => FolPost.two hh)
  have HP1 : Hid (folE c ≠ 0 → ∀ w', G w w' → QuPost c d w (.returned (.tuple #[.pointer none, .int .i64 (folE c)])) w') := fun h1 w' hG => by
    have e : qErr c d = folE c := by unfold qErr; rw [if_neg h1]
    exact ⟨hG, .inl ⟨by rw [e]; exact h1, by rw [e]⟩⟩
  have HP2 : Hid (d = false → folE c = 0 → ∀ w', G w w' → QuPost c d w (.returned (.tuple #[.pointer none, .int .i64 1])) w') := fun h1 h2 w' hG => by
    have e : qErr c d = 1 := by unfold qErr; rw [if_pos h2, if_neg (by rw [h1]; simp)]
    exact ⟨hG, .inl ⟨by rw [e]; decide, by rw [e]⟩⟩
  have HP3 : Hid (d = true → ∀ k w' J m P pa pc qa qc, folJ c = some k → G w w' → FolAt c k w' J m P pa pc qa qc → QuPost c d w (.returned (.tuple #[.pointer (some ⟨J, 0, none⟩), .int .i64 0])) w') := fun h1 k w' J m P pa pc qa qc h2 hG hF => by
    have e : qErr c d = 0 := by unfold qErr; rw [if_pos (folE_some h2), if_pos h1]
    exact ⟨hG, .inr ⟨e, h1, k, J, m, P, pa, pc, qa, qc, h2, rfl, hF⟩⟩
  have HE := Lib.hid (fun (k : Jn) (hk : folJ c = some k) => folE_some hk)
  generalize QuPost c d w = PP at *
  clear h
  obtain ⟨FE, hFE⟩ : ∃ FE, FE = folE c := ⟨_, rfl⟩
  rw [← hFE] at HF HP1 HP2 HE
  clear hFE
  obtain ⟨CC, hCC⟩ : ∃ CC, CC = c := ⟨_, rfl⟩
  rw [← hCC] at HP3 HE
  have HCC := Lib.hid hCC
  clear hCC
  obtain ⟨cbks, cbds, caa, cac, cacts, cda, cdc, cduties, cen⟩ := c
  unfold Cv.v at *
  dsimp only at *
  have g0 : G w (w.alloc (.cells #[.int .i64 cbks, .int .i64 cbds, .slice caa cacts.length cac, .slice cda cduties.length cdc, .int .i64 cen] 25)) := (G.rf _).a _
  have b0 : Blk (w.alloc (.cells #[.int .i64 cbks, .int .i64 cbds, .slice caa cacts.length cac, .slice cda cduties.length cdc, .int .i64 cen] 25)) w.heap.size 25 #[.int .i64 cbks, .int .i64 cbds, .slice caa cacts.length cac, .slice cda cduties.length cdc, .int .i64 cen] := Blk.new _ _ _
  have m0 := b0.cell 0
  have m1 := b0.cell 1
  have m2 := b0.cell 2
  have m3 := b0.cell 3
  have m4 := b0.cell 4
  have l0 := b0.lt
  go_enter Tryz.func37, Tryz.ntmps37
  go_upto_region 2 with (go_at_call 32; refine (HF.out _ g0).mono ?_; rintro e w1 ⟨hG1, ⟨hn, hne, rfl⟩ | ⟨k, J, m, P, pa, pc, qa, qc, hk, rfl, hF1⟩⟩)
  · have HZ := Lib.hid (HP1.out hne w1 (g0.t hG1))
    have hneb : ¬ FE = 0 := hne
    clear HP1 HP2 HP3 HF HE hn m0 m1 m2 m3 m4 l0 hne
    go_wp2_with fail
    first | exact HZ.out | (go_ret; exact HZ.out)
  · have hg1 := g0.t hG1
    rw [← HCC.out] at hk hF1
    have HF1 := Lib.hid hF1
    have HK := Lib.hid hk
    clear hF1 hk m0 m1 m2 m3 m4 l0 HF
    cases d
    · have HZ := Lib.hid (HP2.out rfl (HE.out k HK.out) w1 hg1)
      clear HP1 HP2 HP3 HE
      go_wp2_with fail
      first | exact HZ.out | (go_ret; exact HZ.out)
    · have HZ := Lib.hid (HP3.out rfl k w1 J m P pa pc qa qc HK.out hg1 HF1.out)
      clear HP1 HP2 HP3 HE
      go_wp2_with fail
      first | exact HZ.out | (go_ret; exact HZ.out)
end Go.Proofs.YtabnpimidhlbiaaGreat

set_option linter.unusedSimpArgs false
set_option linter.unusedVariables false
namespace Go.Proofs.YtabnpimidhlbiaaGreat
open Go.RowKit Go.Shelf Go.Sort
attribute [local go_sem] Oper.semAt_some
/-- the reference's walk through acts -/
def runR : Rs → List Ac → Option Rs
  | s, [] => some s
  | s, a :: l => if (hapR s a).2 = true then runR (hapR s a).1 l else none
theorem run_runR {B N E : Int} : ∀ (l : List Ac) (j : Jn) (s : Rs), Rel j s → (∀ a ∈ l, actB B N E a = true) → (∀ x ∈ j.past, ∀ a ∈ l, x.tm ≤ a.tm) → StrA l → (run E j l).isSome = (runR s l).isSome
  | [], j, s, _, _, _, _ => rfl
  | a :: l, j, s, h, hl, ht, hs => by
    obtain ⟨e1, e2⟩ := h.step (hl a (by simp)) (fun x hx => ht x hx a (by simp)) E
    have hs2 := List.pairwise_cons.1 hs
    unfold run runR
    rw [e1]
    by_cases hh : (hapR s a).2 = true
    · rw [if_pos hh, if_pos hh]
      have e3 : ({ (hap E j a).1 with past := (hap E j a).1.past ++ [a] } : Jn) = step E j a := by unfold step; rw [hap_past]
      rw [e3]
      refine run_runR l (step E j a) (hapR s a).1 (e2 hh) (fun x hx => hl x (List.mem_cons_of_mem _ hx)) ?_ hs2.2
      intro x hx b hb
      have hx2 : x ∈ j.past ++ [a] := hx
      rcases List.mem_append.1 hx2 with hx2 | hx2
      · exact ht x hx2 b (List.mem_cons_of_mem _ hb)
      · rw [List.mem_singleton.1 hx2]
        have := hs2.1 b hb
        unfold ltA at this
        omega
    · rw [if_neg hh, if_neg hh]; rfl
theorem runR_snoc (l : List Ac) (a : Ac) : ∀ s : Rs, runR s (l ++ [a]) = (runR s l).bind fun t => if (hapR t a).2 = true then some (hapR t a).1 else none := by
  induction l with
  | nil => intro s; simp [runR]
  | cons x l ih =>
    intro s
    simp only [List.cons_append, runR]
    by_cases hh : (hapR s x).2 = true
    · rw [if_pos hh, if_pos hh]; exact ih _
    · rw [if_neg hh, if_neg hh]; rfl
theorem runR_append (l m : List Ac) : ∀ s : Rs, runR s (l ++ m) = (runR s l).bind fun t => runR t m := by
  induction l with
  | nil => intro s; simp [runR]
  | cons x l ih =>
    intro s
    simp only [List.cons_append, runR]
    by_cases hh : (hapR s x).2 = true
    · rw [if_pos hh, if_pos hh]; exact ih _
    · rw [if_neg hh, if_neg hh]; rfl
theorem folJ_runR {c : Cv} (hv : vcB c = true) (hc : clashB c.acts = false) : (folJ c).isSome = (runR Rs.zero (heaL c.acts)).isSome := by
  have hu := (clashB_iff _).1 hc
  unfold folJ
  rw [if_pos ⟨hv, hc⟩, heaL_eq hu]
  exact run_runR (hrd c.acts) Jn.zero Rs.zero Rel.zero (fun a ha => (vcB_act hv).1 a ((hrd_mem _ _).1 ha)) (fun x hx => absurd hx (by simp [Jn.zero])) (hrd_str hu)
/-- what the reference's order of acts answers -/
def HeaPost (w : World) (l : List Ac) (e : Ending) (w' : World) : Prop := ∃ v, e = .returned v ∧ w'.ownsRow w.heap.size 54 8 v (heaL l).length (acV (heaL l)) ∧ G w w'
def HeardOK : Prop := ∀ (l : List Ac) (a : Option Addr) (cap : Nat) (w : World), RowE Ac.v 8 w a l → l.length ≤ 1000 → Calls Tryz.prog 30 #[.slice a l.length cap] w (HeaPost w l)
set_option maxRecDepth 100000 in
set_option maxHeartbeats 16000000 in
theorem checkR_any (HHO : HeardOK) (c : Cv) (w : World) (h : c.At w) : Calls Tryz.prog 20 #[.agg c.v] w fun e w' => e = .returned (.int .i64 (folE c)) ∧ G w w' := by
  have HV := Lib.hid (fun (W : World) (hW : G w W) => isConvoy_any c W (h.keep hW))
  have HC := Lib.hid (fun (W : World) (hW : G w W) => clashR_any c.acts c.aa c.ac W (h.keep hW).ra h.na)
  have HHE := Lib.hid (fun (W : World) (hW : G w W) => HHO c.acts c.aa c.ac W (h.keep hW).ra h.na)
  have HBE := Lib.hid (fun (W : World) (N B : Nat) (h1 : c.bks = (B : Nat)) (h2 : c.bds = (N : Nat)) (h3 : B ≤ 6) (h4 : N ≤ 12) => begin_any c W N B h1 h2 h3 h4)
  have HACT := Lib.hid (fun (hv : vcB c = true) => vcB_act hv)
  have HE0 : Hid (vcB c = false → folE c = 50) := fun hv => by unfold folE; rw [if_neg (by rw [hv]; simp)]
  have HE1 : Hid (vcB c = true → clashB c.acts = true → folE c = 51) := fun hv hc => by
    unfold folE
    have e : folJ c = none := by unfold folJ; rw [if_neg (by rw [hc]; simp)]
    rw [if_pos hv, e]; rfl
  have HE2 : Hid (vcB c = true → clashB c.acts = false → folE c = if (runR Rs.zero (heaL c.acts)).isSome = true then 0 else 51) := fun hv hc => by
    unfold folE
    rw [if_pos hv, folJ_runR hv hc]
  have hna := h.na
  clear h HHO
  generalize folE c = FE at *
  obtain ⟨ybks, ybds, yaa, yac, yacts, yda, ydc, yduties, yen⟩ := c
  unfold Cv.v at *
  dsimp only at *
  have g0 : G w (w.alloc (.cells #[.int .i64 ybks, .int .i64 ybds, .slice yaa yacts.length yac, .slice yda yduties.length ydc, .int .i64 yen] 25)) := (G.rf _).a _
  have b0 : Blk (w.alloc (.cells #[.int .i64 ybks, .int .i64 ybds, .slice yaa yacts.length yac, .slice yda yduties.length ydc, .int .i64 yen] 25)) w.heap.size 25 #[.int .i64 ybks, .int .i64 ybds, .slice yaa yacts.length yac, .slice yda yduties.length ydc, .int .i64 yen] := Blk.new _ _ _
  have m0 := b0.cell 0
  have m1 := b0.cell 1
  have m2 := b0.cell 2
  have m3 := b0.cell 3
  have m4 := b0.cell 4
  have l0 := b0.lt
  cases hv : vcB ⟨ybks, ybds, yaa, yac, yacts, yda, ydc, yduties, yen⟩
  · have HV2 := Lib.hid HV.out
    rw [hv] at HV2
    have HZ := Lib.hid (HE0.out hv)
    clear HE0 HE1 HE2 HV HC HHE HBE HACT hv
    go_enter Tryz.func20, Tryz.ntmps20
    go_wp2_with (go_at_call 49; refine (HV2.out _ g0).mono ?_; rintro e w1 ⟨rfl, hG1⟩)
    first | exact ⟨by rw [HZ.out]; rfl, g0.t hG1⟩ | (go_ret; exact ⟨by rw [HZ.out]; rfl, g0.t hG1⟩)
  have HV2 := Lib.hid HV.out
  rw [hv] at HV2
  cases hc : clashB yacts
  case true =>
    have HC2 := Lib.hid HC.out
    rw [hc] at HC2
    have HZ := Lib.hid (HE1.out hv hc)
    clear HE0 HE1 HE2 HV HC HHE HBE HACT hv hc
    go_enter Tryz.func20, Tryz.ntmps20
    go_wp2_with (first | (go_at_call 49; refine (HV2.out _ g0).mono ?_; rintro e w1 ⟨rfl, hG1⟩; clear m0 m1 m2 m3 m4 l0; replace g0 := g0.t hG1; replace b0 := b0.keep hG1; have m0 := b0.cell 0; have m1 := b0.cell 1; have m2 := b0.cell 2; have m3 := b0.cell 3; have m4 := b0.cell 4; have l0 := b0.lt) | (go_at_call 50; refine (HC2.out _ g0).mono ?_; rintro e w2 ⟨rfl, hG2⟩))
    first | exact ⟨by rw [HZ.out]; rfl, g0.t hG2⟩ | (go_ret; exact ⟨by rw [HZ.out]; rfl, g0.t hG2⟩)
  case false =>
    have HC2 := Lib.hid HC.out
    rw [hc] at HC2
    have HZ := Lib.hid (HE2.out hv hc)
    obtain ⟨hact, h1, h2, h3, h4, h5, h6, h7⟩ := HACT.out hv
    clear HE0 HE1 HE2 HV HC HACT hv hc
    obtain ⟨B, rfl⟩ := Int.eq_ofNat_of_zero_le (show 0 ≤ ybks by omega)
    obtain ⟨N, rfl⟩ := Int.eq_ofNat_of_zero_le h3
    have HBE2 := Lib.hid (fun (W : World) => HBE.out W N B rfl rfl (by omega) (by omega))
    have HAC := Lib.hid hact
    clear HBE hact h1 h2 h3 h4 h5 h6 h7
    obtain ⟨L, hL⟩ : ∃ L, L = heaL yacts := ⟨_, rfl⟩
    have HLL : Hid (L.length ≤ 1000) := by
      rw [Hid, hL]
      have e := heaL_len yacts yacts.length (Nat.le_refl _)
      rw [List.take_length] at e
      omega
    have HMEM : Hid (∀ x ∈ L, x ∈ yacts) := fun x hx => by
      rw [hL] at hx
      have : ∀ (l out : List Ac), x ∈ l.foldl insA out → x ∈ l ∨ x ∈ out := by
        intro l
        induction l with
        | nil => exact fun out h => .inr h
        | cons y l ih =>
          intro out h
          rcases ih _ h with h | h
          · exact .inl (List.mem_cons_of_mem _ h)
          · rcases (insA_mem out y x).1 h with rfl | h
            · exact .inl (by simp)
            · exact .inr h
      rcases this yacts [] hx with h | h
      · exact h
      · simp at h
    unfold HeaPost at HHE
    rw [← hL] at HHE HZ
    clear hL
    go_enter Tryz.func20, Tryz.ntmps20
    go_upto_region 6 with (first | (go_at_call 49; refine (HV2.out _ g0).mono ?_; rintro e w1 ⟨rfl, hG1⟩; clear m0 m1 m2 m3 m4 l0; replace g0 := g0.t hG1; replace b0 := b0.keep hG1; have m0 := b0.cell 0; have m1 := b0.cell 1; have m2 := b0.cell 2; have m3 := b0.cell 3; have m4 := b0.cell 4; have l0 := b0.lt) | (go_at_call 50; refine (HC2.out _ g0).mono ?_; rintro e w2 ⟨rfl, hG2⟩; clear m0 m1 m2 m3 m4 l0; replace g0 := g0.t hG2; replace b0 := b0.keep hG2; have m0 := b0.cell 0; have m1 := b0.cell 1; have m2 := b0.cell 2; have m3 := b0.cell 3; have m4 := b0.cell 4; have l0 := b0.lt) | (go_at_call 51; refine (HBE2.out _).mono ?_; rintro e w3 ⟨a0, gq, g1, g2, g3, c0, rfl, hSt, hq0, hq1, hq2, hq3, hG3⟩))
    clear m0 m1 m2 m3 m4 l0
    have bS : Blk (w3.alloc (.cells #[.slice a0 N c0, .slice (some ⟨g1, 0, none⟩) B B, .slice (some ⟨g2, 0, none⟩) B B, .slice (some ⟨g3, 0, none⟩) B B] 58)) w3.heap.size 58 #[.slice a0 N c0, .slice (some ⟨g1, 0, none⟩) B B, .slice (some ⟨g2, 0, none⟩) B B, .slice (some ⟨g3, 0, none⟩) B B] := Blk.new _ _ _
    have hsz := g0.size
    have hsz3 := hG3.size
    obtain ⟨gp, hSt, hp1, hp2⟩ : ∃ gp, StAt w3 N B Rs.zero a0 gp g1 g2 g3 ∧ gp < w3.heap.size ∧ w.heap.size ≤ gp := by
      rcases hSt.r0 with h0 | h0
      · exact ⟨g1, ⟨.inl h0, hSt.r1, hSt.r2, hSt.r3, .inl h0, hSt.n12, hSt.n13, hSt.n23⟩, hSt.r1.lt, by omega⟩
      · exact ⟨gq, hSt, h0.2.lt, by omega⟩
    have hl1 := hSt.r1.lt
    have hl2 := hSt.r2.lt
    have hl3 := hSt.r3.lt
    have HW := Lib.hid (show w.heap.size ≤ gp ∧ w.heap.size ≤ g1 ∧ w.heap.size ≤ g2 ∧ w.heap.size ≤ g3 from ⟨hp2, by omega, by omega, by omega⟩)
    have g4 : G w (w3.alloc (.cells #[.slice a0 N c0, .slice (some ⟨g1, 0, none⟩) B B, .slice (some ⟨g2, 0, none⟩) B B, .slice (some ⟨g3, 0, none⟩) B B] 58)) := (g0.t hG3).a _
    have bC := (b0.keep hG3).alloc (.cells #[.slice a0 N c0, .slice (some ⟨g1, 0, none⟩) B B, .slice (some ⟨g2, 0, none⟩) B B, .slice (some ⟨g3, 0, none⟩) B B] 58)
    have hS4 := hSt.keep ((G.rf w3).a (.cells #[.slice a0 N c0, .slice (some ⟨g1, 0, none⟩) B B, .slice (some ⟨g2, 0, none⟩) B B, .slice (some ⟨g3, 0, none⟩) B B] 58))
    change Code.wp _ _ _ _ (w3.alloc (.cells #[.slice a0 N c0, .slice (some ⟨g1, 0, none⟩) B B, .slice (some ⟨g2, 0, none⟩) B B, .slice (some ⟨g3, 0, none⟩) B B] 58))
    obtain ⟨SB, hSB⟩ : ∃ SB, SB = w3.heap.size := ⟨_, rfl⟩
    have hs4 : (w3.alloc (.cells #[.slice a0 N c0, .slice (some ⟨g1, 0, none⟩) B B, .slice (some ⟨g2, 0, none⟩) B B, .slice (some ⟨g3, 0, none⟩) B B] 58)).heap.size = SB + 1 := by rw [hSB]; simp
    rw [← hSB] at bS hp1 hl1 hl2 hl3 ⊢
    clear hSB hSt hp2 hG3 g0 b0 hsz hsz3 hq0 hq1 hq2 hq3
    generalize w3.alloc (.cells #[.slice a0 N c0, .slice (some ⟨g1, 0, none⟩) B B, .slice (some ⟨g2, 0, none⟩) B B, .slice (some ⟨g3, 0, none⟩) B B] 58) = w4 at *
    have m2 := bC.cell 2
    have l0 := bC.lt
    go_wp2_with (go_at_call 30; refine (HHE.out _ g4).mono ?_; rintro e A ⟨v, rfl, ho, hGA⟩)
    obtain ⟨ra, rc, rfl⟩ := own_slice ho
    have HSA := Lib.hid (hS4.keep hGA)
    have HSB : Hid (∀ W, Fr (RS4 gp g1 g2 g3) A W → Blk W SB 58 #[.slice a0 N c0, .slice (some ⟨g1, 0, none⟩) B B, .slice (some ⟨g2, 0, none⟩) B B, .slice (some ⟨g3, 0, none⟩) B B]) := fun W hF => hF.blk (bS.keep hGA) (by rintro (e | e | e | e) <;> omega)
    have HROW : Hid (∀ W, Fr (RS4 gp g1 g2 g3) A W → RowE Ac.v 8 W ra L) := fun W hF => by
      have h9 := own_Fr ho hF (fun g hg e => by
        have hb := own_base ho hg
        rcases e with e | e | e | e <;> omega)
      obtain ⟨a9, c9, e9, hr9⟩ := own_ac h9
      cases e9
      exact hr9
    have HGT : Hid (∀ W, Fr (RS4 gp g1 g2 g3) A W → G w W) := fun W hF => ((g4.t hGA).fr.t2 hF (R := fun _ => False) (fun i hi hr => by
      have hw := HW.out
      rcases hr with e | e | e | e <;> omega)).toG (fun _ _ hh => hh)
    clear m2 l0 bC bS ho hS4 hGA g4 HHE HC2 HV2 HBE2
    have hLL := HLL.out
    go_loopw [5] (fun vi wr => ∃ (k : Nat) (s : Rs), k ≤ L.length ∧ vi = .int .i64 k ∧ Hid (runR Rs.zero (L.take k) = some s) ∧ Hid (StAt wr N B s a0 gp g1 g2 g3) ∧ Hid (Fr (RS4 gp g1 g2 g3) A wr)) (fun vi _ => L.length - (intOf vi).toNat)
    case atStart => exact ⟨0, Rs.zero, Nat.zero_le _, rfl, rfl, HSA.out, Fr.rf _ _⟩
    case round =>
      clear HSA
      obtain ⟨k, s, hk, rfl, HR, HST, HFR⟩ := hrel
      obtain ⟨wo, rfl⟩ : ∃ wo, wo = wr := ⟨_, rfl⟩
      by_cases hlt : k < L.length
      · have hki : (k : Int) < L.length := by omega
        have HAX := Lib.hid (HAC.out _ (HMEM.out (L.getD k default) (by simp [List.getD, hlt])))
        have HSN : Hid (L.take (k + 1) = L.take k ++ [L.getD k default]) := by
          show _ = _
          rw [List.take_succ_eq_append_getElem hlt]; simp [hlt]
        have HNO : Hid ((hapR s (L.getD k default)).2 = false → (runR Rs.zero L).isSome = false) := fun hh => by
          rw [← List.take_append_drop (k + 1) L, runR_append, HSN.out, runR_snoc, HR.out]
          show ((if (hapR s (L.getD k default)).2 = true then some (hapR s (L.getD k default)).1 else none).bind _).isSome = false
          rw [if_neg (by rw [hh]; simp)]
          rfl
        have HYES : Hid ((hapR s (L.getD k default)).2 = true → runR Rs.zero (L.take (k + 1)) = some (hapR s (L.getD k default)).1) := fun hh => by
          rw [HSN.out, runR_snoc, HR.out]
          show (if (hapR s (L.getD k default)).2 = true then some (hapR s (L.getD k default)).1 else none) = _
          rw [if_pos hh]
        obtain ⟨g, off, hra⟩ : ∃ g off, ra = some ⟨g, off, none⟩ := by
          rcases HROW.out wo HFR.out with h0 | ⟨g, off, e, _, _⟩
          · omega
          · exact ⟨g, off, e⟩
        subst hra
        have hx : ∀ W, Fr (RS4 gp g1 g2 g3) A W → (∀ t, t < 8 → W.cell? ⟨g, off + k * 8 + t, none⟩ = (Ac.v (L.getD k default))[t]?) ∧ g < W.heap.size := fun W hF => by
          rcases HROW.out W hF with h0 | ⟨g', off', e, lg, hcell⟩
          · omega
          · cases e
            exact ⟨hcell k hlt, lg⟩
        obtain ⟨x, hxx⟩ : ∃ x, x = L.getD k default := ⟨_, rfl⟩
        rw [← hxx] at hx HAX HNO HYES
        clear hxx HSN
        have HHA := Lib.hid (fun (W : World) (hW : StAt W N B s a0 gp g1 g2 g3) => happens_any x N B s a0 gp g1 g2 g3 c0 B B B W hW (by have := actB_bk HAX.out; omega) (fun hh => by have := actB_bird HAX.out hh; omega) (actB_kd HAX.out))
        obtain ⟨r, hr⟩ : ∃ r, r = (hapR s x).2 := ⟨_, rfl⟩
        obtain ⟨s', hs'⟩ : ∃ s', s' = (hapR s x).1 := ⟨_, rfl⟩
        rw [← hr, ← hs'] at HHA
        rw [← hr] at HNO HYES
        rw [← hs'] at HYES
        clear hr hs' HAX
        obtain ⟨yid, ytm, ykd, ybk, ybd, ym1, ym2, ysl⟩ := x
        unfold Ac.v at hx HHA
        dsimp only at HHA
        have HXR := Lib.hid hx
        clear hx
        go_upto_region 10 with fail
        have hst := HST.out
        have hFW := HFR.out
        refine wp_region_Y (S := fun W' => Fr (RS4 gp g1 g2 g3) A W') 6 7 rfl (by kernel_rfl) (hFW.d) (fun hS => ?_)
        have gd : G wo wo.drew := (G.rf wo).d
        have hst2 := Lib.hid (hst.keep gd)
        clear hst HST HFR hFW
        generalize wo.drew = WD at *
        refine wpAnyY_take (i := 0) (v := ?_) rfl (by kernel_rfl) (by kernel_rfl) (by kernel_rfl) (by kernel_rfl) (fun _ _ _ h => h) (Or.inl ⟨by kernel_rfl, ?_⟩) hS ?_
        rotate_left
        · intro w' hSw; have s0 := (HSB.out _ hSw).cell 0; have s1 := (HSB.out _ hSw).cell 1; have s2 := (HSB.out _ hSw).cell 2; have s3 := (HSB.out _ hSw).cell 3; have ls := (HSB.out _ hSw).lt; go_simp; with_reducible rfl
        try simp only [Act.put, zzA, zzB, zzC, zzD, zzE, zzF]
        refine wpAnyY_take (i := 1) (v := ?_) rfl (by kernel_rfl) (by kernel_rfl) (by kernel_rfl) (by kernel_rfl) (fun _ _ _ h => h) (Or.inl ⟨by kernel_rfl, ?_⟩) hS ?_
        rotate_left
        · intro w' hSw; go_simp; with_reducible rfl
        try simp only [Act.put, zzA, zzB, zzC, zzD, zzE, zzF]
        refine wpAnyY_take (i := 2) (v := ?_) rfl (by kernel_rfl) (by kernel_rfl) (by kernel_rfl) (by kernel_rfl) (fun _ _ _ h => h) (Or.inl ⟨by kernel_rfl, ?_⟩) hS ?_
        rotate_left
        · intro w' hSw; go_simp; with_reducible rfl
        try simp only [Act.put, zzA, zzB, zzC, zzD, zzE, zzF]
        refine wpAnyY_take (i := 3) (v := ?_) rfl (by kernel_rfl) (by kernel_rfl) (by kernel_rfl) (by kernel_rfl) (fun _ _ _ h => h) (Or.inl ⟨by kernel_rfl, ?_⟩) hS ?_
        rotate_left
        · intro w' hSw; go_simp; with_reducible rfl
        try simp only [Act.put, zzA, zzB, zzC, zzD, zzE, zzF]
        refine wpAnyY_take (i := 4) (v := ?_) rfl (by kernel_rfl) (by kernel_rfl) (by kernel_rfl) (by kernel_rfl) (fun _ _ _ h => h) (Or.inl ⟨by kernel_rfl, ?_⟩) hS ?_
        rotate_left
        · intro w' hSw; have hrw := HXR.out _ hSw; have x0 := hrw.1 0 (by omega); have x1 := hrw.1 1 (by omega); have x2 := hrw.1 2 (by omega); have x3 := hrw.1 3 (by omega); have x4 := hrw.1 4 (by omega); have x5 := hrw.1 5 (by omega); have x6 := hrw.1 6 (by omega); have x7 := hrw.1 7 (by omega); have xl := hrw.2; try rw [Nat.add_zero] at x0; go_simp; with_reducible rfl
        try simp only [Act.put, zzA, zzB, zzC, zzD, zzE, zzF]
        refine wpAnyY_oneSW (i := 5) (by kernel_rfl) rfl (by kernel_rfl) (fun K5 hK5 => ?_)
        go_simp
        refine (HHA.out _ hst2.out).mono ?_
        rintro e w6 ⟨rfl, hst6, hF6⟩
        have F6 : Fr (RS4 gp g1 g2 g3) A w6 := hS.t2 hF6 (fun i _ h => h)
        refine hK5.out _ _ F6 (fun hS => ?_)
        clear hK5 hF6
        try simp only [Act.put, zzA, zzB, zzC, zzD, zzE, zzF]
        refine wpAnyY_oneW (i := 6) (by kernel_rfl) rfl (by kernel_rfl) (by kernel_rfl) (fun K6 hK6 => ?_)
        go_simp
        refine hK6.out _ _ ?_
        clear hK6
        try simp only [Act.put, zzA, zzB, zzC, zzD, zzE, zzF]
        refine wpAnyY_done (by kernel_rfl) ?_ _
        clear hS
        have HS6 := Lib.hid hst6
        have HF6 := Lib.hid F6
        clear hst6 F6 hst2 gd
        cases r
        · have HZ2 : Hid (FE = 51) := by rw [Hid, HZ.out, HNO.out rfl]; rfl
          have HG6 := Lib.hid (HGT.out _ HF6.out)
          clear HZ HNO HYES
          go_wp2_with fail
          first | exact ⟨by rw [HZ2.out]; rfl, HG6.out⟩ | (go_ret; exact ⟨by rw [HZ2.out]; rfl, HG6.out⟩)
        · have HY := Lib.hid (HYES.out rfl)
          clear HNO HYES
          go_wp2_with fail
          go_roundw
          case rel => exact ⟨k + 1, s', by omega, by go_num, HY.out, HS6.out, HF6.out⟩
          case measure => simp [intOf] <;> omega
      · obtain rfl : k = L.length := by omega
        have hki : ¬ ((L.length : Nat) : Int) < L.length := by omega
        have HZ2 : Hid (FE = 0) := by
          have hr := HR.out
          rw [List.take_length] at hr
          rw [Hid, HZ.out, hr]; rfl
        have HG6 := Lib.hid (HGT.out _ HFR.out)
        clear HZ
        go_wp2_with fail
        first | exact ⟨by rw [HZ2.out]; rfl, HG6.out⟩ | (go_ret; exact ⟨by rw [HZ2.out]; rfl, HG6.out⟩)
end Go.Proofs.YtabnpimidhlbiaaGreat

set_option linter.unusedSimpArgs false
set_option linter.unusedVariables false
namespace Go.Proofs.YtabnpimidhlbiaaGreat
open Go.RowKit Go.Shelf Go.Sort
attribute [local go_sem] Oper.semAt_some
def anyK (out : List Ac) (x : Ac) (k : Nat) : Bool := (out.take k).any fun y => acB y x
theorem anyK_succ {out : List Ac} {x : Ac} {k : Nat} (h : k < out.length) : anyK out x (k + 1) = (anyK out x k || acB (out.getD k default) x) := by
  unfold anyK
  rw [List.take_succ_eq_append_getElem h, List.any_append, getD_of_getElem h]
  simp
set_option maxRecDepth 100000 in
set_option maxHeartbeats 16000000 in
theorem heard_any : HeardOK := by
  intro l a cap w hr hn
  have HPK : Hid (∀ v w', w'.ownsRow w.heap.size 54 8 v (heaL l).length (acV (heaL l)) → G w w' → HeaPost w l (.returned v) w') := fun v w' h1 h2 => ⟨v, rfl, h1, h2⟩
  generalize HeaPost w l = PP at *
  have HR := Lib.hid hr
  clear hr
  have HZ0 : Hid (heaL (l.take 0) = []) := by show heaL (l.take 0) = []; simp [heaL]
  go_enter Tryz.func30, Tryz.ntmps30
  go_wp2_with fail
  go_loopw [3, 4] (fun vo vi wr => ∃ i : Nat, i ≤ l.length ∧ vi = .int .i64 i ∧ Hid (wr.ownsRow w.heap.size 54 8 vo (heaL (l.take i)).length (acV (heaL (l.take i)))) ∧ G w wr) (fun _ vi _ => l.length - (intOf vi).toNat)
  case atStart => exact ⟨0, Nat.zero_le _, rfl, by rw [HZ0.out]; exact World.ownsRow_nil _ _ _ _, G.rf _⟩
  case round =>
    clear HZ0
    obtain ⟨i, hi, rfl, HO, hG⟩ := hrel
    obtain ⟨wo, rfl⟩ : ∃ wo, wo = wr := ⟨_, rfl⟩
    obtain ⟨ao, co, rfl, hro⟩ := own_ac HO.out
    have HRO := Lib.hid hro
    clear hro
    have hLn : (heaL (l.take i)).length ≤ 1000 := Nat.le_trans (heaL_len l i hi) (by omega)
    have HTK := Lib.hid (fun (h : i < l.length) => hea_take l h)
    have HLE := Lib.hid (fun (h : i = l.length) => show heaL (l.take i) = heaL l by rw [h, List.take_length])
    generalize heaL (l.take i) = L at *
    by_cases hlt : i < l.length
    · have hii : (i : Int) < l.length := by omega
      obtain ⟨x, hx⟩ : ∃ x, x = l.getD i default := ⟨_, rfl⟩
      have HX := Lib.hid hx
      rw [← hx] at HTK
      clear hx
      go_wp2_with fail
      go_loopw [5, 6, 7] (fun va vb vk wr => ∃ k : Nat, k ≤ L.length ∧ vk = .int .i64 k ∧ va = .int .i64 (posK L x k) ∧ vb = .bool (anyK L x k) ∧ G wo wr) (fun _ _ vk _ => L.length - (intOf vk).toNat)
      case atStart => exact ⟨0, Nat.zero_le _, rfl, rfl, rfl, G.rf _⟩
      case round =>
        obtain ⟨k, hk, rfl, rfl, rfl, hGo⟩ := hrel
        obtain ⟨wi, rfl⟩ : ∃ wi, wi = wr := ⟨_, rfl⟩
        by_cases hlt2 : k < L.length
        · have hki : (k : Int) < L.length := by omega
          rcases HRO.out.below hGo with h9 | ⟨go, oo, rfl, lgy, hcy⟩
          · omega
          rcases HR.out.below (hG.t hGo) with h9 | ⟨gl, ol, rfl, lgz, hcz⟩
          · omega
          have hy := hcy k hlt2
          have hz := hcz i hlt
          have HAS := Lib.hid (anyK_succ (x := x) hlt2)
          have HP1 : Hid (ltA (L.getD k default) x → posK L x (k + 1) = k + 1) := fun h => by show posK L x (k + 1) = k + 1; unfold posK; rw [if_pos h]
          have HP0 : Hid (¬ ltA (L.getD k default) x → posK L x (k + 1) = posK L x k) := fun h => by show posK L x (k + 1) = _; rw [posK, if_neg h]
          have hpl := Nat.le_trans (posK_le L x k) hk
          rw [← HX.out] at hz
          obtain ⟨y, hyy⟩ : ∃ y, y = L.getD k default := ⟨_, rfl⟩
          rw [← hyy] at hy HAS HP1 HP0
          clear hyy hcy hcz
          obtain ⟨AN, hAN⟩ : ∃ t, t = anyK L x (k + 1) := ⟨_, rfl⟩
          obtain ⟨PN, hPN⟩ : ∃ t, t = posK L x (k + 1) := ⟨_, rfl⟩
          rw [← hAN] at HAS
          rw [← hPN] at HP1 HP0
          have HANe := Lib.hid hAN
          have HPNe := Lib.hid hPN
          clear hAN hPN
          generalize anyK L x k = AK at *
          generalize posK L x k = PK at *
          clear HTK HX HO HRO HR HPK
          obtain ⟨yid, ytm, ykd, ybk, ybd, ym1, ym2, ysl⟩ := y
          obtain ⟨zid, ztm, zkd, zbk, zbd, zm1, zm2, zsl⟩ := x
          unfold Ac.v at hy hz
          unfold ltA at HP1 HP0
          dsimp only at HP1 HP0
          have hu0 : ∀ W, G wi W → W.cell? ⟨go, oo + k * 8, none⟩ = some (.int .i64 yid) := fun W hW => ((bcellB hW).1 go _ lgy).trans (hy 0 (by omega))
          have hu1 : ∀ W, G wi W → W.cell? ⟨go, oo + k * 8 + 1, none⟩ = some (.int .i64 ytm) := fun W hW => ((bcellB hW).1 go _ lgy).trans (hy 1 (by omega))
          have hu2 : ∀ W, G wi W → W.cell? ⟨go, oo + k * 8 + 2, none⟩ = some (.int .i64 ykd) := fun W hW => ((bcellB hW).1 go _ lgy).trans (hy 2 (by omega))
          have hu3 : ∀ W, G wi W → W.cell? ⟨go, oo + k * 8 + 3, none⟩ = some (.int .i64 ybk) := fun W hW => ((bcellB hW).1 go _ lgy).trans (hy 3 (by omega))
          have hu4 : ∀ W, G wi W → W.cell? ⟨go, oo + k * 8 + 4, none⟩ = some (.int .i64 ybd) := fun W hW => ((bcellB hW).1 go _ lgy).trans (hy 4 (by omega))
          have hu5 : ∀ W, G wi W → W.cell? ⟨go, oo + k * 8 + 5, none⟩ = some (.int .i64 ym1) := fun W hW => ((bcellB hW).1 go _ lgy).trans (hy 5 (by omega))
          have hu6 : ∀ W, G wi W → W.cell? ⟨go, oo + k * 8 + 6, none⟩ = some (.int .i64 ym2) := fun W hW => ((bcellB hW).1 go _ lgy).trans (hy 6 (by omega))
          have hu7 : ∀ W, G wi W → W.cell? ⟨go, oo + k * 8 + 7, none⟩ = some (.int .i64 ysl) := fun W hW => ((bcellB hW).1 go _ lgy).trans (hy 7 (by omega))
          have hv0 : ∀ W, G wi W → W.cell? ⟨gl, ol + i * 8, none⟩ = some (.int .i64 zid) := fun W hW => ((bcellB hW).1 gl _ lgz).trans (hz 0 (by omega))
          have hv1 : ∀ W, G wi W → W.cell? ⟨gl, ol + i * 8 + 1, none⟩ = some (.int .i64 ztm) := fun W hW => ((bcellB hW).1 gl _ lgz).trans (hz 1 (by omega))
          have hv2 : ∀ W, G wi W → W.cell? ⟨gl, ol + i * 8 + 2, none⟩ = some (.int .i64 zkd) := fun W hW => ((bcellB hW).1 gl _ lgz).trans (hz 2 (by omega))
          have hv3 : ∀ W, G wi W → W.cell? ⟨gl, ol + i * 8 + 3, none⟩ = some (.int .i64 zbk) := fun W hW => ((bcellB hW).1 gl _ lgz).trans (hz 3 (by omega))
          have hv4 : ∀ W, G wi W → W.cell? ⟨gl, ol + i * 8 + 4, none⟩ = some (.int .i64 zbd) := fun W hW => ((bcellB hW).1 gl _ lgz).trans (hz 4 (by omega))
          have hv5 : ∀ W, G wi W → W.cell? ⟨gl, ol + i * 8 + 5, none⟩ = some (.int .i64 zm1) := fun W hW => ((bcellB hW).1 gl _ lgz).trans (hz 5 (by omega))
          have hv6 : ∀ W, G wi W → W.cell? ⟨gl, ol + i * 8 + 6, none⟩ = some (.int .i64 zm2) := fun W hW => ((bcellB hW).1 gl _ lgz).trans (hz 6 (by omega))
          have hv7 : ∀ W, G wi W → W.cell? ⟨gl, ol + i * 8 + 7, none⟩ = some (.int .i64 zsl) := fun W hW => ((bcellB hW).1 gl _ lgz).trans (hz 7 (by omega))
          clear hy hz
          obtain ⟨b, hEQ⟩ : ∃ b, acB ⟨yid, ytm, ykd, ybk, ybd, ym1, ym2, ysl⟩ ⟨zid, ztm, zkd, zbk, zbd, zm1, zm2, zsl⟩ = b := ⟨_, rfl⟩
          rw [hEQ] at HAS
          cases hAK : AK
          all_goals subst hAK
          · go_upto_region 9 with fail
            refine wp_region_Y (S := fun W' => G wi W') 12 13 rfl (by kernel_rfl) ((G.rf wi).d) (fun hS => ?_)
            generalize wi.drew = W1 at *
            refine wpAnyY_take (i := 0) (v := ?_) rfl (by kernel_rfl) (by kernel_rfl) (by kernel_rfl) (by kernel_rfl) (fun _ _ _ h => h) (Or.inl ⟨by kernel_rfl, ?_⟩) hS ?_
            rotate_left
            · intro w' hSw; go_simp; with_reducible rfl
            try simp only [Act.put, zzA, zzB, zzC, zzD, zzE, zzF]
            refine wpAnyY_take (i := 1) (v := .bool false) rfl (by kernel_rfl) (by kernel_rfl) (by kernel_rfl) (by kernel_rfl) (fun _ _ _ h => h) (Or.inl ⟨by kernel_rfl, ?_⟩) hS ?_
            · intro w9 hSw; go_simp <;> (first | with_reducible rfl | rfl | (simp [*]; done))
            try simp only [Act.put, zzA, zzB, zzC, zzD, zzE, zzF]
            refine wpAnyY_take (i := 2) (v := ?_) rfl (by kernel_rfl) (by kernel_rfl) (by kernel_rfl) (by kernel_rfl) (fun _ _ _ h => h) (Or.inl ⟨by kernel_rfl, ?_⟩) hS ?_
            rotate_left
            · intro w' hSw; go_simp; with_reducible rfl
            try simp only [Act.put, zzA, zzB, zzC, zzD, zzE, zzF]
            refine wpAnyY_take (i := 3) (v := ?_) rfl (by kernel_rfl) (by kernel_rfl) (by kernel_rfl) (by kernel_rfl) (fun _ _ _ h => h) (Or.inl ⟨by kernel_rfl, ?_⟩) hS ?_
            rotate_left
            · intro w' hSw; go_simp; with_reducible rfl
            try simp only [Act.put, zzA, zzB, zzC, zzD, zzE, zzF]
            refine wpAnyY_take (i := 4) (v := ?_) rfl (by kernel_rfl) (by kernel_rfl) (by kernel_rfl) (by kernel_rfl) (fun _ _ _ h => h) (Or.inl ⟨by kernel_rfl, ?_⟩) hS ?_
            rotate_left
            · intro w' hSw; go_simp; with_reducible rfl
            try simp only [Act.put, zzA, zzB, zzC, zzD, zzE, zzF]
            refine wpAnyY_take (i := 5) (v := ?_) rfl (by kernel_rfl) (by kernel_rfl) (by kernel_rfl) (by kernel_rfl) (fun _ _ _ h => h) (Or.inl ⟨by kernel_rfl, ?_⟩) hS ?_
            rotate_left
            · intro w' hSw; have u0 := hu0 _ hSw; have u1 := hu1 _ hSw; have u2 := hu2 _ hSw; have u3 := hu3 _ hSw; have u4 := hu4 _ hSw; have u5 := hu5 _ hSw; have u6 := hu6 _ hSw; have u7 := hu7 _ hSw; have lly := Nat.lt_of_lt_of_le lgy hSw.size; have llz := Nat.lt_of_lt_of_le lgz hSw.size; go_simp; with_reducible rfl
            try simp only [Act.put, zzA, zzB, zzC, zzD, zzE, zzF]
            refine wpAnyY_take (i := 6) (v := ?_) rfl (by kernel_rfl) (by kernel_rfl) (by kernel_rfl) (by kernel_rfl) (fun _ _ _ h => h) (Or.inl ⟨by kernel_rfl, ?_⟩) hS ?_
            rotate_left
            · intro w' hSw; go_simp; with_reducible rfl
            try simp only [Act.put, zzA, zzB, zzC, zzD, zzE, zzF]
            refine wpAnyY_take (i := 7) (v := ?_) rfl (by kernel_rfl) (by kernel_rfl) (by kernel_rfl) (by kernel_rfl) (fun _ _ _ h => h) (Or.inl ⟨by kernel_rfl, ?_⟩) hS ?_
            rotate_left
            · intro w' hSw; go_simp; with_reducible rfl
            try simp only [Act.put, zzA, zzB, zzC, zzD, zzE, zzF]
            refine wpAnyY_take (i := 8) (v := ?_) rfl (by kernel_rfl) (by kernel_rfl) (by kernel_rfl) (by kernel_rfl) (fun _ _ _ h => h) (Or.inl ⟨by kernel_rfl, ?_⟩) hS ?_
            rotate_left
            · intro w' hSw; go_simp; with_reducible rfl
            try simp only [Act.put, zzA, zzB, zzC, zzD, zzE, zzF]
            refine wpAnyY_take (i := 9) (v := ?_) rfl (by kernel_rfl) (by kernel_rfl) (by kernel_rfl) (by kernel_rfl) (fun _ _ _ h => h) (Or.inl ⟨by kernel_rfl, ?_⟩) hS ?_
            rotate_left
            · intro w' hSw; have v0 := hv0 _ hSw; have v1 := hv1 _ hSw; have v2 := hv2 _ hSw; have v3 := hv3 _ hSw; have v4 := hv4 _ hSw; have v5 := hv5 _ hSw; have v6 := hv6 _ hSw; have v7 := hv7 _ hSw; have lly := Nat.lt_of_lt_of_le lgy hSw.size; have llz := Nat.lt_of_lt_of_le lgz hSw.size; go_simp; with_reducible rfl
            try simp only [Act.put, zzA, zzB, zzC, zzD, zzE, zzF]
            refine wpAnyY_take (i := 10) (v := .bool b) rfl (by kernel_rfl) (by kernel_rfl) (by kernel_rfl) (by kernel_rfl) (fun _ _ _ h => h) (Or.inl ⟨by kernel_rfl, ?_⟩) hS ?_
            · intro w9 hSw; go_simp <;> (first | (rw [chain8, hEQ]; done) | (rw [chain8, hEQ]; cases b <;> rfl))
            try simp only [Act.put, zzA, zzB, zzC, zzD, zzE, zzF]
            refine wpAnyY_take (i := 11) (v := ?_) rfl (by kernel_rfl) (by kernel_rfl) (by kernel_rfl) (by kernel_rfl) (fun _ _ _ h => h) (Or.inl ⟨by kernel_rfl, ?_⟩) hS ?_
            rotate_left
            · intro w' hSw; go_simp; with_reducible rfl
            try simp only [Act.put, zzA, zzB, zzC, zzD, zzE, zzF]
            refine wpAnyY_oneW (i := 12) (by kernel_rfl) rfl (by kernel_rfl) (by kernel_rfl) (fun K12 hK12 => ?_)
            go_simp
            refine hK12.out _ _ ?_
            clear hK12
            try simp only [Act.put, zzA, zzB, zzC, zzD, zzE, zzF]
            refine wpAnyY_done (by kernel_rfl) ?_ _
            have hS1 := hS
            clear hS hEQ
            rcases Decidable.em (ytm < ztm) with hl | hl
            · have HPN := Lib.hid (HP1.out (.inl hl))
              have hb1 : decide (ytm < ztm) = true := decide_eq_true hl
              clear HP1 HP0 hl
              go_upto_region 10 with fail
              refine wp_region_Y (S := fun W' => G wi W') 36 37 rfl (by kernel_rfl) ((hS1).d) (fun hS => ?_)
              generalize W1.drew = W2 at *
              refine wpAnyY_take (i := 0) (v := ?_) rfl (by kernel_rfl) (by kernel_rfl) (by kernel_rfl) (by kernel_rfl) (fun _ _ _ h => h) (Or.inl ⟨by kernel_rfl, ?_⟩) hS ?_
              rotate_left
              · intro w' hSw; go_simp; with_reducible rfl
              try simp only [Act.put, zzA, zzB, zzC, zzD, zzE, zzF]
              refine wpAnyY_take (i := 1) (v := ?_) rfl (by kernel_rfl) (by kernel_rfl) (by kernel_rfl) (by kernel_rfl) (fun _ _ _ h => h) (Or.inl ⟨by kernel_rfl, ?_⟩) hS ?_
              rotate_left
              · intro w' hSw; go_simp; with_reducible rfl
              try simp only [Act.put, zzA, zzB, zzC, zzD, zzE, zzF]
              refine wpAnyY_take (i := 2) (v := ?_) rfl (by kernel_rfl) (by kernel_rfl) (by kernel_rfl) (by kernel_rfl) (fun _ _ _ h => h) (Or.inl ⟨by kernel_rfl, ?_⟩) hS ?_
              rotate_left
              · intro w' hSw; go_simp; with_reducible rfl
              try simp only [Act.put, zzA, zzB, zzC, zzD, zzE, zzF]
              refine wpAnyY_take (i := 3) (v := ?_) rfl (by kernel_rfl) (by kernel_rfl) (by kernel_rfl) (by kernel_rfl) (fun _ _ _ h => h) (Or.inl ⟨by kernel_rfl, ?_⟩) hS ?_
              rotate_left
              · intro w' hSw; go_simp; with_reducible rfl
              try simp only [Act.put, zzA, zzB, zzC, zzD, zzE, zzF]
              refine wpAnyY_take (i := 4) (v := ?_) rfl (by kernel_rfl) (by kernel_rfl) (by kernel_rfl) (by kernel_rfl) (fun _ _ _ h => h) (Or.inl ⟨by kernel_rfl, ?_⟩) hS ?_
              rotate_left
              · intro w' hSw; have u1 := hu1 _ hSw; have lly := Nat.lt_of_lt_of_le lgy hSw.size; have llz := Nat.lt_of_lt_of_le lgz hSw.size; go_simp; with_reducible rfl
              try simp only [Act.put, zzA, zzB, zzC, zzD, zzE, zzF]
              refine wpAnyY_take (i := 5) (v := ?_) rfl (by kernel_rfl) (by kernel_rfl) (by kernel_rfl) (by kernel_rfl) (fun _ _ _ h => h) (Or.inl ⟨by kernel_rfl, ?_⟩) hS ?_
              rotate_left
              · intro w' hSw; go_simp; with_reducible rfl
              try simp only [Act.put, zzA, zzB, zzC, zzD, zzE, zzF]
              refine wpAnyY_take (i := 6) (v := ?_) rfl (by kernel_rfl) (by kernel_rfl) (by kernel_rfl) (by kernel_rfl) (fun _ _ _ h => h) (Or.inl ⟨by kernel_rfl, ?_⟩) hS ?_
              rotate_left
              · intro w' hSw; go_simp; with_reducible rfl
              try simp only [Act.put, zzA, zzB, zzC, zzD, zzE, zzF]
              refine wpAnyY_take (i := 7) (v := ?_) rfl (by kernel_rfl) (by kernel_rfl) (by kernel_rfl) (by kernel_rfl) (fun _ _ _ h => h) (Or.inl ⟨by kernel_rfl, ?_⟩) hS ?_
              rotate_left
              · intro w' hSw; go_simp; with_reducible rfl
              try simp only [Act.put, zzA, zzB, zzC, zzD, zzE, zzF]
              refine wpAnyY_take (i := 8) (v := ?_) rfl (by kernel_rfl) (by kernel_rfl) (by kernel_rfl) (by kernel_rfl) (fun _ _ _ h => h) (Or.inl ⟨by kernel_rfl, ?_⟩) hS ?_
              rotate_left
              · intro w' hSw; go_simp; with_reducible rfl
              try simp only [Act.put, zzA, zzB, zzC, zzD, zzE, zzF]
              refine wpAnyY_take (i := 9) (v := ?_) rfl (by kernel_rfl) (by kernel_rfl) (by kernel_rfl) (by kernel_rfl) (fun _ _ _ h => h) (Or.inl ⟨by kernel_rfl, ?_⟩) hS ?_
              rotate_left
              · intro w' hSw; have v1 := hv1 _ hSw; have lly := Nat.lt_of_lt_of_le lgy hSw.size; have llz := Nat.lt_of_lt_of_le lgz hSw.size; go_simp; with_reducible rfl
              try simp only [Act.put, zzA, zzB, zzC, zzD, zzE, zzF]
              refine wpAnyY_take (i := 10) (v := .bool true) rfl (by kernel_rfl) (by kernel_rfl) (by kernel_rfl) (by kernel_rfl) (fun _ _ _ h => h) (Or.inl ⟨by kernel_rfl, ?_⟩) hS ?_
              · intro w9 hSw; go_simp <;> (first | with_reducible rfl | rfl | (simp [*]; done))
              try simp only [Act.put, zzA, zzB, zzC, zzD, zzE, zzF]
              refine wpAnyY_take (i := 11) (v := ?_) rfl (by kernel_rfl) (by kernel_rfl) (by kernel_rfl) (by kernel_rfl) (fun _ _ _ h => h) (Or.inl ⟨by kernel_rfl, ?_⟩) hS ?_
              rotate_left
              · intro w' hSw; go_simp; with_reducible rfl
              try simp only [Act.put, zzA, zzB, zzC, zzD, zzE, zzF]
              refine wpAnyY_take (i := 12) (v := undef) rfl (by kernel_rfl) (by kernel_rfl) (by kernel_rfl) (by kernel_rfl) (fun _ _ _ h => h) (Or.inr ⟨by kernel_rfl, rfl⟩) hS ?_
              try simp only [Act.put, zzA, zzB, zzC, zzD, zzE, zzF]
              refine wpAnyY_take (i := 13) (v := undef) rfl (by kernel_rfl) (by kernel_rfl) (by kernel_rfl) (by kernel_rfl) (fun _ _ _ h => h) (Or.inr ⟨by kernel_rfl, rfl⟩) hS ?_
              try simp only [Act.put, zzA, zzB, zzC, zzD, zzE, zzF]
              refine wpAnyY_take (i := 14) (v := undef) rfl (by kernel_rfl) (by kernel_rfl) (by kernel_rfl) (by kernel_rfl) (fun _ _ _ h => h) (Or.inr ⟨by kernel_rfl, rfl⟩) hS ?_
              try simp only [Act.put, zzA, zzB, zzC, zzD, zzE, zzF]
              refine wpAnyY_take (i := 15) (v := undef) rfl (by kernel_rfl) (by kernel_rfl) (by kernel_rfl) (by kernel_rfl) (fun _ _ _ h => h) (Or.inr ⟨by kernel_rfl, rfl⟩) hS ?_
              try simp only [Act.put, zzA, zzB, zzC, zzD, zzE, zzF]
              refine wpAnyY_take (i := 16) (v := undef) rfl (by kernel_rfl) (by kernel_rfl) (by kernel_rfl) (by kernel_rfl) (fun _ _ _ h => h) (Or.inr ⟨by kernel_rfl, rfl⟩) hS ?_
              try simp only [Act.put, zzA, zzB, zzC, zzD, zzE, zzF]
              refine wpAnyY_take (i := 17) (v := undef) rfl (by kernel_rfl) (by kernel_rfl) (by kernel_rfl) (by kernel_rfl) (fun _ _ _ h => h) (Or.inr ⟨by kernel_rfl, rfl⟩) hS ?_
              try simp only [Act.put, zzA, zzB, zzC, zzD, zzE, zzF]
              refine wpAnyY_take (i := 18) (v := undef) rfl (by kernel_rfl) (by kernel_rfl) (by kernel_rfl) (by kernel_rfl) (fun _ _ _ h => h) (Or.inr ⟨by kernel_rfl, rfl⟩) hS ?_
              try simp only [Act.put, zzA, zzB, zzC, zzD, zzE, zzF]
              refine wpAnyY_take (i := 19) (v := undef) rfl (by kernel_rfl) (by kernel_rfl) (by kernel_rfl) (by kernel_rfl) (fun _ _ _ h => h) (Or.inr ⟨by kernel_rfl, rfl⟩) hS ?_
              try simp only [Act.put, zzA, zzB, zzC, zzD, zzE, zzF]
              refine wpAnyY_take (i := 20) (v := undef) rfl (by kernel_rfl) (by kernel_rfl) (by kernel_rfl) (by kernel_rfl) (fun _ _ _ h => h) (Or.inr ⟨by kernel_rfl, rfl⟩) hS ?_
              try simp only [Act.put, zzA, zzB, zzC, zzD, zzE, zzF]
              refine wpAnyY_take (i := 21) (v := undef) rfl (by kernel_rfl) (by kernel_rfl) (by kernel_rfl) (by kernel_rfl) (fun _ _ _ h => h) (Or.inr ⟨by kernel_rfl, rfl⟩) hS ?_
              try simp only [Act.put, zzA, zzB, zzC, zzD, zzE, zzF]
              refine wpAnyY_take (i := 22) (v := undef) rfl (by kernel_rfl) (by kernel_rfl) (by kernel_rfl) (by kernel_rfl) (fun _ _ _ h => h) (Or.inr ⟨by kernel_rfl, rfl⟩) hS ?_
              try simp only [Act.put, zzA, zzB, zzC, zzD, zzE, zzF]
              refine wpAnyY_take (i := 23) (v := undef) rfl (by kernel_rfl) (by kernel_rfl) (by kernel_rfl) (by kernel_rfl) (fun _ _ _ h => h) (Or.inr ⟨by kernel_rfl, rfl⟩) hS ?_
              try simp only [Act.put, zzA, zzB, zzC, zzD, zzE, zzF]
              refine wpAnyY_take (i := 24) (v := undef) rfl (by kernel_rfl) (by kernel_rfl) (by kernel_rfl) (by kernel_rfl) (fun _ _ _ h => h) (Or.inr ⟨by kernel_rfl, rfl⟩) hS ?_
              try simp only [Act.put, zzA, zzB, zzC, zzD, zzE, zzF]
              refine wpAnyY_take (i := 25) (v := undef) rfl (by kernel_rfl) (by kernel_rfl) (by kernel_rfl) (by kernel_rfl) (fun _ _ _ h => h) (Or.inr ⟨by kernel_rfl, rfl⟩) hS ?_
              try simp only [Act.put, zzA, zzB, zzC, zzD, zzE, zzF]
              refine wpAnyY_take (i := 26) (v := undef) rfl (by kernel_rfl) (by kernel_rfl) (by kernel_rfl) (by kernel_rfl) (fun _ _ _ h => h) (Or.inr ⟨by kernel_rfl, rfl⟩) hS ?_
              try simp only [Act.put, zzA, zzB, zzC, zzD, zzE, zzF]
              refine wpAnyY_take (i := 27) (v := undef) rfl (by kernel_rfl) (by kernel_rfl) (by kernel_rfl) (by kernel_rfl) (fun _ _ _ h => h) (Or.inr ⟨by kernel_rfl, rfl⟩) hS ?_
              try simp only [Act.put, zzA, zzB, zzC, zzD, zzE, zzF]
              refine wpAnyY_take (i := 28) (v := undef) rfl (by kernel_rfl) (by kernel_rfl) (by kernel_rfl) (by kernel_rfl) (fun _ _ _ h => h) (Or.inr ⟨by kernel_rfl, rfl⟩) hS ?_
              try simp only [Act.put, zzA, zzB, zzC, zzD, zzE, zzF]
              refine wpAnyY_take (i := 29) (v := undef) rfl (by kernel_rfl) (by kernel_rfl) (by kernel_rfl) (by kernel_rfl) (fun _ _ _ h => h) (Or.inr ⟨by kernel_rfl, rfl⟩) hS ?_
              try simp only [Act.put, zzA, zzB, zzC, zzD, zzE, zzF]
              refine wpAnyY_take (i := 30) (v := undef) rfl (by kernel_rfl) (by kernel_rfl) (by kernel_rfl) (by kernel_rfl) (fun _ _ _ h => h) (Or.inr ⟨by kernel_rfl, rfl⟩) hS ?_
              try simp only [Act.put, zzA, zzB, zzC, zzD, zzE, zzF]
              refine wpAnyY_take (i := 31) (v := undef) rfl (by kernel_rfl) (by kernel_rfl) (by kernel_rfl) (by kernel_rfl) (fun _ _ _ h => h) (Or.inr ⟨by kernel_rfl, rfl⟩) hS ?_
              try simp only [Act.put, zzA, zzB, zzC, zzD, zzE, zzF]
              refine wpAnyY_take (i := 32) (v := undef) rfl (by kernel_rfl) (by kernel_rfl) (by kernel_rfl) (by kernel_rfl) (fun _ _ _ h => h) (Or.inr ⟨by kernel_rfl, rfl⟩) hS ?_
              try simp only [Act.put, zzA, zzB, zzC, zzD, zzE, zzF]
              refine wpAnyY_take (i := 33) (v := undef) rfl (by kernel_rfl) (by kernel_rfl) (by kernel_rfl) (by kernel_rfl) (fun _ _ _ h => h) (Or.inr ⟨by kernel_rfl, rfl⟩) hS ?_
              try simp only [Act.put, zzA, zzB, zzC, zzD, zzE, zzF]
              refine wpAnyY_take (i := 34) (v := undef) rfl (by kernel_rfl) (by kernel_rfl) (by kernel_rfl) (by kernel_rfl) (fun _ _ _ h => h) (Or.inr ⟨by kernel_rfl, rfl⟩) hS ?_
              try simp only [Act.put, zzA, zzB, zzC, zzD, zzE, zzF]
              refine wpAnyY_take (i := 35) (v := undef) rfl (by kernel_rfl) (by kernel_rfl) (by kernel_rfl) (by kernel_rfl) (fun _ _ _ h => h) (Or.inr ⟨by kernel_rfl, rfl⟩) hS ?_
              try simp only [Act.put, zzA, zzB, zzC, zzD, zzE, zzF]
              refine wpAnyY_oneW (i := 36) (by kernel_rfl) rfl (by kernel_rfl) (by kernel_rfl) (fun K36 hK36 => ?_)
              go_simp
              refine hK36.out _ _ ?_
              clear hK36
              try simp only [Act.put, zzA, zzB, zzC, zzD, zzE, zzF]
              refine wpAnyY_done (by kernel_rfl) ?_ _
              have gd := hGo.t hS
              clear hS hS1 hu0 hv0 hu1 hv1 hu2 hv2 hu3 hv3 hu4 hv4 hu5 hv5 hu6 hv6 hu7 hv7 lgy lgz
              go_wp2_with fail
              go_roundw
              case rel => exact ⟨k + 1, by omega, by go_num, by rw [← HPNe.out, HPN.out]; go_num, by rw [← HANe.out, HAS.out]; rfl, gd⟩
              case measure => simp [intOf] <;> omega
            · have hb1 : decide (ytm < ztm) = false := decide_eq_false hl
              rcases Decidable.em (ytm = ztm) with he | he
              · have hb2 : (ytm == ztm) = true := by simpa using he
                obtain ⟨b3, hb3⟩ : ∃ b3, decide (yid < zid) = b3 := ⟨_, rfl⟩
                have HPC : Hid (PN = if b3 = true then k + 1 else PK) := by
                  cases b3
                  · exact HP0.out (fun h => by have := of_decide_eq_false hb3; omega)
                  · exact HP1.out (.inr ⟨he, of_decide_eq_true hb3⟩)
                clear HP1 HP0 hl he
                go_upto_region 10 with fail
                refine wp_region_Y (S := fun W' => G wi W') 36 37 rfl (by kernel_rfl) ((hS1).d) (fun hS => ?_)
                generalize W1.drew = W2 at *
                refine wpAnyY_take (i := 0) (v := ?_) rfl (by kernel_rfl) (by kernel_rfl) (by kernel_rfl) (by kernel_rfl) (fun _ _ _ h => h) (Or.inl ⟨by kernel_rfl, ?_⟩) hS ?_
                rotate_left
                · intro w' hSw; go_simp; with_reducible rfl
                try simp only [Act.put, zzA, zzB, zzC, zzD, zzE, zzF]
                refine wpAnyY_take (i := 1) (v := ?_) rfl (by kernel_rfl) (by kernel_rfl) (by kernel_rfl) (by kernel_rfl) (fun _ _ _ h => h) (Or.inl ⟨by kernel_rfl, ?_⟩) hS ?_
                rotate_left
                · intro w' hSw; go_simp; with_reducible rfl
                try simp only [Act.put, zzA, zzB, zzC, zzD, zzE, zzF]
                refine wpAnyY_take (i := 2) (v := ?_) rfl (by kernel_rfl) (by kernel_rfl) (by kernel_rfl) (by kernel_rfl) (fun _ _ _ h => h) (Or.inl ⟨by kernel_rfl, ?_⟩) hS ?_
                rotate_left
                · intro w' hSw; go_simp; with_reducible rfl
                try simp only [Act.put, zzA, zzB, zzC, zzD, zzE, zzF]
                refine wpAnyY_take (i := 3) (v := ?_) rfl (by kernel_rfl) (by kernel_rfl) (by kernel_rfl) (by kernel_rfl) (fun _ _ _ h => h) (Or.inl ⟨by kernel_rfl, ?_⟩) hS ?_
                rotate_left
                · intro w' hSw; go_simp; with_reducible rfl
                try simp only [Act.put, zzA, zzB, zzC, zzD, zzE, zzF]
                refine wpAnyY_take (i := 4) (v := ?_) rfl (by kernel_rfl) (by kernel_rfl) (by kernel_rfl) (by kernel_rfl) (fun _ _ _ h => h) (Or.inl ⟨by kernel_rfl, ?_⟩) hS ?_
                rotate_left
                · intro w' hSw; have u1 := hu1 _ hSw; have lly := Nat.lt_of_lt_of_le lgy hSw.size; have llz := Nat.lt_of_lt_of_le lgz hSw.size; go_simp; with_reducible rfl
                try simp only [Act.put, zzA, zzB, zzC, zzD, zzE, zzF]
                refine wpAnyY_take (i := 5) (v := ?_) rfl (by kernel_rfl) (by kernel_rfl) (by kernel_rfl) (by kernel_rfl) (fun _ _ _ h => h) (Or.inl ⟨by kernel_rfl, ?_⟩) hS ?_
                rotate_left
                · intro w' hSw; go_simp; with_reducible rfl
                try simp only [Act.put, zzA, zzB, zzC, zzD, zzE, zzF]
                refine wpAnyY_take (i := 6) (v := ?_) rfl (by kernel_rfl) (by kernel_rfl) (by kernel_rfl) (by kernel_rfl) (fun _ _ _ h => h) (Or.inl ⟨by kernel_rfl, ?_⟩) hS ?_
                rotate_left
                · intro w' hSw; go_simp; with_reducible rfl
                try simp only [Act.put, zzA, zzB, zzC, zzD, zzE, zzF]
                refine wpAnyY_take (i := 7) (v := ?_) rfl (by kernel_rfl) (by kernel_rfl) (by kernel_rfl) (by kernel_rfl) (fun _ _ _ h => h) (Or.inl ⟨by kernel_rfl, ?_⟩) hS ?_
                rotate_left
                · intro w' hSw; go_simp; with_reducible rfl
                try simp only [Act.put, zzA, zzB, zzC, zzD, zzE, zzF]
                refine wpAnyY_take (i := 8) (v := ?_) rfl (by kernel_rfl) (by kernel_rfl) (by kernel_rfl) (by kernel_rfl) (fun _ _ _ h => h) (Or.inl ⟨by kernel_rfl, ?_⟩) hS ?_
                rotate_left
                · intro w' hSw; go_simp; with_reducible rfl
                try simp only [Act.put, zzA, zzB, zzC, zzD, zzE, zzF]
                refine wpAnyY_take (i := 9) (v := ?_) rfl (by kernel_rfl) (by kernel_rfl) (by kernel_rfl) (by kernel_rfl) (fun _ _ _ h => h) (Or.inl ⟨by kernel_rfl, ?_⟩) hS ?_
                rotate_left
                · intro w' hSw; have v1 := hv1 _ hSw; have lly := Nat.lt_of_lt_of_le lgy hSw.size; have llz := Nat.lt_of_lt_of_le lgz hSw.size; go_simp; with_reducible rfl
                try simp only [Act.put, zzA, zzB, zzC, zzD, zzE, zzF]
                refine wpAnyY_take (i := 10) (v := .bool false) rfl (by kernel_rfl) (by kernel_rfl) (by kernel_rfl) (by kernel_rfl) (fun _ _ _ h => h) (Or.inl ⟨by kernel_rfl, ?_⟩) hS ?_
                · intro w9 hSw; go_simp <;> (first | with_reducible rfl | rfl | (simp [*]; done))
                try simp only [Act.put, zzA, zzB, zzC, zzD, zzE, zzF]
                refine wpAnyY_take (i := 11) (v := ?_) rfl (by kernel_rfl) (by kernel_rfl) (by kernel_rfl) (by kernel_rfl) (fun _ _ _ h => h) (Or.inl ⟨by kernel_rfl, ?_⟩) hS ?_
                rotate_left
                · intro w' hSw; go_simp; with_reducible rfl
                try simp only [Act.put, zzA, zzB, zzC, zzD, zzE, zzF]
                refine wpAnyY_take (i := 12) (v := ?_) rfl (by kernel_rfl) (by kernel_rfl) (by kernel_rfl) (by kernel_rfl) (fun _ _ _ h => h) (Or.inl ⟨by kernel_rfl, ?_⟩) hS ?_
                rotate_left
                · intro w' hSw; go_simp; with_reducible rfl
                try simp only [Act.put, zzA, zzB, zzC, zzD, zzE, zzF]
                refine wpAnyY_take (i := 13) (v := ?_) rfl (by kernel_rfl) (by kernel_rfl) (by kernel_rfl) (by kernel_rfl) (fun _ _ _ h => h) (Or.inl ⟨by kernel_rfl, ?_⟩) hS ?_
                rotate_left
                · intro w' hSw; go_simp; with_reducible rfl
                try simp only [Act.put, zzA, zzB, zzC, zzD, zzE, zzF]
                refine wpAnyY_take (i := 14) (v := ?_) rfl (by kernel_rfl) (by kernel_rfl) (by kernel_rfl) (by kernel_rfl) (fun _ _ _ h => h) (Or.inl ⟨by kernel_rfl, ?_⟩) hS ?_
                rotate_left
                · intro w' hSw; go_simp; with_reducible rfl
                try simp only [Act.put, zzA, zzB, zzC, zzD, zzE, zzF]
                refine wpAnyY_take (i := 15) (v := ?_) rfl (by kernel_rfl) (by kernel_rfl) (by kernel_rfl) (by kernel_rfl) (fun _ _ _ h => h) (Or.inl ⟨by kernel_rfl, ?_⟩) hS ?_
                rotate_left
                · intro w' hSw; go_simp; with_reducible rfl
                try simp only [Act.put, zzA, zzB, zzC, zzD, zzE, zzF]
                refine wpAnyY_take (i := 16) (v := ?_) rfl (by kernel_rfl) (by kernel_rfl) (by kernel_rfl) (by kernel_rfl) (fun _ _ _ h => h) (Or.inl ⟨by kernel_rfl, ?_⟩) hS ?_
                rotate_left
                · intro w' hSw; have u1 := hu1 _ hSw; have lly := Nat.lt_of_lt_of_le lgy hSw.size; have llz := Nat.lt_of_lt_of_le lgz hSw.size; go_simp; with_reducible rfl
                try simp only [Act.put, zzA, zzB, zzC, zzD, zzE, zzF]
                refine wpAnyY_take (i := 17) (v := ?_) rfl (by kernel_rfl) (by kernel_rfl) (by kernel_rfl) (by kernel_rfl) (fun _ _ _ h => h) (Or.inl ⟨by kernel_rfl, ?_⟩) hS ?_
                rotate_left
                · intro w' hSw; go_simp; with_reducible rfl
                try simp only [Act.put, zzA, zzB, zzC, zzD, zzE, zzF]
                refine wpAnyY_take (i := 18) (v := ?_) rfl (by kernel_rfl) (by kernel_rfl) (by kernel_rfl) (by kernel_rfl) (fun _ _ _ h => h) (Or.inl ⟨by kernel_rfl, ?_⟩) hS ?_
                rotate_left
                · intro w' hSw; go_simp; with_reducible rfl
                try simp only [Act.put, zzA, zzB, zzC, zzD, zzE, zzF]
                refine wpAnyY_take (i := 19) (v := ?_) rfl (by kernel_rfl) (by kernel_rfl) (by kernel_rfl) (by kernel_rfl) (fun _ _ _ h => h) (Or.inl ⟨by kernel_rfl, ?_⟩) hS ?_
                rotate_left
                · intro w' hSw; go_simp; with_reducible rfl
                try simp only [Act.put, zzA, zzB, zzC, zzD, zzE, zzF]
                refine wpAnyY_take (i := 20) (v := ?_) rfl (by kernel_rfl) (by kernel_rfl) (by kernel_rfl) (by kernel_rfl) (fun _ _ _ h => h) (Or.inl ⟨by kernel_rfl, ?_⟩) hS ?_
                rotate_left
                · intro w' hSw; go_simp; with_reducible rfl
                try simp only [Act.put, zzA, zzB, zzC, zzD, zzE, zzF]
                refine wpAnyY_take (i := 21) (v := ?_) rfl (by kernel_rfl) (by kernel_rfl) (by kernel_rfl) (by kernel_rfl) (fun _ _ _ h => h) (Or.inl ⟨by kernel_rfl, ?_⟩) hS ?_
                rotate_left
                · intro w' hSw; have v1 := hv1 _ hSw; have lly := Nat.lt_of_lt_of_le lgy hSw.size; have llz := Nat.lt_of_lt_of_le lgz hSw.size; go_simp; with_reducible rfl
                try simp only [Act.put, zzA, zzB, zzC, zzD, zzE, zzF]
                refine wpAnyY_take (i := 22) (v := .bool true) rfl (by kernel_rfl) (by kernel_rfl) (by kernel_rfl) (by kernel_rfl) (fun _ _ _ h => h) (Or.inl ⟨by kernel_rfl, ?_⟩) hS ?_
                · intro w9 hSw; go_simp <;> (first | with_reducible rfl | rfl | (simp [*]; done))
                try simp only [Act.put, zzA, zzB, zzC, zzD, zzE, zzF]
                refine wpAnyY_take (i := 23) (v := ?_) rfl (by kernel_rfl) (by kernel_rfl) (by kernel_rfl) (by kernel_rfl) (fun _ _ _ h => h) (Or.inl ⟨by kernel_rfl, ?_⟩) hS ?_
                rotate_left
                · intro w' hSw; go_simp; with_reducible rfl
                try simp only [Act.put, zzA, zzB, zzC, zzD, zzE, zzF]
                refine wpAnyY_take (i := 24) (v := ?_) rfl (by kernel_rfl) (by kernel_rfl) (by kernel_rfl) (by kernel_rfl) (fun _ _ _ h => h) (Or.inl ⟨by kernel_rfl, ?_⟩) hS ?_
                rotate_left
                · intro w' hSw; go_simp; with_reducible rfl
                try simp only [Act.put, zzA, zzB, zzC, zzD, zzE, zzF]
                refine wpAnyY_take (i := 25) (v := ?_) rfl (by kernel_rfl) (by kernel_rfl) (by kernel_rfl) (by kernel_rfl) (fun _ _ _ h => h) (Or.inl ⟨by kernel_rfl, ?_⟩) hS ?_
                rotate_left
                · intro w' hSw; go_simp; with_reducible rfl
                try simp only [Act.put, zzA, zzB, zzC, zzD, zzE, zzF]
                refine wpAnyY_take (i := 26) (v := ?_) rfl (by kernel_rfl) (by kernel_rfl) (by kernel_rfl) (by kernel_rfl) (fun _ _ _ h => h) (Or.inl ⟨by kernel_rfl, ?_⟩) hS ?_
                rotate_left
                · intro w' hSw; go_simp; with_reducible rfl
                try simp only [Act.put, zzA, zzB, zzC, zzD, zzE, zzF]
                refine wpAnyY_take (i := 27) (v := ?_) rfl (by kernel_rfl) (by kernel_rfl) (by kernel_rfl) (by kernel_rfl) (fun _ _ _ h => h) (Or.inl ⟨by kernel_rfl, ?_⟩) hS ?_
                rotate_left
                · intro w' hSw; go_simp; with_reducible rfl
                try simp only [Act.put, zzA, zzB, zzC, zzD, zzE, zzF]
                refine wpAnyY_take (i := 28) (v := ?_) rfl (by kernel_rfl) (by kernel_rfl) (by kernel_rfl) (by kernel_rfl) (fun _ _ _ h => h) (Or.inl ⟨by kernel_rfl, ?_⟩) hS ?_
                rotate_left
                · intro w' hSw; have u0 := hu0 _ hSw; have lly := Nat.lt_of_lt_of_le lgy hSw.size; have llz := Nat.lt_of_lt_of_le lgz hSw.size; go_simp; with_reducible rfl
                try simp only [Act.put, zzA, zzB, zzC, zzD, zzE, zzF]
                refine wpAnyY_take (i := 29) (v := ?_) rfl (by kernel_rfl) (by kernel_rfl) (by kernel_rfl) (by kernel_rfl) (fun _ _ _ h => h) (Or.inl ⟨by kernel_rfl, ?_⟩) hS ?_
                rotate_left
                · intro w' hSw; go_simp; with_reducible rfl
                try simp only [Act.put, zzA, zzB, zzC, zzD, zzE, zzF]
                refine wpAnyY_take (i := 30) (v := ?_) rfl (by kernel_rfl) (by kernel_rfl) (by kernel_rfl) (by kernel_rfl) (fun _ _ _ h => h) (Or.inl ⟨by kernel_rfl, ?_⟩) hS ?_
                rotate_left
                · intro w' hSw; go_simp; with_reducible rfl
                try simp only [Act.put, zzA, zzB, zzC, zzD, zzE, zzF]
                refine wpAnyY_take (i := 31) (v := ?_) rfl (by kernel_rfl) (by kernel_rfl) (by kernel_rfl) (by kernel_rfl) (fun _ _ _ h => h) (Or.inl ⟨by kernel_rfl, ?_⟩) hS ?_
                rotate_left
                · intro w' hSw; go_simp; with_reducible rfl
                try simp only [Act.put, zzA, zzB, zzC, zzD, zzE, zzF]
                refine wpAnyY_take (i := 32) (v := ?_) rfl (by kernel_rfl) (by kernel_rfl) (by kernel_rfl) (by kernel_rfl) (fun _ _ _ h => h) (Or.inl ⟨by kernel_rfl, ?_⟩) hS ?_
                rotate_left
                · intro w' hSw; go_simp; with_reducible rfl
                try simp only [Act.put, zzA, zzB, zzC, zzD, zzE, zzF]
                refine wpAnyY_take (i := 33) (v := ?_) rfl (by kernel_rfl) (by kernel_rfl) (by kernel_rfl) (by kernel_rfl) (fun _ _ _ h => h) (Or.inl ⟨by kernel_rfl, ?_⟩) hS ?_
                rotate_left
                · intro w' hSw; have v0 := hv0 _ hSw; have lly := Nat.lt_of_lt_of_le lgy hSw.size; have llz := Nat.lt_of_lt_of_le lgz hSw.size; go_simp; with_reducible rfl
                try simp only [Act.put, zzA, zzB, zzC, zzD, zzE, zzF]
                refine wpAnyY_take (i := 34) (v := .bool b3) rfl (by kernel_rfl) (by kernel_rfl) (by kernel_rfl) (by kernel_rfl) (fun _ _ _ h => h) (Or.inl ⟨by kernel_rfl, ?_⟩) hS ?_
                · intro w9 hSw; go_simp <;> (first | with_reducible rfl | rfl | (simp [*]; done))
                try simp only [Act.put, zzA, zzB, zzC, zzD, zzE, zzF]
                refine wpAnyY_take (i := 35) (v := ?_) rfl (by kernel_rfl) (by kernel_rfl) (by kernel_rfl) (by kernel_rfl) (fun _ _ _ h => h) (Or.inl ⟨by kernel_rfl, ?_⟩) hS ?_
                rotate_left
                · intro w' hSw; go_simp; with_reducible rfl
                try simp only [Act.put, zzA, zzB, zzC, zzD, zzE, zzF]
                refine wpAnyY_oneW (i := 36) (by kernel_rfl) rfl (by kernel_rfl) (by kernel_rfl) (fun K36 hK36 => ?_)
                go_simp
                refine hK36.out _ _ ?_
                clear hK36
                try simp only [Act.put, zzA, zzB, zzC, zzD, zzE, zzF]
                refine wpAnyY_done (by kernel_rfl) ?_ _
                have gd := hGo.t hS
                cases b3
                · have HPN := HPC
                  simp only [if_true, if_false, Bool.false_eq_true, reduceIte] at HPN
                  clear hS hS1 hu0 hv0 hu1 hv1 hu2 hv2 hu3 hv3 hu4 hv4 hu5 hv5 hu6 hv6 hu7 hv7 lgy lgz
                  go_wp2_with fail
                  go_roundw
                  case rel => exact ⟨k + 1, by omega, by go_num, by rw [← HPNe.out, HPN.out], by rw [← HANe.out, HAS.out]; rfl, gd⟩
                  case measure => simp [intOf] <;> omega
                · have HPN := HPC
                  simp only [if_true, if_false, Bool.false_eq_true, reduceIte] at HPN
                  clear hS hS1 hu0 hv0 hu1 hv1 hu2 hv2 hu3 hv3 hu4 hv4 hu5 hv5 hu6 hv6 hu7 hv7 lgy lgz
                  go_wp2_with fail
                  go_roundw
                  case rel => exact ⟨k + 1, by omega, by go_num, by rw [← HPNe.out, HPN.out]; go_num, by rw [← HANe.out, HAS.out]; rfl, gd⟩
                  case measure => simp [intOf] <;> omega
              · have hb2 : (ytm == ztm) = false := by simpa using he
                have HPN := Lib.hid (HP0.out (fun h => by omega))
                clear HP1 HP0 hl he
                go_upto_region 10 with fail
                refine wp_region_Y (S := fun W' => G wi W') 36 37 rfl (by kernel_rfl) ((hS1).d) (fun hS => ?_)
                generalize W1.drew = W2 at *
                refine wpAnyY_take (i := 0) (v := ?_) rfl (by kernel_rfl) (by kernel_rfl) (by kernel_rfl) (by kernel_rfl) (fun _ _ _ h => h) (Or.inl ⟨by kernel_rfl, ?_⟩) hS ?_
                rotate_left
                · intro w' hSw; go_simp; with_reducible rfl
                try simp only [Act.put, zzA, zzB, zzC, zzD, zzE, zzF]
                refine wpAnyY_take (i := 1) (v := ?_) rfl (by kernel_rfl) (by kernel_rfl) (by kernel_rfl) (by kernel_rfl) (fun _ _ _ h => h) (Or.inl ⟨by kernel_rfl, ?_⟩) hS ?_
                rotate_left
                · intro w' hSw; go_simp; with_reducible rfl
                try simp only [Act.put, zzA, zzB, zzC, zzD, zzE, zzF]
                refine wpAnyY_take (i := 2) (v := ?_) rfl (by kernel_rfl) (by kernel_rfl) (by kernel_rfl) (by kernel_rfl) (fun _ _ _ h => h) (Or.inl ⟨by kernel_rfl, ?_⟩) hS ?_
                rotate_left
                · intro w' hSw; go_simp; with_reducible rfl
                try simp only [Act.put, zzA, zzB, zzC, zzD, zzE, zzF]
                refine wpAnyY_take (i := 3) (v := ?_) rfl (by kernel_rfl) (by kernel_rfl) (by kernel_rfl) (by kernel_rfl) (fun _ _ _ h => h) (Or.inl ⟨by kernel_rfl, ?_⟩) hS ?_
                rotate_left
                · intro w' hSw; go_simp; with_reducible rfl
                try simp only [Act.put, zzA, zzB, zzC, zzD, zzE, zzF]
                refine wpAnyY_take (i := 4) (v := ?_) rfl (by kernel_rfl) (by kernel_rfl) (by kernel_rfl) (by kernel_rfl) (fun _ _ _ h => h) (Or.inl ⟨by kernel_rfl, ?_⟩) hS ?_
                rotate_left
                · intro w' hSw; have u1 := hu1 _ hSw; have lly := Nat.lt_of_lt_of_le lgy hSw.size; have llz := Nat.lt_of_lt_of_le lgz hSw.size; go_simp; with_reducible rfl
                try simp only [Act.put, zzA, zzB, zzC, zzD, zzE, zzF]
                refine wpAnyY_take (i := 5) (v := ?_) rfl (by kernel_rfl) (by kernel_rfl) (by kernel_rfl) (by kernel_rfl) (fun _ _ _ h => h) (Or.inl ⟨by kernel_rfl, ?_⟩) hS ?_
                rotate_left
                · intro w' hSw; go_simp; with_reducible rfl
                try simp only [Act.put, zzA, zzB, zzC, zzD, zzE, zzF]
                refine wpAnyY_take (i := 6) (v := ?_) rfl (by kernel_rfl) (by kernel_rfl) (by kernel_rfl) (by kernel_rfl) (fun _ _ _ h => h) (Or.inl ⟨by kernel_rfl, ?_⟩) hS ?_
                rotate_left
                · intro w' hSw; go_simp; with_reducible rfl
                try simp only [Act.put, zzA, zzB, zzC, zzD, zzE, zzF]
                refine wpAnyY_take (i := 7) (v := ?_) rfl (by kernel_rfl) (by kernel_rfl) (by kernel_rfl) (by kernel_rfl) (fun _ _ _ h => h) (Or.inl ⟨by kernel_rfl, ?_⟩) hS ?_
                rotate_left
                · intro w' hSw; go_simp; with_reducible rfl
                try simp only [Act.put, zzA, zzB, zzC, zzD, zzE, zzF]
                refine wpAnyY_take (i := 8) (v := ?_) rfl (by kernel_rfl) (by kernel_rfl) (by kernel_rfl) (by kernel_rfl) (fun _ _ _ h => h) (Or.inl ⟨by kernel_rfl, ?_⟩) hS ?_
                rotate_left
                · intro w' hSw; go_simp; with_reducible rfl
                try simp only [Act.put, zzA, zzB, zzC, zzD, zzE, zzF]
                refine wpAnyY_take (i := 9) (v := ?_) rfl (by kernel_rfl) (by kernel_rfl) (by kernel_rfl) (by kernel_rfl) (fun _ _ _ h => h) (Or.inl ⟨by kernel_rfl, ?_⟩) hS ?_
                rotate_left
                · intro w' hSw; have v1 := hv1 _ hSw; have lly := Nat.lt_of_lt_of_le lgy hSw.size; have llz := Nat.lt_of_lt_of_le lgz hSw.size; go_simp; with_reducible rfl
                try simp only [Act.put, zzA, zzB, zzC, zzD, zzE, zzF]
                refine wpAnyY_take (i := 10) (v := .bool false) rfl (by kernel_rfl) (by kernel_rfl) (by kernel_rfl) (by kernel_rfl) (fun _ _ _ h => h) (Or.inl ⟨by kernel_rfl, ?_⟩) hS ?_
                · intro w9 hSw; go_simp <;> (first | with_reducible rfl | rfl | (simp [*]; done))
                try simp only [Act.put, zzA, zzB, zzC, zzD, zzE, zzF]
                refine wpAnyY_take (i := 11) (v := ?_) rfl (by kernel_rfl) (by kernel_rfl) (by kernel_rfl) (by kernel_rfl) (fun _ _ _ h => h) (Or.inl ⟨by kernel_rfl, ?_⟩) hS ?_
                rotate_left
                · intro w' hSw; go_simp; with_reducible rfl
                try simp only [Act.put, zzA, zzB, zzC, zzD, zzE, zzF]
                refine wpAnyY_take (i := 12) (v := ?_) rfl (by kernel_rfl) (by kernel_rfl) (by kernel_rfl) (by kernel_rfl) (fun _ _ _ h => h) (Or.inl ⟨by kernel_rfl, ?_⟩) hS ?_
                rotate_left
                · intro w' hSw; go_simp; with_reducible rfl
                try simp only [Act.put, zzA, zzB, zzC, zzD, zzE, zzF]
                refine wpAnyY_take (i := 13) (v := ?_) rfl (by kernel_rfl) (by kernel_rfl) (by kernel_rfl) (by kernel_rfl) (fun _ _ _ h => h) (Or.inl ⟨by kernel_rfl, ?_⟩) hS ?_
                rotate_left
                · intro w' hSw; go_simp; with_reducible rfl
                try simp only [Act.put, zzA, zzB, zzC, zzD, zzE, zzF]
                refine wpAnyY_take (i := 14) (v := ?_) rfl (by kernel_rfl) (by kernel_rfl) (by kernel_rfl) (by kernel_rfl) (fun _ _ _ h => h) (Or.inl ⟨by kernel_rfl, ?_⟩) hS ?_
                rotate_left
                · intro w' hSw; go_simp; with_reducible rfl
                try simp only [Act.put, zzA, zzB, zzC, zzD, zzE, zzF]
                refine wpAnyY_take (i := 15) (v := ?_) rfl (by kernel_rfl) (by kernel_rfl) (by kernel_rfl) (by kernel_rfl) (fun _ _ _ h => h) (Or.inl ⟨by kernel_rfl, ?_⟩) hS ?_
                rotate_left
                · intro w' hSw; go_simp; with_reducible rfl
                try simp only [Act.put, zzA, zzB, zzC, zzD, zzE, zzF]
                refine wpAnyY_take (i := 16) (v := ?_) rfl (by kernel_rfl) (by kernel_rfl) (by kernel_rfl) (by kernel_rfl) (fun _ _ _ h => h) (Or.inl ⟨by kernel_rfl, ?_⟩) hS ?_
                rotate_left
                · intro w' hSw; have u1 := hu1 _ hSw; have lly := Nat.lt_of_lt_of_le lgy hSw.size; have llz := Nat.lt_of_lt_of_le lgz hSw.size; go_simp; with_reducible rfl
                try simp only [Act.put, zzA, zzB, zzC, zzD, zzE, zzF]
                refine wpAnyY_take (i := 17) (v := ?_) rfl (by kernel_rfl) (by kernel_rfl) (by kernel_rfl) (by kernel_rfl) (fun _ _ _ h => h) (Or.inl ⟨by kernel_rfl, ?_⟩) hS ?_
                rotate_left
                · intro w' hSw; go_simp; with_reducible rfl
                try simp only [Act.put, zzA, zzB, zzC, zzD, zzE, zzF]
                refine wpAnyY_take (i := 18) (v := ?_) rfl (by kernel_rfl) (by kernel_rfl) (by kernel_rfl) (by kernel_rfl) (fun _ _ _ h => h) (Or.inl ⟨by kernel_rfl, ?_⟩) hS ?_
                rotate_left
                · intro w' hSw; go_simp; with_reducible rfl
                try simp only [Act.put, zzA, zzB, zzC, zzD, zzE, zzF]
                refine wpAnyY_take (i := 19) (v := ?_) rfl (by kernel_rfl) (by kernel_rfl) (by kernel_rfl) (by kernel_rfl) (fun _ _ _ h => h) (Or.inl ⟨by kernel_rfl, ?_⟩) hS ?_
                rotate_left
                · intro w' hSw; go_simp; with_reducible rfl
                try simp only [Act.put, zzA, zzB, zzC, zzD, zzE, zzF]
                refine wpAnyY_take (i := 20) (v := ?_) rfl (by kernel_rfl) (by kernel_rfl) (by kernel_rfl) (by kernel_rfl) (fun _ _ _ h => h) (Or.inl ⟨by kernel_rfl, ?_⟩) hS ?_
                rotate_left
                · intro w' hSw; go_simp; with_reducible rfl
                try simp only [Act.put, zzA, zzB, zzC, zzD, zzE, zzF]
                refine wpAnyY_take (i := 21) (v := ?_) rfl (by kernel_rfl) (by kernel_rfl) (by kernel_rfl) (by kernel_rfl) (fun _ _ _ h => h) (Or.inl ⟨by kernel_rfl, ?_⟩) hS ?_
                rotate_left
                · intro w' hSw; have v1 := hv1 _ hSw; have lly := Nat.lt_of_lt_of_le lgy hSw.size; have llz := Nat.lt_of_lt_of_le lgz hSw.size; go_simp; with_reducible rfl
                try simp only [Act.put, zzA, zzB, zzC, zzD, zzE, zzF]
                refine wpAnyY_take (i := 22) (v := .bool false) rfl (by kernel_rfl) (by kernel_rfl) (by kernel_rfl) (by kernel_rfl) (fun _ _ _ h => h) (Or.inl ⟨by kernel_rfl, ?_⟩) hS ?_
                · intro w9 hSw; go_simp <;> (first | with_reducible rfl | rfl | (simp [*]; done))
                try simp only [Act.put, zzA, zzB, zzC, zzD, zzE, zzF]
                refine wpAnyY_take (i := 23) (v := ?_) rfl (by kernel_rfl) (by kernel_rfl) (by kernel_rfl) (by kernel_rfl) (fun _ _ _ h => h) (Or.inl ⟨by kernel_rfl, ?_⟩) hS ?_
                rotate_left
                · intro w' hSw; go_simp; with_reducible rfl
                try simp only [Act.put, zzA, zzB, zzC, zzD, zzE, zzF]
                refine wpAnyY_take (i := 24) (v := undef) rfl (by kernel_rfl) (by kernel_rfl) (by kernel_rfl) (by kernel_rfl) (fun _ _ _ h => h) (Or.inr ⟨by kernel_rfl, rfl⟩) hS ?_
                try simp only [Act.put, zzA, zzB, zzC, zzD, zzE, zzF]
                refine wpAnyY_take (i := 25) (v := undef) rfl (by kernel_rfl) (by kernel_rfl) (by kernel_rfl) (by kernel_rfl) (fun _ _ _ h => h) (Or.inr ⟨by kernel_rfl, rfl⟩) hS ?_
                try simp only [Act.put, zzA, zzB, zzC, zzD, zzE, zzF]
                refine wpAnyY_take (i := 26) (v := undef) rfl (by kernel_rfl) (by kernel_rfl) (by kernel_rfl) (by kernel_rfl) (fun _ _ _ h => h) (Or.inr ⟨by kernel_rfl, rfl⟩) hS ?_
                try simp only [Act.put, zzA, zzB, zzC, zzD, zzE, zzF]
                refine wpAnyY_take (i := 27) (v := undef) rfl (by kernel_rfl) (by kernel_rfl) (by kernel_rfl) (by kernel_rfl) (fun _ _ _ h => h) (Or.inr ⟨by kernel_rfl, rfl⟩) hS ?_
                try simp only [Act.put, zzA, zzB, zzC, zzD, zzE, zzF]
                refine wpAnyY_take (i := 28) (v := undef) rfl (by kernel_rfl) (by kernel_rfl) (by kernel_rfl) (by kernel_rfl) (fun _ _ _ h => h) (Or.inr ⟨by kernel_rfl, rfl⟩) hS ?_
                try simp only [Act.put, zzA, zzB, zzC, zzD, zzE, zzF]
                refine wpAnyY_take (i := 29) (v := undef) rfl (by kernel_rfl) (by kernel_rfl) (by kernel_rfl) (by kernel_rfl) (fun _ _ _ h => h) (Or.inr ⟨by kernel_rfl, rfl⟩) hS ?_
                try simp only [Act.put, zzA, zzB, zzC, zzD, zzE, zzF]
                refine wpAnyY_take (i := 30) (v := undef) rfl (by kernel_rfl) (by kernel_rfl) (by kernel_rfl) (by kernel_rfl) (fun _ _ _ h => h) (Or.inr ⟨by kernel_rfl, rfl⟩) hS ?_
                try simp only [Act.put, zzA, zzB, zzC, zzD, zzE, zzF]
                refine wpAnyY_take (i := 31) (v := undef) rfl (by kernel_rfl) (by kernel_rfl) (by kernel_rfl) (by kernel_rfl) (fun _ _ _ h => h) (Or.inr ⟨by kernel_rfl, rfl⟩) hS ?_
                try simp only [Act.put, zzA, zzB, zzC, zzD, zzE, zzF]
                refine wpAnyY_take (i := 32) (v := undef) rfl (by kernel_rfl) (by kernel_rfl) (by kernel_rfl) (by kernel_rfl) (fun _ _ _ h => h) (Or.inr ⟨by kernel_rfl, rfl⟩) hS ?_
                try simp only [Act.put, zzA, zzB, zzC, zzD, zzE, zzF]
                refine wpAnyY_take (i := 33) (v := undef) rfl (by kernel_rfl) (by kernel_rfl) (by kernel_rfl) (by kernel_rfl) (fun _ _ _ h => h) (Or.inr ⟨by kernel_rfl, rfl⟩) hS ?_
                try simp only [Act.put, zzA, zzB, zzC, zzD, zzE, zzF]
                refine wpAnyY_take (i := 34) (v := undef) rfl (by kernel_rfl) (by kernel_rfl) (by kernel_rfl) (by kernel_rfl) (fun _ _ _ h => h) (Or.inr ⟨by kernel_rfl, rfl⟩) hS ?_
                try simp only [Act.put, zzA, zzB, zzC, zzD, zzE, zzF]
                refine wpAnyY_take (i := 35) (v := .bool false) rfl (by kernel_rfl) (by kernel_rfl) (by kernel_rfl) (by kernel_rfl) (fun _ _ _ h => h) (Or.inl ⟨by kernel_rfl, ?_⟩) hS ?_
                · intro w9 hSw; go_simp <;> (first | with_reducible rfl | rfl | (simp [*]; done))
                try simp only [Act.put, zzA, zzB, zzC, zzD, zzE, zzF]
                refine wpAnyY_oneW (i := 36) (by kernel_rfl) rfl (by kernel_rfl) (by kernel_rfl) (fun K36 hK36 => ?_)
                go_simp
                refine hK36.out _ _ ?_
                clear hK36
                try simp only [Act.put, zzA, zzB, zzC, zzD, zzE, zzF]
                refine wpAnyY_done (by kernel_rfl) ?_ _
                have gd := hGo.t hS
                clear hS hS1 hu0 hv0 hu1 hv1 hu2 hv2 hu3 hv3 hu4 hv4 hu5 hv5 hu6 hv6 hu7 hv7 lgy lgz
                go_wp2_with fail
                go_roundw
                case rel => exact ⟨k + 1, by omega, by go_num, by rw [← HPNe.out, HPN.out], by rw [← HANe.out, HAS.out]; rfl, gd⟩
                case measure => simp [intOf] <;> omega
          · go_upto_region 9 with fail
            refine wp_region_Y (S := fun W' => G wi W') 12 13 rfl (by kernel_rfl) ((G.rf wi).d) (fun hS => ?_)
            generalize wi.drew = W1 at *
            refine wpAnyY_take (i := 0) (v := ?_) rfl (by kernel_rfl) (by kernel_rfl) (by kernel_rfl) (by kernel_rfl) (fun _ _ _ h => h) (Or.inl ⟨by kernel_rfl, ?_⟩) hS ?_
            rotate_left
            · intro w' hSw; go_simp; with_reducible rfl
            try simp only [Act.put, zzA, zzB, zzC, zzD, zzE, zzF]
            refine wpAnyY_take (i := 1) (v := .bool true) rfl (by kernel_rfl) (by kernel_rfl) (by kernel_rfl) (by kernel_rfl) (fun _ _ _ h => h) (Or.inl ⟨by kernel_rfl, ?_⟩) hS ?_
            · intro w9 hSw; go_simp <;> (first | with_reducible rfl | rfl | (simp [*]; done))
            try simp only [Act.put, zzA, zzB, zzC, zzD, zzE, zzF]
            refine wpAnyY_take (i := 2) (v := undef) rfl (by kernel_rfl) (by kernel_rfl) (by kernel_rfl) (by kernel_rfl) (fun _ _ _ h => h) (Or.inr ⟨by kernel_rfl, rfl⟩) hS ?_
            try simp only [Act.put, zzA, zzB, zzC, zzD, zzE, zzF]
            refine wpAnyY_take (i := 3) (v := undef) rfl (by kernel_rfl) (by kernel_rfl) (by kernel_rfl) (by kernel_rfl) (fun _ _ _ h => h) (Or.inr ⟨by kernel_rfl, rfl⟩) hS ?_
            try simp only [Act.put, zzA, zzB, zzC, zzD, zzE, zzF]
            refine wpAnyY_take (i := 4) (v := undef) rfl (by kernel_rfl) (by kernel_rfl) (by kernel_rfl) (by kernel_rfl) (fun _ _ _ h => h) (Or.inr ⟨by kernel_rfl, rfl⟩) hS ?_
            try simp only [Act.put, zzA, zzB, zzC, zzD, zzE, zzF]
            refine wpAnyY_take (i := 5) (v := undef) rfl (by kernel_rfl) (by kernel_rfl) (by kernel_rfl) (by kernel_rfl) (fun _ _ _ h => h) (Or.inr ⟨by kernel_rfl, rfl⟩) hS ?_
            try simp only [Act.put, zzA, zzB, zzC, zzD, zzE, zzF]
            refine wpAnyY_take (i := 6) (v := undef) rfl (by kernel_rfl) (by kernel_rfl) (by kernel_rfl) (by kernel_rfl) (fun _ _ _ h => h) (Or.inr ⟨by kernel_rfl, rfl⟩) hS ?_
            try simp only [Act.put, zzA, zzB, zzC, zzD, zzE, zzF]
            refine wpAnyY_take (i := 7) (v := undef) rfl (by kernel_rfl) (by kernel_rfl) (by kernel_rfl) (by kernel_rfl) (fun _ _ _ h => h) (Or.inr ⟨by kernel_rfl, rfl⟩) hS ?_
            try simp only [Act.put, zzA, zzB, zzC, zzD, zzE, zzF]
            refine wpAnyY_take (i := 8) (v := undef) rfl (by kernel_rfl) (by kernel_rfl) (by kernel_rfl) (by kernel_rfl) (fun _ _ _ h => h) (Or.inr ⟨by kernel_rfl, rfl⟩) hS ?_
            try simp only [Act.put, zzA, zzB, zzC, zzD, zzE, zzF]
            refine wpAnyY_take (i := 9) (v := undef) rfl (by kernel_rfl) (by kernel_rfl) (by kernel_rfl) (by kernel_rfl) (fun _ _ _ h => h) (Or.inr ⟨by kernel_rfl, rfl⟩) hS ?_
            try simp only [Act.put, zzA, zzB, zzC, zzD, zzE, zzF]
            refine wpAnyY_take (i := 10) (v := undef) rfl (by kernel_rfl) (by kernel_rfl) (by kernel_rfl) (by kernel_rfl) (fun _ _ _ h => h) (Or.inr ⟨by kernel_rfl, rfl⟩) hS ?_
            try simp only [Act.put, zzA, zzB, zzC, zzD, zzE, zzF]
            refine wpAnyY_take (i := 11) (v := ?_) rfl (by kernel_rfl) (by kernel_rfl) (by kernel_rfl) (by kernel_rfl) (fun _ _ _ h => h) (Or.inl ⟨by kernel_rfl, ?_⟩) hS ?_
            rotate_left
            · intro w' hSw; go_simp; with_reducible rfl
            try simp only [Act.put, zzA, zzB, zzC, zzD, zzE, zzF]
            refine wpAnyY_oneW (i := 12) (by kernel_rfl) rfl (by kernel_rfl) (by kernel_rfl) (fun K12 hK12 => ?_)
            go_simp
            refine hK12.out _ _ ?_
            clear hK12
            try simp only [Act.put, zzA, zzB, zzC, zzD, zzE, zzF]
            refine wpAnyY_done (by kernel_rfl) ?_ _
            have hS1 := hS
            clear hS hEQ
            rcases Decidable.em (ytm < ztm) with hl | hl
            · have HPN := Lib.hid (HP1.out (.inl hl))
              have hb1 : decide (ytm < ztm) = true := decide_eq_true hl
              clear HP1 HP0 hl
              go_upto_region 10 with fail
              refine wp_region_Y (S := fun W' => G wi W') 36 37 rfl (by kernel_rfl) ((hS1).d) (fun hS => ?_)
              generalize W1.drew = W2 at *
              refine wpAnyY_take (i := 0) (v := ?_) rfl (by kernel_rfl) (by kernel_rfl) (by kernel_rfl) (by kernel_rfl) (fun _ _ _ h => h) (Or.inl ⟨by kernel_rfl, ?_⟩) hS ?_
              rotate_left
              · intro w' hSw; go_simp; with_reducible rfl
              try simp only [Act.put, zzA, zzB, zzC, zzD, zzE, zzF]
              refine wpAnyY_take (i := 1) (v := ?_) rfl (by kernel_rfl) (by kernel_rfl) (by kernel_rfl) (by kernel_rfl) (fun _ _ _ h => h) (Or.inl ⟨by kernel_rfl, ?_⟩) hS ?_
              rotate_left
              · intro w' hSw; go_simp; with_reducible rfl
              try simp only [Act.put, zzA, zzB, zzC, zzD, zzE, zzF]
              refine wpAnyY_take (i := 2) (v := ?_) rfl (by kernel_rfl) (by kernel_rfl) (by kernel_rfl) (by kernel_rfl) (fun _ _ _ h => h) (Or.inl ⟨by kernel_rfl, ?_⟩) hS ?_
              rotate_left
              · intro w' hSw; go_simp; with_reducible rfl
              try simp only [Act.put, zzA, zzB, zzC, zzD, zzE, zzF]
              refine wpAnyY_take (i := 3) (v := ?_) rfl (by kernel_rfl) (by kernel_rfl) (by kernel_rfl) (by kernel_rfl) (fun _ _ _ h => h) (Or.inl ⟨by kernel_rfl, ?_⟩) hS ?_
              rotate_left
              · intro w' hSw; go_simp; with_reducible rfl
              try simp only [Act.put, zzA, zzB, zzC, zzD, zzE, zzF]
              refine wpAnyY_take (i := 4) (v := ?_) rfl (by kernel_rfl) (by kernel_rfl) (by kernel_rfl) (by kernel_rfl) (fun _ _ _ h => h) (Or.inl ⟨by kernel_rfl, ?_⟩) hS ?_
              rotate_left
              · intro w' hSw; have u1 := hu1 _ hSw; have lly := Nat.lt_of_lt_of_le lgy hSw.size; have llz := Nat.lt_of_lt_of_le lgz hSw.size; go_simp; with_reducible rfl
              try simp only [Act.put, zzA, zzB, zzC, zzD, zzE, zzF]
              refine wpAnyY_take (i := 5) (v := ?_) rfl (by kernel_rfl) (by kernel_rfl) (by kernel_rfl) (by kernel_rfl) (fun _ _ _ h => h) (Or.inl ⟨by kernel_rfl, ?_⟩) hS ?_
              rotate_left
              · intro w' hSw; go_simp; with_reducible rfl
              try simp only [Act.put, zzA, zzB, zzC, zzD, zzE, zzF]
              refine wpAnyY_take (i := 6) (v := ?_) rfl (by kernel_rfl) (by kernel_rfl) (by kernel_rfl) (by kernel_rfl) (fun _ _ _ h => h) (Or.inl ⟨by kernel_rfl, ?_⟩) hS ?_
              rotate_left
              · intro w' hSw; go_simp; with_reducible rfl
              try simp only [Act.put, zzA, zzB, zzC, zzD, zzE, zzF]
              refine wpAnyY_take (i := 7) (v := ?_) rfl (by kernel_rfl) (by kernel_rfl) (by kernel_rfl) (by kernel_rfl) (fun _ _ _ h => h) (Or.inl ⟨by kernel_rfl, ?_⟩) hS ?_
              rotate_left
              · intro w' hSw; go_simp; with_reducible rfl
              try simp only [Act.put, zzA, zzB, zzC, zzD, zzE, zzF]
              refine wpAnyY_take (i := 8) (v := ?_) rfl (by kernel_rfl) (by kernel_rfl) (by kernel_rfl) (by kernel_rfl) (fun _ _ _ h => h) (Or.inl ⟨by kernel_rfl, ?_⟩) hS ?_
              rotate_left
              · intro w' hSw; go_simp; with_reducible rfl
              try simp only [Act.put, zzA, zzB, zzC, zzD, zzE, zzF]
              refine wpAnyY_take (i := 9) (v := ?_) rfl (by kernel_rfl) (by kernel_rfl) (by kernel_rfl) (by kernel_rfl) (fun _ _ _ h => h) (Or.inl ⟨by kernel_rfl, ?_⟩) hS ?_
              rotate_left
              · intro w' hSw; have v1 := hv1 _ hSw; have lly := Nat.lt_of_lt_of_le lgy hSw.size; have llz := Nat.lt_of_lt_of_le lgz hSw.size; go_simp; with_reducible rfl
              try simp only [Act.put, zzA, zzB, zzC, zzD, zzE, zzF]
              refine wpAnyY_take (i := 10) (v := .bool true) rfl (by kernel_rfl) (by kernel_rfl) (by kernel_rfl) (by kernel_rfl) (fun _ _ _ h => h) (Or.inl ⟨by kernel_rfl, ?_⟩) hS ?_
              · intro w9 hSw; go_simp <;> (first | with_reducible rfl | rfl | (simp [*]; done))
              try simp only [Act.put, zzA, zzB, zzC, zzD, zzE, zzF]
              refine wpAnyY_take (i := 11) (v := ?_) rfl (by kernel_rfl) (by kernel_rfl) (by kernel_rfl) (by kernel_rfl) (fun _ _ _ h => h) (Or.inl ⟨by kernel_rfl, ?_⟩) hS ?_
              rotate_left
              · intro w' hSw; go_simp; with_reducible rfl
              try simp only [Act.put, zzA, zzB, zzC, zzD, zzE, zzF]
              refine wpAnyY_take (i := 12) (v := undef) rfl (by kernel_rfl) (by kernel_rfl) (by kernel_rfl) (by kernel_rfl) (fun _ _ _ h => h) (Or.inr ⟨by kernel_rfl, rfl⟩) hS ?_
              try simp only [Act.put, zzA, zzB, zzC, zzD, zzE, zzF]
              refine wpAnyY_take (i := 13) (v := undef) rfl (by kernel_rfl) (by kernel_rfl) (by kernel_rfl) (by kernel_rfl) (fun _ _ _ h => h) (Or.inr ⟨by kernel_rfl, rfl⟩) hS ?_
              try simp only [Act.put, zzA, zzB, zzC, zzD, zzE, zzF]
              refine wpAnyY_take (i := 14) (v := undef) rfl (by kernel_rfl) (by kernel_rfl) (by kernel_rfl) (by kernel_rfl) (fun _ _ _ h => h) (Or.inr ⟨by kernel_rfl, rfl⟩) hS ?_
              try simp only [Act.put, zzA, zzB, zzC, zzD, zzE, zzF]
              refine wpAnyY_take (i := 15) (v := undef) rfl (by kernel_rfl) (by kernel_rfl) (by kernel_rfl) (by kernel_rfl) (fun _ _ _ h => h) (Or.inr ⟨by kernel_rfl, rfl⟩) hS ?_
              try simp only [Act.put, zzA, zzB, zzC, zzD, zzE, zzF]
              refine wpAnyY_take (i := 16) (v := undef) rfl (by kernel_rfl) (by kernel_rfl) (by kernel_rfl) (by kernel_rfl) (fun _ _ _ h => h) (Or.inr ⟨by kernel_rfl, rfl⟩) hS ?_
              try simp only [Act.put, zzA, zzB, zzC, zzD, zzE, zzF]
              refine wpAnyY_take (i := 17) (v := undef) rfl (by kernel_rfl) (by kernel_rfl) (by kernel_rfl) (by kernel_rfl) (fun _ _ _ h => h) (Or.inr ⟨by kernel_rfl, rfl⟩) hS ?_
              try simp only [Act.put, zzA, zzB, zzC, zzD, zzE, zzF]
              refine wpAnyY_take (i := 18) (v := undef) rfl (by kernel_rfl) (by kernel_rfl) (by kernel_rfl) (by kernel_rfl) (fun _ _ _ h => h) (Or.inr ⟨by kernel_rfl, rfl⟩) hS ?_
              try simp only [Act.put, zzA, zzB, zzC, zzD, zzE, zzF]
              refine wpAnyY_take (i := 19) (v := undef) rfl (by kernel_rfl) (by kernel_rfl) (by kernel_rfl) (by kernel_rfl) (fun _ _ _ h => h) (Or.inr ⟨by kernel_rfl, rfl⟩) hS ?_
              try simp only [Act.put, zzA, zzB, zzC, zzD, zzE, zzF]
              refine wpAnyY_take (i := 20) (v := undef) rfl (by kernel_rfl) (by kernel_rfl) (by kernel_rfl) (by kernel_rfl) (fun _ _ _ h => h) (Or.inr ⟨by kernel_rfl, rfl⟩) hS ?_
              try simp only [Act.put, zzA, zzB, zzC, zzD, zzE, zzF]
              refine wpAnyY_take (i := 21) (v := undef) rfl (by kernel_rfl) (by kernel_rfl) (by kernel_rfl) (by kernel_rfl) (fun _ _ _ h => h) (Or.inr ⟨by kernel_rfl, rfl⟩) hS ?_
              try simp only [Act.put, zzA, zzB, zzC, zzD, zzE, zzF]
              refine wpAnyY_take (i := 22) (v := undef) rfl (by kernel_rfl) (by kernel_rfl) (by kernel_rfl) (by kernel_rfl) (fun _ _ _ h => h) (Or.inr ⟨by kernel_rfl, rfl⟩) hS ?_
              try simp only [Act.put, zzA, zzB, zzC, zzD, zzE, zzF]
              refine wpAnyY_take (i := 23) (v := undef) rfl (by kernel_rfl) (by kernel_rfl) (by kernel_rfl) (by kernel_rfl) (fun _ _ _ h => h) (Or.inr ⟨by kernel_rfl, rfl⟩) hS ?_
              try simp only [Act.put, zzA, zzB, zzC, zzD, zzE, zzF]
              refine wpAnyY_take (i := 24) (v := undef) rfl (by kernel_rfl) (by kernel_rfl) (by kernel_rfl) (by kernel_rfl) (fun _ _ _ h => h) (Or.inr ⟨by kernel_rfl, rfl⟩) hS ?_
              try simp only [Act.put, zzA, zzB, zzC, zzD, zzE, zzF]
              refine wpAnyY_take (i := 25) (v := undef) rfl (by kernel_rfl) (by kernel_rfl) (by kernel_rfl) (by kernel_rfl) (fun _ _ _ h => h) (Or.inr ⟨by kernel_rfl, rfl⟩) hS ?_
              try simp only [Act.put, zzA, zzB, zzC, zzD, zzE, zzF]
              refine wpAnyY_take (i := 26) (v := undef) rfl (by kernel_rfl) (by kernel_rfl) (by kernel_rfl) (by kernel_rfl) (fun _ _ _ h => h) (Or.inr ⟨by kernel_rfl, rfl⟩) hS ?_
              try simp only [Act.put, zzA, zzB, zzC, zzD, zzE, zzF]
              refine wpAnyY_take (i := 27) (v := undef) rfl (by kernel_rfl) (by kernel_rfl) (by kernel_rfl) (by kernel_rfl) (fun _ _ _ h => h) (Or.inr ⟨by kernel_rfl, rfl⟩) hS ?_
              try simp only [Act.put, zzA, zzB, zzC, zzD, zzE, zzF]
              refine wpAnyY_take (i := 28) (v := undef) rfl (by kernel_rfl) (by kernel_rfl) (by kernel_rfl) (by kernel_rfl) (fun _ _ _ h => h) (Or.inr ⟨by kernel_rfl, rfl⟩) hS ?_
              try simp only [Act.put, zzA, zzB, zzC, zzD, zzE, zzF]
              refine wpAnyY_take (i := 29) (v := undef) rfl (by kernel_rfl) (by kernel_rfl) (by kernel_rfl) (by kernel_rfl) (fun _ _ _ h => h) (Or.inr ⟨by kernel_rfl, rfl⟩) hS ?_
              try simp only [Act.put, zzA, zzB, zzC, zzD, zzE, zzF]
              refine wpAnyY_take (i := 30) (v := undef) rfl (by kernel_rfl) (by kernel_rfl) (by kernel_rfl) (by kernel_rfl) (fun _ _ _ h => h) (Or.inr ⟨by kernel_rfl, rfl⟩) hS ?_
              try simp only [Act.put, zzA, zzB, zzC, zzD, zzE, zzF]
              refine wpAnyY_take (i := 31) (v := undef) rfl (by kernel_rfl) (by kernel_rfl) (by kernel_rfl) (by kernel_rfl) (fun _ _ _ h => h) (Or.inr ⟨by kernel_rfl, rfl⟩) hS ?_
              try simp only [Act.put, zzA, zzB, zzC, zzD, zzE, zzF]
              refine wpAnyY_take (i := 32) (v := undef) rfl (by kernel_rfl) (by kernel_rfl) (by kernel_rfl) (by kernel_rfl) (fun _ _ _ h => h) (Or.inr ⟨by kernel_rfl, rfl⟩) hS ?_
              try simp only [Act.put, zzA, zzB, zzC, zzD, zzE, zzF]
              refine wpAnyY_take (i := 33) (v := undef) rfl (by kernel_rfl) (by kernel_rfl) (by kernel_rfl) (by kernel_rfl) (fun _ _ _ h => h) (Or.inr ⟨by kernel_rfl, rfl⟩) hS ?_
              try simp only [Act.put, zzA, zzB, zzC, zzD, zzE, zzF]
              refine wpAnyY_take (i := 34) (v := undef) rfl (by kernel_rfl) (by kernel_rfl) (by kernel_rfl) (by kernel_rfl) (fun _ _ _ h => h) (Or.inr ⟨by kernel_rfl, rfl⟩) hS ?_
              try simp only [Act.put, zzA, zzB, zzC, zzD, zzE, zzF]
              refine wpAnyY_take (i := 35) (v := undef) rfl (by kernel_rfl) (by kernel_rfl) (by kernel_rfl) (by kernel_rfl) (fun _ _ _ h => h) (Or.inr ⟨by kernel_rfl, rfl⟩) hS ?_
              try simp only [Act.put, zzA, zzB, zzC, zzD, zzE, zzF]
              refine wpAnyY_oneW (i := 36) (by kernel_rfl) rfl (by kernel_rfl) (by kernel_rfl) (fun K36 hK36 => ?_)
              go_simp
              refine hK36.out _ _ ?_
              clear hK36
              try simp only [Act.put, zzA, zzB, zzC, zzD, zzE, zzF]
              refine wpAnyY_done (by kernel_rfl) ?_ _
              have gd := hGo.t hS
              clear hS hS1 hu0 hv0 hu1 hv1 hu2 hv2 hu3 hv3 hu4 hv4 hu5 hv5 hu6 hv6 hu7 hv7 lgy lgz
              go_wp2_with fail
              go_roundw
              case rel => exact ⟨k + 1, by omega, by go_num, by rw [← HPNe.out, HPN.out]; go_num, by rw [← HANe.out, HAS.out]; rfl, gd⟩
              case measure => simp [intOf] <;> omega
            · have hb1 : decide (ytm < ztm) = false := decide_eq_false hl
              rcases Decidable.em (ytm = ztm) with he | he
              · have hb2 : (ytm == ztm) = true := by simpa using he
                obtain ⟨b3, hb3⟩ : ∃ b3, decide (yid < zid) = b3 := ⟨_, rfl⟩
                have HPC : Hid (PN = if b3 = true then k + 1 else PK) := by
                  cases b3
                  · exact HP0.out (fun h => by have := of_decide_eq_false hb3; omega)
                  · exact HP1.out (.inr ⟨he, of_decide_eq_true hb3⟩)
                clear HP1 HP0 hl he
                go_upto_region 10 with fail
                refine wp_region_Y (S := fun W' => G wi W') 36 37 rfl (by kernel_rfl) ((hS1).d) (fun hS => ?_)
                generalize W1.drew = W2 at *
                refine wpAnyY_take (i := 0) (v := ?_) rfl (by kernel_rfl) (by kernel_rfl) (by kernel_rfl) (by kernel_rfl) (fun _ _ _ h => h) (Or.inl ⟨by kernel_rfl, ?_⟩) hS ?_
                rotate_left
                · intro w' hSw; go_simp; with_reducible rfl
                try simp only [Act.put, zzA, zzB, zzC, zzD, zzE, zzF]
                refine wpAnyY_take (i := 1) (v := ?_) rfl (by kernel_rfl) (by kernel_rfl) (by kernel_rfl) (by kernel_rfl) (fun _ _ _ h => h) (Or.inl ⟨by kernel_rfl, ?_⟩) hS ?_
                rotate_left
                · intro w' hSw; go_simp; with_reducible rfl
                try simp only [Act.put, zzA, zzB, zzC, zzD, zzE, zzF]
                refine wpAnyY_take (i := 2) (v := ?_) rfl (by kernel_rfl) (by kernel_rfl) (by kernel_rfl) (by kernel_rfl) (fun _ _ _ h => h) (Or.inl ⟨by kernel_rfl, ?_⟩) hS ?_
                rotate_left
                · intro w' hSw; go_simp; with_reducible rfl
                try simp only [Act.put, zzA, zzB, zzC, zzD, zzE, zzF]
                refine wpAnyY_take (i := 3) (v := ?_) rfl (by kernel_rfl) (by kernel_rfl) (by kernel_rfl) (by kernel_rfl) (fun _ _ _ h => h) (Or.inl ⟨by kernel_rfl, ?_⟩) hS ?_
                rotate_left
                · intro w' hSw; go_simp; with_reducible rfl
                try simp only [Act.put, zzA, zzB, zzC, zzD, zzE, zzF]
                refine wpAnyY_take (i := 4) (v := ?_) rfl (by kernel_rfl) (by kernel_rfl) (by kernel_rfl) (by kernel_rfl) (fun _ _ _ h => h) (Or.inl ⟨by kernel_rfl, ?_⟩) hS ?_
                rotate_left
                · intro w' hSw; have u1 := hu1 _ hSw; have lly := Nat.lt_of_lt_of_le lgy hSw.size; have llz := Nat.lt_of_lt_of_le lgz hSw.size; go_simp; with_reducible rfl
                try simp only [Act.put, zzA, zzB, zzC, zzD, zzE, zzF]
                refine wpAnyY_take (i := 5) (v := ?_) rfl (by kernel_rfl) (by kernel_rfl) (by kernel_rfl) (by kernel_rfl) (fun _ _ _ h => h) (Or.inl ⟨by kernel_rfl, ?_⟩) hS ?_
                rotate_left
                · intro w' hSw; go_simp; with_reducible rfl
                try simp only [Act.put, zzA, zzB, zzC, zzD, zzE, zzF]
                refine wpAnyY_take (i := 6) (v := ?_) rfl (by kernel_rfl) (by kernel_rfl) (by kernel_rfl) (by kernel_rfl) (fun _ _ _ h => h) (Or.inl ⟨by kernel_rfl, ?_⟩) hS ?_
                rotate_left
                · intro w' hSw; go_simp; with_reducible rfl
                try simp only [Act.put, zzA, zzB, zzC, zzD, zzE, zzF]
                refine wpAnyY_take (i := 7) (v := ?_) rfl (by kernel_rfl) (by kernel_rfl) (by kernel_rfl) (by kernel_rfl) (fun _ _ _ h => h) (Or.inl ⟨by kernel_rfl, ?_⟩) hS ?_
                rotate_left
                · intro w' hSw; go_simp; with_reducible rfl
                try simp only [Act.put, zzA, zzB, zzC, zzD, zzE, zzF]
                refine wpAnyY_take (i := 8) (v := ?_) rfl (by kernel_rfl) (by kernel_rfl) (by kernel_rfl) (by kernel_rfl) (fun _ _ _ h => h) (Or.inl ⟨by kernel_rfl, ?_⟩) hS ?_
                rotate_left
                · intro w' hSw; go_simp; with_reducible rfl
                try simp only [Act.put, zzA, zzB, zzC, zzD, zzE, zzF]
                refine wpAnyY_take (i := 9) (v := ?_) rfl (by kernel_rfl) (by kernel_rfl) (by kernel_rfl) (by kernel_rfl) (fun _ _ _ h => h) (Or.inl ⟨by kernel_rfl, ?_⟩) hS ?_
                rotate_left
                · intro w' hSw; have v1 := hv1 _ hSw; have lly := Nat.lt_of_lt_of_le lgy hSw.size; have llz := Nat.lt_of_lt_of_le lgz hSw.size; go_simp; with_reducible rfl
                try simp only [Act.put, zzA, zzB, zzC, zzD, zzE, zzF]
                refine wpAnyY_take (i := 10) (v := .bool false) rfl (by kernel_rfl) (by kernel_rfl) (by kernel_rfl) (by kernel_rfl) (fun _ _ _ h => h) (Or.inl ⟨by kernel_rfl, ?_⟩) hS ?_
                · intro w9 hSw; go_simp <;> (first | with_reducible rfl | rfl | (simp [*]; done))
                try simp only [Act.put, zzA, zzB, zzC, zzD, zzE, zzF]
                refine wpAnyY_take (i := 11) (v := ?_) rfl (by kernel_rfl) (by kernel_rfl) (by kernel_rfl) (by kernel_rfl) (fun _ _ _ h => h) (Or.inl ⟨by kernel_rfl, ?_⟩) hS ?_
                rotate_left
                · intro w' hSw; go_simp; with_reducible rfl
                try simp only [Act.put, zzA, zzB, zzC, zzD, zzE, zzF]
                refine wpAnyY_take (i := 12) (v := ?_) rfl (by kernel_rfl) (by kernel_rfl) (by kernel_rfl) (by kernel_rfl) (fun _ _ _ h => h) (Or.inl ⟨by kernel_rfl, ?_⟩) hS ?_
                rotate_left
                · intro w' hSw; go_simp; with_reducible rfl
                try simp only [Act.put, zzA, zzB, zzC, zzD, zzE, zzF]
                refine wpAnyY_take (i := 13) (v := ?_) rfl (by kernel_rfl) (by kernel_rfl) (by kernel_rfl) (by kernel_rfl) (fun _ _ _ h => h) (Or.inl ⟨by kernel_rfl, ?_⟩) hS ?_
                rotate_left
                · intro w' hSw; go_simp; with_reducible rfl
                try simp only [Act.put, zzA, zzB, zzC, zzD, zzE, zzF]
                refine wpAnyY_take (i := 14) (v := ?_) rfl (by kernel_rfl) (by kernel_rfl) (by kernel_rfl) (by kernel_rfl) (fun _ _ _ h => h) (Or.inl ⟨by kernel_rfl, ?_⟩) hS ?_
                rotate_left
                · intro w' hSw; go_simp; with_reducible rfl
                try simp only [Act.put, zzA, zzB, zzC, zzD, zzE, zzF]
                refine wpAnyY_take (i := 15) (v := ?_) rfl (by kernel_rfl) (by kernel_rfl) (by kernel_rfl) (by kernel_rfl) (fun _ _ _ h => h) (Or.inl ⟨by kernel_rfl, ?_⟩) hS ?_
                rotate_left
                · intro w' hSw; go_simp; with_reducible rfl
                try simp only [Act.put, zzA, zzB, zzC, zzD, zzE, zzF]
                refine wpAnyY_take (i := 16) (v := ?_) rfl (by kernel_rfl) (by kernel_rfl) (by kernel_rfl) (by kernel_rfl) (fun _ _ _ h => h) (Or.inl ⟨by kernel_rfl, ?_⟩) hS ?_
                rotate_left
                · intro w' hSw; have u1 := hu1 _ hSw; have lly := Nat.lt_of_lt_of_le lgy hSw.size; have llz := Nat.lt_of_lt_of_le lgz hSw.size; go_simp; with_reducible rfl
                try simp only [Act.put, zzA, zzB, zzC, zzD, zzE, zzF]
                refine wpAnyY_take (i := 17) (v := ?_) rfl (by kernel_rfl) (by kernel_rfl) (by kernel_rfl) (by kernel_rfl) (fun _ _ _ h => h) (Or.inl ⟨by kernel_rfl, ?_⟩) hS ?_
                rotate_left
                · intro w' hSw; go_simp; with_reducible rfl
                try simp only [Act.put, zzA, zzB, zzC, zzD, zzE, zzF]
                refine wpAnyY_take (i := 18) (v := ?_) rfl (by kernel_rfl) (by kernel_rfl) (by kernel_rfl) (by kernel_rfl) (fun _ _ _ h => h) (Or.inl ⟨by kernel_rfl, ?_⟩) hS ?_
                rotate_left
                · intro w' hSw; go_simp; with_reducible rfl
                try simp only [Act.put, zzA, zzB, zzC, zzD, zzE, zzF]
                refine wpAnyY_take (i := 19) (v := ?_) rfl (by kernel_rfl) (by kernel_rfl) (by kernel_rfl) (by kernel_rfl) (fun _ _ _ h => h) (Or.inl ⟨by kernel_rfl, ?_⟩) hS ?_
                rotate_left
                · intro w' hSw; go_simp; with_reducible rfl
                try simp only [Act.put, zzA, zzB, zzC, zzD, zzE, zzF]
                refine wpAnyY_take (i := 20) (v := ?_) rfl (by kernel_rfl) (by kernel_rfl) (by kernel_rfl) (by kernel_rfl) (fun _ _ _ h => h) (Or.inl ⟨by kernel_rfl, ?_⟩) hS ?_
                rotate_left
                · intro w' hSw; go_simp; with_reducible rfl
                try simp only [Act.put, zzA, zzB, zzC, zzD, zzE, zzF]
                refine wpAnyY_take (i := 21) (v := ?_) rfl (by kernel_rfl) (by kernel_rfl) (by kernel_rfl) (by kernel_rfl) (fun _ _ _ h => h) (Or.inl ⟨by kernel_rfl, ?_⟩) hS ?_
                rotate_left
                · intro w' hSw; have v1 := hv1 _ hSw; have lly := Nat.lt_of_lt_of_le lgy hSw.size; have llz := Nat.lt_of_lt_of_le lgz hSw.size; go_simp; with_reducible rfl
                try simp only [Act.put, zzA, zzB, zzC, zzD, zzE, zzF]
                refine wpAnyY_take (i := 22) (v := .bool true) rfl (by kernel_rfl) (by kernel_rfl) (by kernel_rfl) (by kernel_rfl) (fun _ _ _ h => h) (Or.inl ⟨by kernel_rfl, ?_⟩) hS ?_
                · intro w9 hSw; go_simp <;> (first | with_reducible rfl | rfl | (simp [*]; done))
                try simp only [Act.put, zzA, zzB, zzC, zzD, zzE, zzF]
                refine wpAnyY_take (i := 23) (v := ?_) rfl (by kernel_rfl) (by kernel_rfl) (by kernel_rfl) (by kernel_rfl) (fun _ _ _ h => h) (Or.inl ⟨by kernel_rfl, ?_⟩) hS ?_
                rotate_left
                · intro w' hSw; go_simp; with_reducible rfl
                try simp only [Act.put, zzA, zzB, zzC, zzD, zzE, zzF]
                refine wpAnyY_take (i := 24) (v := ?_) rfl (by kernel_rfl) (by kernel_rfl) (by kernel_rfl) (by kernel_rfl) (fun _ _ _ h => h) (Or.inl ⟨by kernel_rfl, ?_⟩) hS ?_
                rotate_left
                · intro w' hSw; go_simp; with_reducible rfl
                try simp only [Act.put, zzA, zzB, zzC, zzD, zzE, zzF]
                refine wpAnyY_take (i := 25) (v := ?_) rfl (by kernel_rfl) (by kernel_rfl) (by kernel_rfl) (by kernel_rfl) (fun _ _ _ h => h) (Or.inl ⟨by kernel_rfl, ?_⟩) hS ?_
                rotate_left
                · intro w' hSw; go_simp; with_reducible rfl
                try simp only [Act.put, zzA, zzB, zzC, zzD, zzE, zzF]
                refine wpAnyY_take (i := 26) (v := ?_) rfl (by kernel_rfl) (by kernel_rfl) (by kernel_rfl) (by kernel_rfl) (fun _ _ _ h => h) (Or.inl ⟨by kernel_rfl, ?_⟩) hS ?_
                rotate_left
                · intro w' hSw; go_simp; with_reducible rfl
                try simp only [Act.put, zzA, zzB, zzC, zzD, zzE, zzF]
                refine wpAnyY_take (i := 27) (v := ?_) rfl (by kernel_rfl) (by kernel_rfl) (by kernel_rfl) (by kernel_rfl) (fun _ _ _ h => h) (Or.inl ⟨by kernel_rfl, ?_⟩) hS ?_
                rotate_left
                · intro w' hSw; go_simp; with_reducible rfl
                try simp only [Act.put, zzA, zzB, zzC, zzD, zzE, zzF]
                refine wpAnyY_take (i := 28) (v := ?_) rfl (by kernel_rfl) (by kernel_rfl) (by kernel_rfl) (by kernel_rfl) (fun _ _ _ h => h) (Or.inl ⟨by kernel_rfl, ?_⟩) hS ?_
                rotate_left
                · intro w' hSw; have u0 := hu0 _ hSw; have lly := Nat.lt_of_lt_of_le lgy hSw.size; have llz := Nat.lt_of_lt_of_le lgz hSw.size; go_simp; with_reducible rfl
                try simp only [Act.put, zzA, zzB, zzC, zzD, zzE, zzF]
                refine wpAnyY_take (i := 29) (v := ?_) rfl (by kernel_rfl) (by kernel_rfl) (by kernel_rfl) (by kernel_rfl) (fun _ _ _ h => h) (Or.inl ⟨by kernel_rfl, ?_⟩) hS ?_
                rotate_left
                · intro w' hSw; go_simp; with_reducible rfl
                try simp only [Act.put, zzA, zzB, zzC, zzD, zzE, zzF]
                refine wpAnyY_take (i := 30) (v := ?_) rfl (by kernel_rfl) (by kernel_rfl) (by kernel_rfl) (by kernel_rfl) (fun _ _ _ h => h) (Or.inl ⟨by kernel_rfl, ?_⟩) hS ?_
                rotate_left
                · intro w' hSw; go_simp; with_reducible rfl
                try simp only [Act.put, zzA, zzB, zzC, zzD, zzE, zzF]
                refine wpAnyY_take (i := 31) (v := ?_) rfl (by kernel_rfl) (by kernel_rfl) (by kernel_rfl) (by kernel_rfl) (fun _ _ _ h => h) (Or.inl ⟨by kernel_rfl, ?_⟩) hS ?_
                rotate_left
                · intro w' hSw; go_simp; with_reducible rfl
                try simp only [Act.put, zzA, zzB, zzC, zzD, zzE, zzF]
                refine wpAnyY_take (i := 32) (v := ?_) rfl (by kernel_rfl) (by kernel_rfl) (by kernel_rfl) (by kernel_rfl) (fun _ _ _ h => h) (Or.inl ⟨by kernel_rfl, ?_⟩) hS ?_
                rotate_left
                · intro w' hSw; go_simp; with_reducible rfl
                try simp only [Act.put, zzA, zzB, zzC, zzD, zzE, zzF]
                refine wpAnyY_take (i := 33) (v := ?_) rfl (by kernel_rfl) (by kernel_rfl) (by kernel_rfl) (by kernel_rfl) (fun _ _ _ h => h) (Or.inl ⟨by kernel_rfl, ?_⟩) hS ?_
                rotate_left
                · intro w' hSw; have v0 := hv0 _ hSw; have lly := Nat.lt_of_lt_of_le lgy hSw.size; have llz := Nat.lt_of_lt_of_le lgz hSw.size; go_simp; with_reducible rfl
                try simp only [Act.put, zzA, zzB, zzC, zzD, zzE, zzF]
                refine wpAnyY_take (i := 34) (v := .bool b3) rfl (by kernel_rfl) (by kernel_rfl) (by kernel_rfl) (by kernel_rfl) (fun _ _ _ h => h) (Or.inl ⟨by kernel_rfl, ?_⟩) hS ?_
                · intro w9 hSw; go_simp <;> (first | with_reducible rfl | rfl | (simp [*]; done))
                try simp only [Act.put, zzA, zzB, zzC, zzD, zzE, zzF]
                refine wpAnyY_take (i := 35) (v := ?_) rfl (by kernel_rfl) (by kernel_rfl) (by kernel_rfl) (by kernel_rfl) (fun _ _ _ h => h) (Or.inl ⟨by kernel_rfl, ?_⟩) hS ?_
                rotate_left
                · intro w' hSw; go_simp; with_reducible rfl
                try simp only [Act.put, zzA, zzB, zzC, zzD, zzE, zzF]
                refine wpAnyY_oneW (i := 36) (by kernel_rfl) rfl (by kernel_rfl) (by kernel_rfl) (fun K36 hK36 => ?_)
                go_simp
                refine hK36.out _ _ ?_
                clear hK36
                try simp only [Act.put, zzA, zzB, zzC, zzD, zzE, zzF]
                refine wpAnyY_done (by kernel_rfl) ?_ _
                have gd := hGo.t hS
                cases b3
                · have HPN := HPC
                  simp only [if_true, if_false, Bool.false_eq_true, reduceIte] at HPN
                  clear hS hS1 hu0 hv0 hu1 hv1 hu2 hv2 hu3 hv3 hu4 hv4 hu5 hv5 hu6 hv6 hu7 hv7 lgy lgz
                  go_wp2_with fail
                  go_roundw
                  case rel => exact ⟨k + 1, by omega, by go_num, by rw [← HPNe.out, HPN.out], by rw [← HANe.out, HAS.out]; rfl, gd⟩
                  case measure => simp [intOf] <;> omega
                · have HPN := HPC
                  simp only [if_true, if_false, Bool.false_eq_true, reduceIte] at HPN
                  clear hS hS1 hu0 hv0 hu1 hv1 hu2 hv2 hu3 hv3 hu4 hv4 hu5 hv5 hu6 hv6 hu7 hv7 lgy lgz
                  go_wp2_with fail
                  go_roundw
                  case rel => exact ⟨k + 1, by omega, by go_num, by rw [← HPNe.out, HPN.out]; go_num, by rw [← HANe.out, HAS.out]; rfl, gd⟩
                  case measure => simp [intOf] <;> omega
              · have hb2 : (ytm == ztm) = false := by simpa using he
                have HPN := Lib.hid (HP0.out (fun h => by omega))
                clear HP1 HP0 hl he
                go_upto_region 10 with fail
                refine wp_region_Y (S := fun W' => G wi W') 36 37 rfl (by kernel_rfl) ((hS1).d) (fun hS => ?_)
                generalize W1.drew = W2 at *
                refine wpAnyY_take (i := 0) (v := ?_) rfl (by kernel_rfl) (by kernel_rfl) (by kernel_rfl) (by kernel_rfl) (fun _ _ _ h => h) (Or.inl ⟨by kernel_rfl, ?_⟩) hS ?_
                rotate_left
                · intro w' hSw; go_simp; with_reducible rfl
                try simp only [Act.put, zzA, zzB, zzC, zzD, zzE, zzF]
                refine wpAnyY_take (i := 1) (v := ?_) rfl (by kernel_rfl) (by kernel_rfl) (by kernel_rfl) (by kernel_rfl) (fun _ _ _ h => h) (Or.inl ⟨by kernel_rfl, ?_⟩) hS ?_
                rotate_left
                · intro w' hSw; go_simp; with_reducible rfl
                try simp only [Act.put, zzA, zzB, zzC, zzD, zzE, zzF]
                refine wpAnyY_take (i := 2) (v := ?_) rfl (by kernel_rfl) (by kernel_rfl) (by kernel_rfl) (by kernel_rfl) (fun _ _ _ h => h) (Or.inl ⟨by kernel_rfl, ?_⟩) hS ?_
                rotate_left
                · intro w' hSw; go_simp; with_reducible rfl
                try simp only [Act.put, zzA, zzB, zzC, zzD, zzE, zzF]
                refine wpAnyY_take (i := 3) (v := ?_) rfl (by kernel_rfl) (by kernel_rfl) (by kernel_rfl) (by kernel_rfl) (fun _ _ _ h => h) (Or.inl ⟨by kernel_rfl, ?_⟩) hS ?_
                rotate_left
                · intro w' hSw; go_simp; with_reducible rfl
                try simp only [Act.put, zzA, zzB, zzC, zzD, zzE, zzF]
                refine wpAnyY_take (i := 4) (v := ?_) rfl (by kernel_rfl) (by kernel_rfl) (by kernel_rfl) (by kernel_rfl) (fun _ _ _ h => h) (Or.inl ⟨by kernel_rfl, ?_⟩) hS ?_
                rotate_left
                · intro w' hSw; have u1 := hu1 _ hSw; have lly := Nat.lt_of_lt_of_le lgy hSw.size; have llz := Nat.lt_of_lt_of_le lgz hSw.size; go_simp; with_reducible rfl
                try simp only [Act.put, zzA, zzB, zzC, zzD, zzE, zzF]
                refine wpAnyY_take (i := 5) (v := ?_) rfl (by kernel_rfl) (by kernel_rfl) (by kernel_rfl) (by kernel_rfl) (fun _ _ _ h => h) (Or.inl ⟨by kernel_rfl, ?_⟩) hS ?_
                rotate_left
                · intro w' hSw; go_simp; with_reducible rfl
                try simp only [Act.put, zzA, zzB, zzC, zzD, zzE, zzF]
                refine wpAnyY_take (i := 6) (v := ?_) rfl (by kernel_rfl) (by kernel_rfl) (by kernel_rfl) (by kernel_rfl) (fun _ _ _ h => h) (Or.inl ⟨by kernel_rfl, ?_⟩) hS ?_
                rotate_left
                · intro w' hSw; go_simp; with_reducible rfl
                try simp only [Act.put, zzA, zzB, zzC, zzD, zzE, zzF]
                refine wpAnyY_take (i := 7) (v := ?_) rfl (by kernel_rfl) (by kernel_rfl) (by kernel_rfl) (by kernel_rfl) (fun _ _ _ h => h) (Or.inl ⟨by kernel_rfl, ?_⟩) hS ?_
                rotate_left
                · intro w' hSw; go_simp; with_reducible rfl
                try simp only [Act.put, zzA, zzB, zzC, zzD, zzE, zzF]
                refine wpAnyY_take (i := 8) (v := ?_) rfl (by kernel_rfl) (by kernel_rfl) (by kernel_rfl) (by kernel_rfl) (fun _ _ _ h => h) (Or.inl ⟨by kernel_rfl, ?_⟩) hS ?_
                rotate_left
                · intro w' hSw; go_simp; with_reducible rfl
                try simp only [Act.put, zzA, zzB, zzC, zzD, zzE, zzF]
                refine wpAnyY_take (i := 9) (v := ?_) rfl (by kernel_rfl) (by kernel_rfl) (by kernel_rfl) (by kernel_rfl) (fun _ _ _ h => h) (Or.inl ⟨by kernel_rfl, ?_⟩) hS ?_
                rotate_left
                · intro w' hSw; have v1 := hv1 _ hSw; have lly := Nat.lt_of_lt_of_le lgy hSw.size; have llz := Nat.lt_of_lt_of_le lgz hSw.size; go_simp; with_reducible rfl
                try simp only [Act.put, zzA, zzB, zzC, zzD, zzE, zzF]
                refine wpAnyY_take (i := 10) (v := .bool false) rfl (by kernel_rfl) (by kernel_rfl) (by kernel_rfl) (by kernel_rfl) (fun _ _ _ h => h) (Or.inl ⟨by kernel_rfl, ?_⟩) hS ?_
                · intro w9 hSw; go_simp <;> (first | with_reducible rfl | rfl | (simp [*]; done))
                try simp only [Act.put, zzA, zzB, zzC, zzD, zzE, zzF]
                refine wpAnyY_take (i := 11) (v := ?_) rfl (by kernel_rfl) (by kernel_rfl) (by kernel_rfl) (by kernel_rfl) (fun _ _ _ h => h) (Or.inl ⟨by kernel_rfl, ?_⟩) hS ?_
                rotate_left
                · intro w' hSw; go_simp; with_reducible rfl
                try simp only [Act.put, zzA, zzB, zzC, zzD, zzE, zzF]
                refine wpAnyY_take (i := 12) (v := ?_) rfl (by kernel_rfl) (by kernel_rfl) (by kernel_rfl) (by kernel_rfl) (fun _ _ _ h => h) (Or.inl ⟨by kernel_rfl, ?_⟩) hS ?_
                rotate_left
                · intro w' hSw; go_simp; with_reducible rfl
                try simp only [Act.put, zzA, zzB, zzC, zzD, zzE, zzF]
                refine wpAnyY_take (i := 13) (v := ?_) rfl (by kernel_rfl) (by kernel_rfl) (by kernel_rfl) (by kernel_rfl) (fun _ _ _ h => h) (Or.inl ⟨by kernel_rfl, ?_⟩) hS ?_
                rotate_left
                · intro w' hSw; go_simp; with_reducible rfl
                try simp only [Act.put, zzA, zzB, zzC, zzD, zzE, zzF]
                refine wpAnyY_take (i := 14) (v := ?_) rfl (by kernel_rfl) (by kernel_rfl) (by kernel_rfl) (by kernel_rfl) (fun _ _ _ h => h) (Or.inl ⟨by kernel_rfl, ?_⟩) hS ?_
                rotate_left
                · intro w' hSw; go_simp; with_reducible rfl
                try simp only [Act.put, zzA, zzB, zzC, zzD, zzE, zzF]
                refine wpAnyY_take (i := 15) (v := ?_) rfl (by kernel_rfl) (by kernel_rfl) (by kernel_rfl) (by kernel_rfl) (fun _ _ _ h => h) (Or.inl ⟨by kernel_rfl, ?_⟩) hS ?_
                rotate_left
                · intro w' hSw; go_simp; with_reducible rfl
                try simp only [Act.put, zzA, zzB, zzC, zzD, zzE, zzF]
                refine wpAnyY_take (i := 16) (v := ?_) rfl (by kernel_rfl) (by kernel_rfl) (by kernel_rfl) (by kernel_rfl) (fun _ _ _ h => h) (Or.inl ⟨by kernel_rfl, ?_⟩) hS ?_
                rotate_left
                · intro w' hSw; have u1 := hu1 _ hSw; have lly := Nat.lt_of_lt_of_le lgy hSw.size; have llz := Nat.lt_of_lt_of_le lgz hSw.size; go_simp; with_reducible rfl
                try simp only [Act.put, zzA, zzB, zzC, zzD, zzE, zzF]
                refine wpAnyY_take (i := 17) (v := ?_) rfl (by kernel_rfl) (by kernel_rfl) (by kernel_rfl) (by kernel_rfl) (fun _ _ _ h => h) (Or.inl ⟨by kernel_rfl, ?_⟩) hS ?_
                rotate_left
                · intro w' hSw; go_simp; with_reducible rfl
                try simp only [Act.put, zzA, zzB, zzC, zzD, zzE, zzF]
                refine wpAnyY_take (i := 18) (v := ?_) rfl (by kernel_rfl) (by kernel_rfl) (by kernel_rfl) (by kernel_rfl) (fun _ _ _ h => h) (Or.inl ⟨by kernel_rfl, ?_⟩) hS ?_
                rotate_left
                · intro w' hSw; go_simp; with_reducible rfl
                try simp only [Act.put, zzA, zzB, zzC, zzD, zzE, zzF]
                refine wpAnyY_take (i := 19) (v := ?_) rfl (by kernel_rfl) (by kernel_rfl) (by kernel_rfl) (by kernel_rfl) (fun _ _ _ h => h) (Or.inl ⟨by kernel_rfl, ?_⟩) hS ?_
                rotate_left
                · intro w' hSw; go_simp; with_reducible rfl
                try simp only [Act.put, zzA, zzB, zzC, zzD, zzE, zzF]
                refine wpAnyY_take (i := 20) (v := ?_) rfl (by kernel_rfl) (by kernel_rfl) (by kernel_rfl) (by kernel_rfl) (fun _ _ _ h => h) (Or.inl ⟨by kernel_rfl, ?_⟩) hS ?_
                rotate_left
                · intro w' hSw; go_simp; with_reducible rfl
                try simp only [Act.put, zzA, zzB, zzC, zzD, zzE, zzF]
                refine wpAnyY_take (i := 21) (v := ?_) rfl (by kernel_rfl) (by kernel_rfl) (by kernel_rfl) (by kernel_rfl) (fun _ _ _ h => h) (Or.inl ⟨by kernel_rfl, ?_⟩) hS ?_
                rotate_left
                · intro w' hSw; have v1 := hv1 _ hSw; have lly := Nat.lt_of_lt_of_le lgy hSw.size; have llz := Nat.lt_of_lt_of_le lgz hSw.size; go_simp; with_reducible rfl
                try simp only [Act.put, zzA, zzB, zzC, zzD, zzE, zzF]
                refine wpAnyY_take (i := 22) (v := .bool false) rfl (by kernel_rfl) (by kernel_rfl) (by kernel_rfl) (by kernel_rfl) (fun _ _ _ h => h) (Or.inl ⟨by kernel_rfl, ?_⟩) hS ?_
                · intro w9 hSw; go_simp <;> (first | with_reducible rfl | rfl | (simp [*]; done))
                try simp only [Act.put, zzA, zzB, zzC, zzD, zzE, zzF]
                refine wpAnyY_take (i := 23) (v := ?_) rfl (by kernel_rfl) (by kernel_rfl) (by kernel_rfl) (by kernel_rfl) (fun _ _ _ h => h) (Or.inl ⟨by kernel_rfl, ?_⟩) hS ?_
                rotate_left
                · intro w' hSw; go_simp; with_reducible rfl
                try simp only [Act.put, zzA, zzB, zzC, zzD, zzE, zzF]
                refine wpAnyY_take (i := 24) (v := undef) rfl (by kernel_rfl) (by kernel_rfl) (by kernel_rfl) (by kernel_rfl) (fun _ _ _ h => h) (Or.inr ⟨by kernel_rfl, rfl⟩) hS ?_
                try simp only [Act.put, zzA, zzB, zzC, zzD, zzE, zzF]
                refine wpAnyY_take (i := 25) (v := undef) rfl (by kernel_rfl) (by kernel_rfl) (by kernel_rfl) (by kernel_rfl) (fun _ _ _ h => h) (Or.inr ⟨by kernel_rfl, rfl⟩) hS ?_
                try simp only [Act.put, zzA, zzB, zzC, zzD, zzE, zzF]
                refine wpAnyY_take (i := 26) (v := undef) rfl (by kernel_rfl) (by kernel_rfl) (by kernel_rfl) (by kernel_rfl) (fun _ _ _ h => h) (Or.inr ⟨by kernel_rfl, rfl⟩) hS ?_
                try simp only [Act.put, zzA, zzB, zzC, zzD, zzE, zzF]
                refine wpAnyY_take (i := 27) (v := undef) rfl (by kernel_rfl) (by kernel_rfl) (by kernel_rfl) (by kernel_rfl) (fun _ _ _ h => h) (Or.inr ⟨by kernel_rfl, rfl⟩) hS ?_
                try simp only [Act.put, zzA, zzB, zzC, zzD, zzE, zzF]
                refine wpAnyY_take (i := 28) (v := undef) rfl (by kernel_rfl) (by kernel_rfl) (by kernel_rfl) (by kernel_rfl) (fun _ _ _ h => h) (Or.inr ⟨by kernel_rfl, rfl⟩) hS ?_
                try simp only [Act.put, zzA, zzB, zzC, zzD, zzE, zzF]
                refine wpAnyY_take (i := 29) (v := undef) rfl (by kernel_rfl) (by kernel_rfl) (by kernel_rfl) (by kernel_rfl) (fun _ _ _ h => h) (Or.inr ⟨by kernel_rfl, rfl⟩) hS ?_
                try simp only [Act.put, zzA, zzB, zzC, zzD, zzE, zzF]
                refine wpAnyY_take (i := 30) (v := undef) rfl (by kernel_rfl) (by kernel_rfl) (by kernel_rfl) (by kernel_rfl) (fun _ _ _ h => h) (Or.inr ⟨by kernel_rfl, rfl⟩) hS ?_
                try simp only [Act.put, zzA, zzB, zzC, zzD, zzE, zzF]
                refine wpAnyY_take (i := 31) (v := undef) rfl (by kernel_rfl) (by kernel_rfl) (by kernel_rfl) (by kernel_rfl) (fun _ _ _ h => h) (Or.inr ⟨by kernel_rfl, rfl⟩) hS ?_
                try simp only [Act.put, zzA, zzB, zzC, zzD, zzE, zzF]
                refine wpAnyY_take (i := 32) (v := undef) rfl (by kernel_rfl) (by kernel_rfl) (by kernel_rfl) (by kernel_rfl) (fun _ _ _ h => h) (Or.inr ⟨by kernel_rfl, rfl⟩) hS ?_
                try simp only [Act.put, zzA, zzB, zzC, zzD, zzE, zzF]
                refine wpAnyY_take (i := 33) (v := undef) rfl (by kernel_rfl) (by kernel_rfl) (by kernel_rfl) (by kernel_rfl) (fun _ _ _ h => h) (Or.inr ⟨by kernel_rfl, rfl⟩) hS ?_
                try simp only [Act.put, zzA, zzB, zzC, zzD, zzE, zzF]
                refine wpAnyY_take (i := 34) (v := undef) rfl (by kernel_rfl) (by kernel_rfl) (by kernel_rfl) (by kernel_rfl) (fun _ _ _ h => h) (Or.inr ⟨by kernel_rfl, rfl⟩) hS ?_
                try simp only [Act.put, zzA, zzB, zzC, zzD, zzE, zzF]
                refine wpAnyY_take (i := 35) (v := .bool false) rfl (by kernel_rfl) (by kernel_rfl) (by kernel_rfl) (by kernel_rfl) (fun _ _ _ h => h) (Or.inl ⟨by kernel_rfl, ?_⟩) hS ?_
                · intro w9 hSw; go_simp <;> (first | with_reducible rfl | rfl | (simp [*]; done))
                try simp only [Act.put, zzA, zzB, zzC, zzD, zzE, zzF]
                refine wpAnyY_oneW (i := 36) (by kernel_rfl) rfl (by kernel_rfl) (by kernel_rfl) (fun K36 hK36 => ?_)
                go_simp
                refine hK36.out _ _ ?_
                clear hK36
                try simp only [Act.put, zzA, zzB, zzC, zzD, zzE, zzF]
                refine wpAnyY_done (by kernel_rfl) ?_ _
                have gd := hGo.t hS
                clear hS hS1 hu0 hv0 hu1 hv1 hu2 hv2 hu3 hv3 hu4 hv4 hu5 hv5 hu6 hv6 hu7 hv7 lgy lgz
                go_wp2_with fail
                go_roundw
                case rel => exact ⟨k + 1, by omega, by go_num, by rw [← HPNe.out, HPN.out], by rw [← HANe.out, HAS.out]; rfl, gd⟩
                case measure => simp [intOf] <;> omega
        · obtain rfl : k = L.length := by omega
          have hki : ¬ ((L.length : Nat) : Int) < L.length := by omega
          have HAA : Hid (anyK L x L.length = L.any (fun y => acB y x)) := by show anyK L x L.length = _; unfold anyK; rw [List.take_length]
          have hpl := posK_le L x L.length
          have HIN : Hid (insA L x = if anyK L x L.length = true then L else L.take (posK L x L.length) ++ x :: L.drop (posK L x L.length)) := by rw [HAA.out]; rfl
          have HOI := Lib.hid (own_G HO.out hGo)
          have gi := hG.t hGo
          clear HAA HO
          generalize posK L x L.length = p at *
          generalize anyK L x L.length = AK at *
          cases AK
          case true =>
            have HLN : Hid (heaL (l.take (i + 1)) = L) := by show heaL (l.take (i + 1)) = L; rw [HTK.out hlt, HIN.out]; rfl
            clear HIN HTK HX HRO HR HPK HLE
            go_wp2_with fail
            go_roundw
            case rel => exact ⟨i + 1, by omega, by go_num, by rw [HLN.out]; exact HOI.out, gi⟩
            case measure => simp [intOf] <;> omega
          case false =>
            have HLN : Hid (heaL (l.take (i + 1)) = L.take p ++ x :: L.drop p) := by show heaL (l.take (i + 1)) = _; rw [HTK.out hlt, HIN.out]; rfl
            clear HIN HTK HPK HLE
            have hbase : w.heap.size ≤ wi.heap.size := gi.size
            rcases HR.out.below gi with h9 | ⟨gl, ol, rfl, lgz, hcz⟩
            · omega
            have hz := hcz i hlt
            rw [← HX.out] at hz
            clear hcz HX HR HRO
            have HX1 : Hid (acE x = acE x) := rfl
            obtain ⟨zid, ztm, zkd, zbk, zbd, zm1, zm2, zsl⟩ := x
            unfold Ac.v at hz
            have hv0 : ∀ W, G wi W → W.cell? ⟨gl, ol + i * 8, none⟩ = some (.int .i64 zid) := fun W hW => ((bcellB hW).1 gl _ lgz).trans (hz 0 (by omega))
            have hv1 : ∀ W, G wi W → W.cell? ⟨gl, ol + i * 8 + 1, none⟩ = some (.int .i64 ztm) := fun W hW => ((bcellB hW).1 gl _ lgz).trans (hz 1 (by omega))
            have hv2 : ∀ W, G wi W → W.cell? ⟨gl, ol + i * 8 + 2, none⟩ = some (.int .i64 zkd) := fun W hW => ((bcellB hW).1 gl _ lgz).trans (hz 2 (by omega))
            have hv3 : ∀ W, G wi W → W.cell? ⟨gl, ol + i * 8 + 3, none⟩ = some (.int .i64 zbk) := fun W hW => ((bcellB hW).1 gl _ lgz).trans (hz 3 (by omega))
            have hv4 : ∀ W, G wi W → W.cell? ⟨gl, ol + i * 8 + 4, none⟩ = some (.int .i64 zbd) := fun W hW => ((bcellB hW).1 gl _ lgz).trans (hz 4 (by omega))
            have hv5 : ∀ W, G wi W → W.cell? ⟨gl, ol + i * 8 + 5, none⟩ = some (.int .i64 zm1) := fun W hW => ((bcellB hW).1 gl _ lgz).trans (hz 5 (by omega))
            have hv6 : ∀ W, G wi W → W.cell? ⟨gl, ol + i * 8 + 6, none⟩ = some (.int .i64 zm2) := fun W hW => ((bcellB hW).1 gl _ lgz).trans (hz 6 (by omega))
            have hv7 : ∀ W, G wi W → W.cell? ⟨gl, ol + i * 8 + 7, none⟩ = some (.int .i64 zsl) := fun W hW => ((bcellB hW).1 gl _ lgz).trans (hz 7 (by omega))
            clear hz
            rcases HOI.out.2 with ⟨e0, h0⟩ | ⟨g, cap, cur, hv, hbg, hgg, hLc, hcm, hsz, htk⟩
            · obtain rfl : L = [] := List.length_eq_zero_iff.1 h0
              obtain rfl : p = 0 := by simpa using hpl
              obtain ⟨rfl, rfl⟩ : ao = none ∧ co = 0 := by simpa using e0
              clear e0 h0
              have HLN2 : Hid (heaL (l.take (i + 1)) = [⟨zid, ztm, zkd, zbk, zbd, zm1, zm2, zsl⟩]) := HLN.out
              clear HLN
              have HLN := HLN2
              clear HLN2
              simp only [List.length_nil] at *
              go_upto_region 13 with fail
              refine wp_region_Y (S := fun W' => G wi W') 9 10 rfl (by kernel_rfl) ((G.rf wi).d) (fun hS => ?_)
              generalize wi.drew = WD at *
              refine wpAnyY_take (i := 0) (v := ?_) rfl (by kernel_rfl) (by kernel_rfl) (by kernel_rfl) (by kernel_rfl) (fun _ _ _ h => h) (Or.inl ⟨by kernel_rfl, ?_⟩) hS ?_
              rotate_left
              · intro w' hSw; go_simp; with_reducible rfl
              try simp only [Act.put, zzA, zzB, zzC, zzD, zzE, zzF]
              refine wpAnyY_take (i := 1) (v := ?_) rfl (by kernel_rfl) (by kernel_rfl) (by kernel_rfl) (by kernel_rfl) (fun _ _ _ h => h) (Or.inl ⟨by kernel_rfl, ?_⟩) hS ?_
              rotate_left
              · intro w' hSw; go_simp; with_reducible rfl
              try simp only [Act.put, zzA, zzB, zzC, zzD, zzE, zzF]
              refine wpAnyY_take (i := 2) (v := ?_) rfl (by kernel_rfl) (by kernel_rfl) (by kernel_rfl) (by kernel_rfl) (fun _ _ _ h => h) (Or.inl ⟨by kernel_rfl, ?_⟩) hS ?_
              rotate_left
              · intro w' hSw; go_simp; with_reducible rfl
              try simp only [Act.put, zzA, zzB, zzC, zzD, zzE, zzF]
              refine wpAnyY_take (i := 3) (v := ?_) rfl (by kernel_rfl) (by kernel_rfl) (by kernel_rfl) (by kernel_rfl) (fun _ _ _ h => h) (Or.inl ⟨by kernel_rfl, ?_⟩) hS ?_
              rotate_left
              · intro w' hSw; have v0 := hv0 _ hSw; have v1 := hv1 _ hSw; have v2 := hv2 _ hSw; have v3 := hv3 _ hSw; have v4 := hv4 _ hSw; have v5 := hv5 _ hSw; have v6 := hv6 _ hSw; have v7 := hv7 _ hSw; have llz := Nat.lt_of_lt_of_le lgz hSw.size; go_simp; with_reducible rfl
              try simp only [Act.put, zzA, zzB, zzC, zzD, zzE, zzF]
              refine wpAnyY_take (i := 5) (v := ?_) rfl (by kernel_rfl) (by kernel_rfl) (by kernel_rfl) (by kernel_rfl) (fun _ _ _ h => h) (Or.inl ⟨by kernel_rfl, ?_⟩) hS ?_
              rotate_left
              · intro w' hSw; go_simp; with_reducible rfl
              try simp only [Act.put, zzA, zzB, zzC, zzD, zzE, zzF]
              refine wpAnyY_take (i := 6) (v := ?_) rfl (by kernel_rfl) (by kernel_rfl) (by kernel_rfl) (by kernel_rfl) (fun _ _ _ h => h) (Or.inl ⟨by kernel_rfl, ?_⟩) hS ?_
              rotate_left
              · intro w' hSw; go_simp; with_reducible rfl
              try simp only [Act.put, zzA, zzB, zzC, zzD, zzE, zzF]
              refine wpAnyY_take (i := 7) (v := ?_) rfl (by kernel_rfl) (by kernel_rfl) (by kernel_rfl) (by kernel_rfl) (fun _ _ _ h => h) (Or.inl ⟨by kernel_rfl, ?_⟩) hS ?_
              rotate_left
              · intro w' hSw; go_simp; with_reducible rfl
              try simp only [Act.put, zzA, zzB, zzC, zzD, zzE, zzF]
              refine wpAnyY_oneSW (i := 4) (by kernel_rfl) rfl (by kernel_rfl) (fun K4 hK4 => ?_)
              go_simp
              refine hK4.out _ _ (hS.a _) (fun hS4 => ?_)
              clear hK4
              try simp only [Act.put, zzA, zzB, zzC, zzD, zzE, zzF]
              have hown1 : (WD.alloc (.cells #[.int .i64 zid, .int .i64 ztm, .int .i64 zkd, .int .i64 zbk, .int .i64 zbd, .int .i64 zm1, .int .i64 zm2, .int .i64 zsl] 54)).ownsRow w.heap.size 54 8 (.slice (some ⟨WD.heap.size, 0, none⟩) 1 1) 1 (acE ⟨zid, ztm, zkd, zbk, zbd, zm1, zm2, zsl⟩) := World.ownsRow_lit WD _ 1 (Nat.le_trans hbase hS.size) (by decide) rfl
              refine wpAnyY_oneSW (i := 8) (by kernel_rfl) rfl (by kernel_rfl) (fun K8 hK8 => ?_)
              refine wp_app54 _ _ rfl w.heap.size 1 _ _ rfl hown1 none [] 0 rfl (fun _ => ⟨rfl, rfl⟩) (.inl rfl) (by decide) (Nat.le_trans hbase hS4.size) ?_
              intro v9 w9 hown9 hg9
              have g9 : G wi w9 := hS.t (grow_own (wb := WD) ((G.rf WD).a _) (World.ownsRow_lit (base := WD.heap.size) (size := 8) WD _ 1 (Nat.le_refl _) (by decide) rfl) (Nat.le_refl _) hg9)
              refine hK8.out _ _ g9 (fun hS5 => ?_)
              clear hK8
              try simp only [Act.put, zzA, zzB, zzC, zzD, zzE, zzF]
              obtain ⟨r9, c9, rfl⟩ := own_slice hown9
              refine wpAnyY_oneW (i := 9) (by kernel_rfl) rfl (by kernel_rfl) (by kernel_rfl) (fun K9 hK9 => ?_)
              go_simp
              refine hK9.out _ _ ?_
              clear hK9
              try simp only [Act.put, zzA, zzB, zzC, zzD, zzE, zzF]
              refine wpAnyY_done (by kernel_rfl) ?_ _
              clear hS hS5 hS4 hown1
              have hown2 : w9.ownsRow w.heap.size 54 8 (.slice r9 1 c9) 1 (acV [⟨zid, ztm, zkd, zbk, zbd, zm1, zm2, zsl⟩]) := hown9
              have HO9 := Lib.hid (own_G HOI.out g9)
              have G9 := gi.t g9
              clear hown9 hg9 HOI
              have hb9 : w.heap.size ≤ w9.heap.size := G9.size
              have HRX : Hid (∀ W, G w9 W → RowE Ac.v 8 W r9 (⟨zid, ztm, zkd, zbk, zbd, zm1, zm2, zsl⟩ :: [])) := fun W hW => by
                obtain ⟨a1, c1, e1, r1⟩ := own_ac (l := (⟨zid, ztm, zkd, zbk, zbd, zm1, zm2, zsl⟩ :: [] : List Ac)) (own_G hown2 hW)
                injection e1 with e1
                exact e1 ▸ r1
              have HNR : Hid (r9 = none → c9 = 0 ∧ (⟨zid, ztm, zkd, zbk, zbd, zm1, zm2, zsl⟩ :: [] : List Ac).length = 0) := fun h => by
                rcases hown2.2 with ⟨_, h0⟩ | ⟨g1, cap1, cur1, e1, _⟩
                · cases h0
                · subst h
                  simp at e1
              go_wp2_with (first | (at_builtin; refine wpList_app54 rfl _ _ rfl w.heap.size 0 [] (.slice (some ⟨w9.heap.size, 0, none⟩) 0 0) rfl (World.ownsRow_lit w9 #[] 0 hb9 (by decide) rfl) none [] 0 rfl (fun _ => ⟨rfl, rfl⟩) (.inl rfl) (by decide) (Nat.le_trans hb9 ((G.rf w9).a (.cells #[] 54)).size) ?_; intro v10 w10 hown10 hg10; obtain ⟨r10, c10, rfl⟩ := own_slice hown10; have g10 : G w9 w10 := grow_own (wb := w9) ((G.rf w9).a (.cells #[] 54)) (World.ownsRow_lit (base := w9.heap.size) (size := 8) w9 #[] 0 (Nat.le_refl _) (by decide) rfl) (Nat.le_refl _) hg10; have hrow10 := HRX.out w10 g10) | (at_builtin; refine wpList_app54 rfl _ _ rfl w.heap.size 0 [] (.slice r10 0 c10) rfl hown10 r9 (⟨zid, ztm, zkd, zbk, zbd, zm1, zm2, zsl⟩ :: []) c9 rfl HNR.out hrow10 (by simp) (Nat.le_trans hb9 g10.size) ?_; intro v11 w11 hown11 hg11; have g11 : G w w11 := grow_own (G9.t g10) hown10 (Nat.le_refl _) hg11))
              go_roundw
              case rel => exact ⟨i + 1, by omega, by go_num, by rw [HLN.out]; exact hown11, g11⟩
              case measure => simp [intOf] <;> omega
            obtain ⟨rfl, rfl⟩ : ao = some ⟨g, 0, none⟩ ∧ co = cap := by simp at hv; exact ⟨hv.1, hv.2⟩
            clear hv hgg hsz htk hcm
            have hpi : (p : Int) ≤ L.length := by omega
            go_upto_region 13 with fail
            refine wp_region_Y (S := fun W' => G wi W') 9 10 rfl (by kernel_rfl) ((G.rf wi).d) (fun hS => ?_)
            generalize wi.drew = WD at *
            refine wpAnyY_take (i := 0) (v := ?_) rfl (by kernel_rfl) (by kernel_rfl) (by kernel_rfl) (by kernel_rfl) (fun _ _ _ h => h) (Or.inl ⟨by kernel_rfl, ?_⟩) hS ?_
            rotate_left
            · intro w' hSw; go_simp; with_reducible rfl
            try simp only [Act.put, zzA, zzB, zzC, zzD, zzE, zzF]
            refine wpAnyY_take (i := 1) (v := ?_) rfl (by kernel_rfl) (by kernel_rfl) (by kernel_rfl) (by kernel_rfl) (fun _ _ _ h => h) (Or.inl ⟨by kernel_rfl, ?_⟩) hS ?_
            rotate_left
            · intro w' hSw; go_simp; with_reducible rfl
            try simp only [Act.put, zzA, zzB, zzC, zzD, zzE, zzF]
            refine wpAnyY_take (i := 2) (v := ?_) rfl (by kernel_rfl) (by kernel_rfl) (by kernel_rfl) (by kernel_rfl) (fun _ _ _ h => h) (Or.inl ⟨by kernel_rfl, ?_⟩) hS ?_
            rotate_left
            · intro w' hSw; go_simp; with_reducible rfl
            try simp only [Act.put, zzA, zzB, zzC, zzD, zzE, zzF]
            refine wpAnyY_take (i := 3) (v := ?_) rfl (by kernel_rfl) (by kernel_rfl) (by kernel_rfl) (by kernel_rfl) (fun _ _ _ h => h) (Or.inl ⟨by kernel_rfl, ?_⟩) hS ?_
            rotate_left
            · intro w' hSw; have v0 := hv0 _ hSw; have v1 := hv1 _ hSw; have v2 := hv2 _ hSw; have v3 := hv3 _ hSw; have v4 := hv4 _ hSw; have v5 := hv5 _ hSw; have v6 := hv6 _ hSw; have v7 := hv7 _ hSw; have llz := Nat.lt_of_lt_of_le lgz hSw.size; go_simp; with_reducible rfl
            try simp only [Act.put, zzA, zzB, zzC, zzD, zzE, zzF]
            refine wpAnyY_take (i := 5) (v := ?_) rfl (by kernel_rfl) (by kernel_rfl) (by kernel_rfl) (by kernel_rfl) (fun _ _ _ h => h) (Or.inl ⟨by kernel_rfl, ?_⟩) hS ?_
            rotate_left
            · intro w' hSw; go_simp; with_reducible rfl
            try simp only [Act.put, zzA, zzB, zzC, zzD, zzE, zzF]
            refine wpAnyY_take (i := 6) (v := ?_) rfl (by kernel_rfl) (by kernel_rfl) (by kernel_rfl) (by kernel_rfl) (fun _ _ _ h => h) (Or.inl ⟨by kernel_rfl, ?_⟩) hS ?_
            rotate_left
            · intro w' hSw; go_simp; with_reducible rfl
            try simp only [Act.put, zzA, zzB, zzC, zzD, zzE, zzF]
            refine wpAnyY_take (i := 7) (v := .slice (some ⟨g, if p < co then p * 8 else 0, none⟩) (L.length - p) (co - p)) rfl (by kernel_rfl) (by kernel_rfl) (by kernel_rfl) (by kernel_rfl) (fun _ _ _ h => h) (Or.inl ⟨by kernel_rfl, ?_⟩) hS ?_
            · intro w9 hSw
              by_cases hpc : p < co
              · have h4 : (p : Int) < co := by omega
                rw [if_pos hpc]
                go_simp
                try (intro h; omega)
              · have h4 : ¬ (p : Int) < co := by omega
                rw [if_neg hpc]
                go_simp
                try (intro h; omega)
            try simp only [Act.put, zzA, zzB, zzC, zzD, zzE, zzF]
            obtain ⟨eo, heo⟩ : ∃ eo, eo = if p < co then p * 8 else 0 := ⟨_, rfl⟩
            rw [← heo]
            have HRD : Hid (∀ W, G wi W → RowE Ac.v 8 W (some ⟨g, eo, none⟩) (L.drop p)) := fun W hW => by
              obtain ⟨a1, c1, e1, r1⟩ := own_ac (own_G HOI.out hW)
              injection e1 with e1
              rw [heo]
              exact rowE_lo (e1 ▸ r1) p hpl hLc
            refine wpAnyY_oneSW (i := 4) (by kernel_rfl) rfl (by kernel_rfl) (fun K4 hK4 => ?_)
            go_simp
            refine hK4.out _ _ (hS.a _) (fun hS4 => ?_)
            clear hK4
            try simp only [Act.put, zzA, zzB, zzC, zzD, zzE, zzF]
            have hown1 : (WD.alloc (.cells #[.int .i64 zid, .int .i64 ztm, .int .i64 zkd, .int .i64 zbk, .int .i64 zbd, .int .i64 zm1, .int .i64 zm2, .int .i64 zsl] 54)).ownsRow w.heap.size 54 8 (.slice (some ⟨WD.heap.size, 0, none⟩) 1 1) 1 (acE ⟨zid, ztm, zkd, zbk, zbd, zm1, zm2, zsl⟩) := World.ownsRow_lit WD _ 1 (Nat.le_trans hbase hS.size) (by decide) rfl
            refine wpAnyY_oneSW (i := 8) (by kernel_rfl) rfl (by kernel_rfl) (fun K8 hK8 => ?_)
            refine wp_app54 _ _ rfl w.heap.size 1 _ _ rfl hown1 (some ⟨g, eo, none⟩) (L.drop p) (co - p) (by rw [List.length_drop]; first | rfl | (rw [heo]; rfl) | (simp [Act.eval, heo]; done)) (fun h => by cases h) (HRD.out _ hS4) (by rw [List.length_drop]; omega) (Nat.le_trans hbase hS4.size) ?_
            intro v9 w9 hown9 hg9
            have g9 : G wi w9 := hS.t (grow_own (wb := WD) ((G.rf WD).a _) (World.ownsRow_lit (base := WD.heap.size) (size := 8) WD _ 1 (Nat.le_refl _) (by decide) rfl) (Nat.le_refl _) hg9)
            refine hK8.out _ _ g9 (fun hS5 => ?_)
            clear hK8
            try simp only [Act.put, zzA, zzB, zzC, zzD, zzE, zzF]
            obtain ⟨r9, c9, rfl⟩ := own_slice hown9
            refine wpAnyY_oneW (i := 9) (by kernel_rfl) rfl (by kernel_rfl) (by kernel_rfl) (fun K9 hK9 => ?_)
            go_simp
            refine hK9.out _ _ ?_
            clear hK9
            try simp only [Act.put, zzA, zzB, zzC, zzD, zzE, zzF]
            refine wpAnyY_done (by kernel_rfl) ?_ _
            clear hS hS5 hS4 hown1
            have hown2 : w9.ownsRow w.heap.size 54 8 (.slice r9 (1 + (L.length - p)) c9) (1 + (L.length - p)) (acV (⟨zid, ztm, zkd, zbk, zbd, zm1, zm2, zsl⟩ :: L.drop p)) := by
              have e := hown9
              rw [List.length_drop] at e
              exact e
            have HO9 := Lib.hid (own_G HOI.out g9)
            have G9 := gi.t g9
            clear hown9 hg9 HRD heo HOI
            have hb9 : w.heap.size ≤ w9.heap.size := G9.size
            have hlt9 : (L.take p).length = p := by rw [List.length_take]; omega
            have HRT : Hid (RowE Ac.v 8 (w9.alloc (.cells #[] 54)) (some ⟨g, 0, none⟩) (L.take p)) := by
              obtain ⟨a1, c1, e1, r1⟩ := own_ac (own_G HO9.out ((G.rf w9).a (.cells #[] 54)))
              injection e1 with e1
              exact rowE_hi (e1 ▸ r1) p hpl
            have HLN0 : Hid ((⟨zid, ztm, zkd, zbk, zbd, zm1, zm2, zsl⟩ :: L.drop p : List Ac).length = 1 + (L.length - p)) := by show _ = _; rw [List.length_cons, List.length_drop]; omega
            have HRX : Hid (∀ W, G w9 W → RowE Ac.v 8 W r9 (⟨zid, ztm, zkd, zbk, zbd, zm1, zm2, zsl⟩ :: L.drop p)) := fun W hW => by
              obtain ⟨a1, c1, e1, r1⟩ := own_ac (l := (⟨zid, ztm, zkd, zbk, zbd, zm1, zm2, zsl⟩ :: L.drop p : List Ac)) (by rw [HLN0.out]; exact own_G hown2 hW)
              injection e1 with e1
              exact e1 ▸ r1
            have HNR : Hid (r9 = none → c9 = 0 ∧ (⟨zid, ztm, zkd, zbk, zbd, zm1, zm2, zsl⟩ :: L.drop p : List Ac).length = 0) := fun h => by
              rcases hown2.2 with ⟨_, h0⟩ | ⟨g1, cap1, cur1, e1, _⟩
              · omega
              · subst h
                simp at e1
            have HACV : Hid (acV (L.take p ++ ⟨zid, ztm, zkd, zbk, zbd, zm1, zm2, zsl⟩ :: L.drop p) = acV (L.take p) ++ acV (⟨zid, ztm, zkd, zbk, zbd, zm1, zm2, zsl⟩ :: L.drop p)) := by show _ = _; simp [acV]
            have pA : p ≤ co := by omega
            have pB : (p : Int) ≤ co := by omega
            go_wp2_with (first | (at_builtin; refine wpList_app54 rfl _ _ rfl w.heap.size 0 [] (.slice (some ⟨w9.heap.size, 0, none⟩) 0 0) rfl (World.ownsRow_lit w9 #[] 0 hb9 (by decide) rfl) (some ⟨g, 0, none⟩) (L.take p) co (by rw [hlt9]; rfl) (fun h => by cases h) HRT.out (by rw [hlt9]; omega) (Nat.le_trans hb9 ((G.rf w9).a (.cells #[] 54)).size) ?_; intro v10 w10 hown10 hg10; rw [hlt9, Nat.zero_add] at hown10; obtain ⟨r10, c10, rfl⟩ := own_slice hown10; have g10 : G w9 w10 := grow_own (wb := w9) ((G.rf w9).a (.cells #[] 54)) (World.ownsRow_lit (base := w9.heap.size) (size := 8) w9 #[] 0 (Nat.le_refl _) (by decide) rfl) (Nat.le_refl _) hg10; have hrow10 := HRX.out w10 g10) | (at_builtin; refine wpList_app54 rfl _ _ rfl w.heap.size p (acV (L.take p)) (.slice r10 p c10) rfl hown10 r9 (⟨zid, ztm, zkd, zbk, zbd, zm1, zm2, zsl⟩ :: L.drop p) c9 (by rw [HLN0.out]; rfl) HNR.out hrow10 (by rw [HLN0.out]; omega) (Nat.le_trans hb9 g10.size) ?_; intro v11 w11 hown11 hg11; have g11 : G w w11 := grow_own (G9.t g10) hown10 (Nat.le_refl _) hg11))
            go_roundw
            case rel => exact ⟨i + 1, by omega, by go_num, by rw [HLN.out]; rw [List.length_append, hlt9, HACV.out]; exact hown11, g11⟩
            case measure => simp [intOf] <;> omega
    · obtain rfl : i = l.length := by omega
      have hii : ¬ ((l.length : Nat) : Int) < l.length := by omega
      have HF : Hid (PP (.returned (.slice ao L.length co)) wo) := by
        have e := HLE.out rfl
        have h1 := HO.out
        exact HPK.out (.slice ao L.length co) wo (by rw [← e]; exact h1) hG
      clear HPK HLE HO HRO HR HTK
      go_wp2_with fail
      first | exact HF.out | (go_ret; exact HF.out)
theorem check20_any (c : Cv) (w : World) (h : c.At w) : Calls Tryz.prog 20 #[.agg c.v] w fun e w' => e = .returned (.int .i64 (folE c)) ∧ G w w' := checkR_any heard_any c w h
end Go.Proofs.YtabnpimidhlbiaaGreat

set_option linter.unusedSimpArgs false
set_option linter.unusedVariables false
namespace Go.Proofs.YtabnpimidhlbiaaGreat
open Go.RowKit Go.Shelf Go.Sort
attribute [local go_sem] Oper.semAt_some
/-- a convoy as it comes -/
structure Cv.Laid (c : Cv) (W : World) : Prop where
  ra : RowE Ac.v 8 W c.aa c.acts
  rd : RowE Du.v 4 W c.da c.duties
theorem Cv.Laid.keep {c : Cv} {W W' : World} (h : c.Laid W) (hG : G W W') : c.Laid W' := ⟨h.ra.below hG, h.rd.below hG⟩
def farC (c : Cv) : Bool := decide (60 < c.acts.length) || decide (40 < c.duties.length)
def rdyB (c : Cv) : Bool := !farC c && decide (folE c = 0)
theorem folE_vc {c : Cv} (h : vcB c = false) : folE c = 50 := by unfold folE; rw [if_neg (by rw [h]; simp)]
theorem vcB_bks {c : Cv} (h : ¬ (1 ≤ c.bks ∧ c.bks ≤ 6 ∧ 0 ≤ c.bds ∧ c.bds ≤ 12)) : vcB c = false := by
  cases hv : vcB c
  · rfl
  · exfalso
    refine h ?_
    simp only [vcB, upB, Bool.and_eq_true, decide_eq_true_eq] at hv
    omega
theorem Cv.Laid.at {c : Cv} {W : World} (h : c.Laid W) (hf : farC c = false) (hb : 1 ≤ c.bks ∧ c.bks ≤ 6 ∧ 0 ≤ c.bds ∧ c.bds ≤ 12) : c.At W := by
  simp only [farC, Bool.or_eq_false_iff, decide_eq_false_iff_not] at hf
  exact ⟨h.ra, h.rd, by omega, by omega, IntWalk.i64_in _ (by omega), IntWalk.i64_in _ (by omega)⟩
set_option maxRecDepth 100000 in
set_option maxHeartbeats 8000000 in
/-- the reference's Check of a convoy that has too few or too many baskets or birds -/
theorem check20_bad (c : Cv) (w : World) (h : ¬ (1 ≤ c.bks ∧ c.bks ≤ 6 ∧ 0 ≤ c.bds ∧ c.bds ≤ 12)) : Calls Tryz.prog 20 #[.agg c.v] w fun e w' => e = .returned (.int .i64 (folE c)) ∧ G w w' := by
  rw [folE_vc (vcB_bks h)]
  have HWI := Lib.hid (fun (n lo hi : Int) (W : World) => within_any n lo hi W)
  have HV : Hid (∀ W, Calls Tryz.prog 49 #[.agg c.v] W fun e w' => e = .returned (.bool false) ∧ G W w') := fun w => by
    obtain ⟨ybks, ybds, yaa, yac, yacts, yda, ydc, yduties, yen⟩ := c
    unfold Cv.v at *
    dsimp only at *
    have g0 : G w (w.alloc (.cells #[.int .i64 ybks, .int .i64 ybds, .slice yaa yacts.length yac, .slice yda yduties.length ydc, .int .i64 yen] 25)) := (G.rf _).a _
    have b0 : Blk (w.alloc (.cells #[.int .i64 ybks, .int .i64 ybds, .slice yaa yacts.length yac, .slice yda yduties.length ydc, .int .i64 yen] 25)) w.heap.size 25 #[.int .i64 ybks, .int .i64 ybds, .slice yaa yacts.length yac, .slice yda yduties.length ydc, .int .i64 yen] := Blk.new _ _ _
    have m0 := b0.cell 0
    have m1 := b0.cell 1
    have m2 := b0.cell 2
    have m3 := b0.cell 3
    have m4 := b0.cell 4
    have l0 := b0.lt
    cases r1 : isInB ybks 1 6
    · clear h
      go_enter Tryz.func49, Tryz.ntmps49
      go_wp2_with (go_at_call 45; refine (HWI.out _ _ _ _).mono ?_; rintro e w1 ⟨rfl, hG1⟩; replace b0 := b0.keep hG1; replace g0 := g0.t hG1; clear hG1; clear m0 m1 m2 m3 m4 l0; have m0 := b0.cell 0; have m1 := b0.cell 1; have m2 := b0.cell 2; have m3 := b0.cell 3; have m4 := b0.cell 4; have l0 := b0.lt)
      all_goals first | exact ⟨by first | rfl | (simp [*]; done), g0⟩ | (go_ret; exact ⟨by first | rfl | (simp [*]; done), g0⟩)
    cases r2 : isInB ybds 0 12
    · clear h
      go_enter Tryz.func49, Tryz.ntmps49
      go_wp2_with (go_at_call 45; refine (HWI.out _ _ _ _).mono ?_; rintro e w1 ⟨rfl, hG1⟩; replace b0 := b0.keep hG1; replace g0 := g0.t hG1; clear hG1; clear m0 m1 m2 m3 m4 l0; have m0 := b0.cell 0; have m1 := b0.cell 1; have m2 := b0.cell 2; have m3 := b0.cell 3; have m4 := b0.cell 4; have l0 := b0.lt)
      all_goals first | exact ⟨by first | rfl | (simp [*]; done), g0⟩ | (go_ret; exact ⟨by first | rfl | (simp [*]; done), g0⟩)
    exfalso
    refine h ?_
    simp only [isInB, Bool.and_eq_true, decide_eq_true_eq] at r1 r2
    omega
  clear h HWI
  obtain ⟨ybks, ybds, yaa, yac, yacts, yda, ydc, yduties, yen⟩ := c
  unfold Cv.v at *
  dsimp only at *
  have g0 : G w (w.alloc (.cells #[.int .i64 ybks, .int .i64 ybds, .slice yaa yacts.length yac, .slice yda yduties.length ydc, .int .i64 yen] 25)) := (G.rf _).a _
  have b0 : Blk (w.alloc (.cells #[.int .i64 ybks, .int .i64 ybds, .slice yaa yacts.length yac, .slice yda yduties.length ydc, .int .i64 yen] 25)) w.heap.size 25 #[.int .i64 ybks, .int .i64 ybds, .slice yaa yacts.length yac, .slice yda yduties.length ydc, .int .i64 yen] := Blk.new _ _ _
  have m0 := b0.cell 0
  have m1 := b0.cell 1
  have m2 := b0.cell 2
  have m3 := b0.cell 3
  have m4 := b0.cell 4
  have l0 := b0.lt
  go_enter Tryz.func20, Tryz.ntmps20
  go_wp2_with (go_at_call 49; refine (HV.out _).mono ?_; rintro e w1 ⟨rfl, hG1⟩)
  first | exact ⟨rfl, g0.t hG1⟩ | (go_ret; exact ⟨rfl, g0.t hG1⟩)
theorem check20_laid (c : Cv) (w : World) (h : c.Laid w) (hf : farC c = false) : Calls Tryz.prog 20 #[.agg c.v] w fun e w' => e = .returned (.int .i64 (folE c)) ∧ G w w' := by
  by_cases hb : 1 ≤ c.bks ∧ c.bks ≤ 6 ∧ 0 ≤ c.bds ∧ c.bds ≤ 12
  · exact check20_any c w (h.at hf hb)
  · exact check20_bad c w hb
set_option maxRecDepth 100000 in
set_option maxHeartbeats 8000000 in
theorem ready_any (c : Cv) (w : World) (h : c.Laid w) : Calls Tryz.prog 18 #[.agg c.v] w fun e w' => e = .returned (.bool (rdyB c)) ∧ G w w' := by
  have HF : Hid (∀ W, Calls Tryz.prog 8 #[.agg c.v] W fun e w' => e = .returned (.bool (farC c)) ∧ G W w') := fun W => Far_any c W
  have HC : Hid (∀ W, G w W → farC c = false → Calls Tryz.prog 20 #[.agg c.v] W fun e w' => e = .returned (.int .i64 (folE c)) ∧ G W w') := fun W hW hf => check20_laid c W (h.keep hW) hf
  have HR : Hid (rdyB c = (!farC c && decide (folE c = 0))) := rfl
  clear h
  generalize rdyB c = RB at *
  generalize farC c = FB at *
  generalize folE c = FE at *
  obtain ⟨ybks, ybds, yaa, yac, yacts, yda, ydc, yduties, yen⟩ := c
  unfold Cv.v at *
  dsimp only at *
  have g0 : G w (w.alloc (.cells #[.int .i64 ybks, .int .i64 ybds, .slice yaa yacts.length yac, .slice yda yduties.length ydc, .int .i64 yen] 25)) := (G.rf _).a _
  have b0 : Blk (w.alloc (.cells #[.int .i64 ybks, .int .i64 ybds, .slice yaa yacts.length yac, .slice yda yduties.length ydc, .int .i64 yen] 25)) w.heap.size 25 #[.int .i64 ybks, .int .i64 ybds, .slice yaa yacts.length yac, .slice yda yduties.length ydc, .int .i64 yen] := Blk.new _ _ _
  have m0 := b0.cell 0
  have m1 := b0.cell 1
  have m2 := b0.cell 2
  have m3 := b0.cell 3
  have m4 := b0.cell 4
  have l0 := b0.lt
  cases FB
  · have HC2 := Lib.hid (fun W hW => HC.out W hW rfl)
    clear HC
    by_cases hz : FE = 0
    · subst hz
      go_enter Tryz.func18, Tryz.ntmps18
      go_wp2_with (first | (go_at_call 8; refine (HF.out _).mono ?_; rintro e w1 ⟨rfl, hG1⟩; replace b0 := b0.keep hG1; replace g0 := g0.t hG1; clear hG1; clear m0 m1 m2 m3 m4 l0; have m0 := b0.cell 0; have m1 := b0.cell 1; have m2 := b0.cell 2; have m3 := b0.cell 3; have m4 := b0.cell 4; have l0 := b0.lt) | (go_at_call 20; refine (HC2.out _ g0).mono ?_; rintro e w2 ⟨rfl, hG2⟩))
      first | exact ⟨by rw [HR.out]; rfl, g0.t hG2⟩ | (go_ret; exact ⟨by rw [HR.out]; rfl, g0.t hG2⟩)
    · have HR2 := Lib.hid (show RB = false by rw [HR.out]; simp [hz])
      go_enter Tryz.func18, Tryz.ntmps18
      go_wp2_with (first | (go_at_call 8; refine (HF.out _).mono ?_; rintro e w1 ⟨rfl, hG1⟩; replace b0 := b0.keep hG1; replace g0 := g0.t hG1; clear hG1; clear m0 m1 m2 m3 m4 l0; have m0 := b0.cell 0; have m1 := b0.cell 1; have m2 := b0.cell 2; have m3 := b0.cell 3; have m4 := b0.cell 4; have l0 := b0.lt) | (go_at_call 20; refine (HC2.out _ g0).mono ?_; rintro e w2 ⟨rfl, hG2⟩))
      first | exact ⟨by rw [HR2.out]; first | done | rfl | (simp [hz]; done), g0.t hG2⟩ | (go_ret; exact ⟨by rw [HR2.out]; first | done | rfl | (simp [hz]; done), g0.t hG2⟩)
  · clear HC
    go_enter Tryz.func18, Tryz.ntmps18
    go_wp2_with (go_at_call 8; refine (HF.out _).mono ?_; rintro e w1 ⟨rfl, hG1⟩; replace b0 := b0.keep hG1; replace g0 := g0.t hG1; clear hG1; clear m0 m1 m2 m3 m4 l0; have m0 := b0.cell 0; have m1 := b0.cell 1; have m2 := b0.cell 2; have m3 := b0.cell 3; have m4 := b0.cell 4; have l0 := b0.lt)
    first | exact ⟨by rw [HR.out]; rfl, g0⟩ | (go_ret; exact ⟨by rw [HR.out]; rfl, g0⟩)
end Go.Proofs.YtabnpimidhlbiaaGreat

set_option linter.unusedSimpArgs false
set_option linter.unusedVariables false
namespace Go.Proofs.YtabnpimidhlbiaaGreat
open Go.RowKit Go.Shelf Go.Sort
attribute [local go_sem] Oper.semAt_some
/-- the ends of periods of a journey have no overflow -/
def EnOk (ps : List Pe) : Prop := ∀ i, i < ps.length → IntKind.i64.wrap ((ps.getD i default).en - 1) = (ps.getD i default).en - 1
def EnB (ps : List Pe) : Prop := ∀ p ∈ ps, 0 ≤ p.en ∧ p.en ≤ 9999
theorem EnB.ok {ps : List Pe} (h : EnB ps) : EnOk ps := fun i hi => by
  have := h (ps.getD i default) (by simp [List.getD, hi])
  rw [IntWalk.i64_in _ (by omega)]
theorem EnB.brk {ps : List Pe} (h : EnB ps) : EnB (brk ps) := fun p hp => h p (List.mem_filter.1 hp).1
theorem hap_enb {B N E : Int} {j : Jn} {a : Ac} (hj : EnB j.ps) (ha : actB B N E a = true) (hE : 0 ≤ E ∧ E ≤ 9999) : EnB (hap E j a).1.ps := by
  have ht := actB_tm ha
  have hl : ∀ p : Pe, (0 ≤ p.en ∧ p.en ≤ 9999) → 0 ≤ (lookP p a).1.en ∧ (lookP p a).1.en ≤ 9999 := fun p hp => by
    rw [lookP_en]
    by_cases c1 : a.sl ≠ p.sl ∧ p.br = false
    · rw [if_pos c1]; omega
    · rw [if_neg c1]
      by_cases c2 : a.kd = 5
      · rw [if_pos c2]; omega
      · rw [if_neg c2]; exact hp
  unfold hap
  by_cases k1 : a.kd = 1
  · rw [if_pos k1]; exact hj
  rw [if_neg k1]
  by_cases k2 : a.kd = 2
  · rw [if_pos k2]; exact hj
  rw [if_neg k2]
  by_cases k3 : a.kd = 3
  · rw [if_pos k3]
    by_cases k4 : (j.sd a.bk).isNone = true
    · rw [if_pos k4]
      intro p hp
      rcases List.mem_append.1 hp with hp | hp
      · exact hj p hp
      · rw [List.mem_singleton.1 hp]; exact hE
    · rw [if_neg k4]; exact hj
  rw [if_neg k3]
  cases hd : j.sd a.bk with
  | none => exact hj
  | some i =>
    intro p hp
    obtain ⟨q, hq, e⟩ := List.mem_iff_getElem.1 hp
    rw [List.getElem_set] at e
    have hq2 : q < j.ps.length := by simpa using hq
    by_cases c : i = q
    · rw [if_pos c] at e
      rw [← e]
      refine hl _ (hj _ ?_)
      rw [c]
      simp [List.getD, hq2]
    · rw [if_neg c] at e
      rw [← e]
      exact hj _ (List.getElem_mem hq2)
theorem run_enb {B N E : Int} (hE : 0 ≤ E ∧ E ≤ 9999) : ∀ (l : List Ac) (j k : Jn), (∀ a ∈ l, actB B N E a = true) → EnB j.ps → run E j l = some k → EnB k.ps
  | [], j, k, _, hj, h => by
    have e : some j = some k := h
    cases e
    exact hj
  | a :: l, j, k, hl, hj, h => by
    unfold run at h
    by_cases hh : (hap E j a).2 = true
    · rw [if_pos hh] at h
      exact run_enb hE l { (hap E j a).1 with past := (hap E j a).1.past ++ [a] } k (fun x hx => hl x (List.mem_cons_of_mem _ hx)) (show EnB (hap E j a).1.ps from hap_enb hj (hl a (by simp)) hE) h
    · rw [if_neg hh] at h; cases h
theorem folJ_some {c : Cv} {k : Jn} (h : folJ c = some k) : vcB c = true ∧ clashB c.acts = false ∧ run c.en Jn.zero (hrd c.acts) = some k := by
  unfold folJ at h
  by_cases e : vcB c = true ∧ clashB c.acts = false
  · rw [if_pos e] at h; exact ⟨e.1, e.2, h⟩
  · rw [if_neg e] at h; cases h
theorem folJ_enb {c : Cv} {k : Jn} (h : folJ c = some k) : EnB k.ps := by
  obtain ⟨hv, _, hr⟩ := folJ_some h
  have hA := vcB_act hv
  exact run_enb ⟨by omega, by omega⟩ (hrd c.acts) Jn.zero k (fun a ha => hA.1 a ((hrd_mem _ _).1 ha)) (fun p hp => absurd hp (by simp [Jn.zero])) hr
/-- what Struck answers -/
def StrPost (c : Cv) (w : World) (e : Ending) (w' : World) : Prop :=
  ∃ v1 v2 l1 l2, e = .returned (.tuple #[v1, v2, .int .i64 (folE c)]) ∧ w'.ownsRow w.heap.size 3 1 v1 l1.length (iv l1) ∧ w'.ownsRow w.heap.size 3 1 v2 l2.length (iv l2) ∧ G w w' ∧
    (folJ c = none → l1 = [] ∧ l2 = []) ∧ ∀ k, folJ c = some k → l1 = struckL k.past k.ps (brk k.ps) c.bds.toNat ∧ l2 = struckL k.past k.ps k.ps c.bds.toNat
set_option maxRecDepth 100000 in
set_option maxHeartbeats 8000000 in
theorem Struck_any (c : Cv) (w : World) (h : c.At w) : Calls Tryz.prog 11 #[.agg c.v] w (StrPost c w) := by
  have HF := Lib.hid (fun (W : World) (hW : G w W) => (follow_any c W (h.keep hW)).mono fun e w' hh => FolPost.two hh)
  have HP1 : Hid (folJ c = none → ∀ w', G w w' → StrPost c w (.returned (.tuple #[.slice none 0 0, .slice none 0 0, .int .i64 (folE c)])) w') := fun h1 w' hG =>
    ⟨_, _, [], [], rfl, World.ownsRow_nil _ _ _ _, World.ownsRow_nil _ _ _ _, hG, fun _ => ⟨rfl, rfl⟩, fun k hk => absurd (hk.symm.trans h1) (by simp)⟩
  have HP2 : Hid (∀ k, folJ c = some k → ∀ w' v1 v2, w'.ownsRow w.heap.size 3 1 v1 (struckL k.past k.ps (brk k.ps) c.bds.toNat).length (iv (struckL k.past k.ps (brk k.ps) c.bds.toNat)) → w'.ownsRow w.heap.size 3 1 v2 (struckL k.past k.ps k.ps c.bds.toNat).length (iv (struckL k.past k.ps k.ps c.bds.toNat)) → G w w' → StrPost c w (.returned (.tuple #[v1, v2, .int .i64 0])) w') := fun k hk w' v1 v2 h1 h2 hG =>
    ⟨v1, v2, _, _, by rw [folE_some hk], h1, h2, hG, fun e => absurd (hk.symm.trans e) (by simp), fun k2 hk2 => by
      have e2 := hk.symm.trans hk2
      cases e2
      exact ⟨rfl, rfl⟩⟩
  have HEN := Lib.hid (fun (k : Jn) (hk : folJ c = some k) => folJ_enb hk)
  have HBD : Hid (∀ k : Jn, folJ c = some k → c.bds = ((c.bds.toNat : Nat) : Int) ∧ c.bds.toNat ≤ 12) := fun k hk => by
    have := vcB_act (folJ_some hk).1
    omega
  generalize StrPost c w = PP at *
  clear h
  obtain ⟨FE, hFE⟩ : ∃ FE, FE = folE c := ⟨_, rfl⟩
  rw [← hFE] at HF HP1
  clear hFE
  obtain ⟨ND, hND⟩ : ∃ ND, ND = c.bds.toNat := ⟨_, rfl⟩
  rw [← hND] at HP2 HBD
  clear hND
  obtain ⟨CC, hCC⟩ : ∃ CC, CC = c := ⟨_, rfl⟩
  rw [← hCC] at HP1 HP2 HEN HBD
  have HCC := Lib.hid hCC
  clear hCC
  obtain ⟨cbks, cbds, caa, cac, cacts, cda, cdc, cduties, cen⟩ := c
  unfold Cv.v at *
  dsimp only at *
  have g0 : G w (w.alloc (.cells #[.int .i64 cbks, .int .i64 cbds, .slice caa cacts.length cac, .slice cda cduties.length cdc, .int .i64 cen] 25)) := (G.rf _).a _
  have b0 : Blk (w.alloc (.cells #[.int .i64 cbks, .int .i64 cbds, .slice caa cacts.length cac, .slice cda cduties.length cdc, .int .i64 cen] 25)) w.heap.size 25 #[.int .i64 cbks, .int .i64 cbds, .slice caa cacts.length cac, .slice cda cduties.length cdc, .int .i64 cen] := Blk.new _ _ _
  have m0 := b0.cell 0
  have m1 := b0.cell 1
  have m2 := b0.cell 2
  have m3 := b0.cell 3
  have m4 := b0.cell 4
  have l0 := b0.lt
  go_enter Tryz.func11, Tryz.ntmps11
  go_upto_region 2 with (go_at_call 32; refine (HF.out _ g0).mono ?_; rintro e w1 ⟨hG1, ⟨hn, hne, rfl⟩ | ⟨k, J, m, P, pa, pc, qa, qc, hk, rfl, hF1⟩⟩)
  · have HZ := Lib.hid (HP1.out (by rw [HCC.out]; exact hn) w1 (g0.t hG1))
    have hneb : ¬ FE = 0 := hne
    clear HP1 HP2 HF hn m0 m1 m2 m3 m4 l0 hne HEN HBD
    go_wp2_with fail
    go_ret3
    exact HZ.out
  · have hg1 := g0.t hG1
    rw [← HCC.out] at hk hF1
    have hen := HEN.out k hk
    obtain ⟨hb1, hb2⟩ := HBD.out k hk
    have HF1 := Lib.hid hF1
    have HZ := Lib.hid (HP2.out k hk)
    clear hk m0 m1 m2 m3 m4 l0 HF HP1 HP2 HEN HBD b0
    have hbc : w1.cell? ⟨J, 1, none⟩ = some (.int .i64 (ND : Nat)) := by rw [hF1.bj.cell 1, ← hb1]; rfl
    have HBR := Lib.hid (fun (W : World) (hW : G w1 W) => broken_any W (hF1.keep hW).jt)
    have HS1 := Lib.hid (fun (W : World) (hW : G w1 W) (ba : Option Addr) (bc : Nat) (P' : Nat → Nat) (hq : PsAt W ba (brk k.ps) P') => struck_any (brk k.ps) P' ba bc ND W (hF1.keep hW).jt hq (by rw [brk_len]; exact Nat.le_trans (brkI_len _) hF1.jt.np) hen.brk.ok (((bcellB hW).1 J 1 hF1.jt.lt).trans hbc) (by omega))
    have HS2 := Lib.hid (fun (W : World) (hW : G w1 W) => struck_any k.ps P qa qc ND W (hF1.keep hW).jt (hF1.keep hW).jt.rp hF1.jt.np hen.ok (((bcellB hW).1 J 1 hF1.jt.lt).trans hbc) (by omega))
    have c6 := hF1.jt.c6
    have lJ := hF1.jt.lt
    have HC6 := Lib.hid (fun (W : World) (hW : G w1 W) => ((bcellB hW).1 J 6 lJ).trans c6)
    clear hbc hen hF1 hb1
    go_upto_region 4 with fail
    refine wp_region_Y (S := fun W' => G w1 W') 12 13 rfl (by kernel_rfl) ((G.rf w1).d) (fun hS => ?_)
    have gg : G w1 w1.drew := (G.rf w1).d
    have hsz := gg.size
    generalize w1.drew = WD at *
    refine wpAnyY_take (i := 0) (v := ?_) rfl (by kernel_rfl) (by kernel_rfl) (by kernel_rfl) (by kernel_rfl) (fun _ _ _ h => h) (Or.inl ⟨by kernel_rfl, ?_⟩) hS ?_
    rotate_left
    · intro w' hSw; go_simp; with_reducible rfl
    try simp only [Act.put, zzA, zzB, zzC, zzD, zzE, zzF]
    refine wpAnyY_take (i := 1) (v := ?_) rfl (by kernel_rfl) (by kernel_rfl) (by kernel_rfl) (by kernel_rfl) (fun _ _ _ h => h) (Or.inl ⟨by kernel_rfl, ?_⟩) hS ?_
    rotate_left
    · intro w' hSw; go_simp; with_reducible rfl
    try simp only [Act.put, zzA, zzB, zzC, zzD, zzE, zzF]
    refine wpAnyY_take (i := 4) (v := ?_) rfl (by kernel_rfl) (by kernel_rfl) (by kernel_rfl) (by kernel_rfl) (fun _ _ _ h => h) (Or.inl ⟨by kernel_rfl, ?_⟩) hS ?_
    rotate_left
    · intro w' hSw; go_simp; with_reducible rfl
    try simp only [Act.put, zzA, zzB, zzC, zzD, zzE, zzF]
    refine wpAnyY_take (i := 5) (v := ?_) rfl (by kernel_rfl) (by kernel_rfl) (by kernel_rfl) (by kernel_rfl) (fun _ _ _ h => h) (Or.inl ⟨by kernel_rfl, ?_⟩) hS ?_
    rotate_left
    · intro w' hSw; go_simp; with_reducible rfl
    try simp only [Act.put, zzA, zzB, zzC, zzD, zzE, zzF]
    refine wpAnyY_take (i := 6) (v := ?_) rfl (by kernel_rfl) (by kernel_rfl) (by kernel_rfl) (by kernel_rfl) (fun _ _ _ h => h) (Or.inl ⟨by kernel_rfl, ?_⟩) hS ?_
    rotate_left
    · intro w' hSw; go_simp; with_reducible rfl
    try simp only [Act.put, zzA, zzB, zzC, zzD, zzE, zzF]
    refine wpAnyY_take (i := 7) (v := ?_) rfl (by kernel_rfl) (by kernel_rfl) (by kernel_rfl) (by kernel_rfl) (fun _ _ _ h => h) (Or.inl ⟨by kernel_rfl, ?_⟩) hS ?_
    rotate_left
    · intro w' hSw; go_simp; with_reducible rfl
    try simp only [Act.put, zzA, zzB, zzC, zzD, zzE, zzF]
    refine wpAnyY_take (i := 8) (v := ?_) rfl (by kernel_rfl) (by kernel_rfl) (by kernel_rfl) (by kernel_rfl) (fun _ _ _ h => h) (Or.inl ⟨by kernel_rfl, ?_⟩) hS ?_
    rotate_left
    · intro w' hSw; have c6 := HC6.out _ hSw; have lJ2 := Nat.lt_of_lt_of_le lJ hSw.size; go_simp; with_reducible rfl
    try simp only [Act.put, zzA, zzB, zzC, zzD, zzE, zzF]
    refine wpAnyY_oneSW (i := 2) (by kernel_rfl) rfl (by kernel_rfl) (fun K2 hK2 => ?_)
    go_simp
    refine (HBR.out _ gg).mono ?_
    rintro e w2 ⟨ba, bc, P', rfl, hq, hG2⟩
    refine hK2.out _ _ (gg.t hG2) (fun hS => ?_)
    replace gg := gg.t hG2
    clear hK2
    try simp only [Act.put, zzA, zzB, zzC, zzD, zzE, zzF]
    have hq2 := Lib.hid hq
    clear hq
    refine wpAnyY_oneSW (i := 3) (by kernel_rfl) rfl (by kernel_rfl) (fun K3 hK3 => ?_)
    go_simp
    refine (HS1.out _ gg ba bc P' hq2.out).mono ?_
    rintro e w3 ⟨v1, rfl, ho1, hG3⟩
    refine hK3.out _ _ (gg.t hG3) (fun hS => ?_)
    replace gg := gg.t hG3
    clear hK3
    try simp only [Act.put, zzA, zzB, zzC, zzD, zzE, zzF]
    have HO1 : Hid (w3.ownsRow w.heap.size 3 1 v1 (struckL k.past k.ps (brk k.ps) ND).length (iv (struckL k.past k.ps (brk k.ps) ND))) := own_weaken ho1 (Nat.le_trans hg1.size (Nat.le_trans hsz hG2.size))
    clear ho1
    refine wpAnyY_oneSW (i := 9) (by kernel_rfl) rfl (by kernel_rfl) (fun K9 hK9 => ?_)
    go_simp
    refine (HS2.out _ gg).mono ?_
    rintro e w4 ⟨v2, rfl, ho2, hG4⟩
    refine hK9.out _ _ (gg.t hG4) (fun hS => ?_)
    replace gg := gg.t hG4
    clear hK9
    try simp only [Act.put, zzA, zzB, zzC, zzD, zzE, zzF]
    have HO2 : Hid (w4.ownsRow w.heap.size 3 1 v2 (struckL k.past k.ps k.ps ND).length (iv (struckL k.past k.ps k.ps ND))) := own_weaken ho2 (Nat.le_trans hg1.size (Nat.le_trans hsz (Nat.le_trans hG2.size hG3.size)))
    have HO3 := Lib.hid (own_G HO1.out hG4)
    have HQ := Lib.hid (HZ.out w4 v1 v2 HO3.out HO2.out (hg1.t gg))
    clear ho2 HO1 HO2 HO3 HZ
    refine wpAnyY_take (i := 10) (v := ?_) rfl (by kernel_rfl) (by kernel_rfl) (by kernel_rfl) (by kernel_rfl) (fun _ _ _ h => h) (Or.inl ⟨by kernel_rfl, ?_⟩) hS ?_
    rotate_left
    · intro w' hSw; go_simp; with_reducible rfl
    try simp only [Act.put, zzA, zzB, zzC, zzD, zzE, zzF]
    refine wpAnyY_take (i := 11) (v := ?_) rfl (by kernel_rfl) (by kernel_rfl) (by kernel_rfl) (by kernel_rfl) (fun _ _ _ h => h) (Or.inl ⟨by kernel_rfl, ?_⟩) hS ?_
    rotate_left
    · intro w' hSw; go_simp; with_reducible rfl
    try simp only [Act.put, zzA, zzB, zzC, zzD, zzE, zzF]
    refine wpAnyY_oneW (i := 12) (by kernel_rfl) rfl (by kernel_rfl) (by kernel_rfl) (fun K12 hK12 => ?_)
    go_simp
    refine hK12.out _ _ ?_
    clear hK12
    try simp only [Act.put, zzA, zzB, zzC, zzD, zzE, zzF]
    refine wpAnyY_done (by kernel_rfl) ?_ _
    clear hS
    go_wp2_with fail
    go_ret3
    exact HQ.out
end Go.Proofs.YtabnpimidhlbiaaGreat

