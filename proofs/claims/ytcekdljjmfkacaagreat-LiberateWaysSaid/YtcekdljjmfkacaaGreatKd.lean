import Derived.Test.YtcekdljjmfkacaaGreatKa
import Derived.Test.YtcekdljjmfkacaaGreatKc
import Derived.ProofKit
import Derived.OpenShut
import Derived.Lib.SmallJoins
import Derived.Deep.Slices
import Derived.Laws.AppendOwnNone
import Derived.Laws.AppendOwn
import Derived.Deep.AppendLies
set_option linter.unusedSimpArgs false
set_option linter.unusedVariables false
namespace Go.Proofs.YtcekdljjmfkacaaGreat
open Go.RowKit

theorem within_any (n lo hi : Int) (w : World) : Calls Tryz.prog 83 #[.int .i64 n, .int .i64 lo, .int .i64 hi] w fun e w' =>
    e = .returned (.bool (isInB n lo hi)) ∧ G w w' := by
  by_cases h1 : lo ≤ n
  · go_enter Tryz.func83, Tryz.ntmps83
    go_wp2
    go_ret
    exact ⟨by simp [isInB, h1], G.rf _⟩
  · go_enter Tryz.func83, Tryz.ntmps83
    go_wp2
    go_ret
    exact ⟨by unfold isInB; rw [decide_eq_false (by omega)]; rfl, G.rf _⟩
set_option maxHeartbeats 1000000 in
theorem isMap_any (north cols lofts wrong : Int) (east : List Int) (ea sa : Option Addr) (ec sl sc : Nat) (w : World) (he : IntsAt w ea east) (hl : east.length ≤ 9223372036854775807) :
    Calls Tryz.prog 100 #[.agg #[.int .i64 north, .int .i64 cols, .slice ea east.length ec, .int .i64 lofts, .slice sa sl sc, .int .i64 wrong]] w fun e w' =>
    e = .returned (.bool (validMapB north cols east lofts wrong)) ∧ G w w' := by
  go_enter Tryz.func100, Tryz.ntmps100
  go_wp2
  obtain ⟨W0, hW0⟩ : ∃ W0, (w.alloc (.cells #[.int .i64 north, .int .i64 cols, .slice ea east.length ec, .int .i64 lofts, .slice sa sl sc, .int .i64 wrong] 25)) = W0 := ⟨_, rfl⟩
  have hB0 : G w W0 := by rw [← hW0]; exact (G.rf _).a _
  have hsz : W0.heap.size = w.heap.size + 1 := by rw [← hW0]; simp
  have m0 : W0.cell? ⟨w.heap.size, 0, none⟩ = some (.int .i64 north) := by rw [← hW0]; simp
  have m1 : W0.cell? ⟨w.heap.size, 1, none⟩ = some (.int .i64 cols) := by rw [← hW0]; simp
  have m2 : W0.cell? ⟨w.heap.size, 2, none⟩ = some (.slice ea east.length ec) := by rw [← hW0]; simp
  have m3 : W0.cell? ⟨w.heap.size, 3, none⟩ = some (.int .i64 lofts) := by rw [← hW0]; simp
  have m5 : W0.cell? ⟨w.heap.size, 5, none⟩ = some (.int .i64 wrong) := by rw [← hW0]; simp
  rw [hW0]
  clear hW0
  go_loopw [3] (fun i wr => ∃ k : Nat, k ≤ east.length ∧ i = .int .i64 k ∧ Hid ((east.take k).all isScaleB = true) ∧ G W0 wr) (fun i _ => east.length - (intOf i).toNat)
  case atStart => exact ⟨0, Nat.zero_le _, rfl, Lib.hid rfl, G.rf _⟩
  case round =>
    obtain ⟨k, hk, rfl, hall, hb0⟩ := hrel
    obtain ⟨hc, hf⟩ := bcellB hb0
    have hlo : w.heap.size < wr.heap.size := by have := hb0.size; omega
    by_cases hlt : k < east.length
    · have he' := he.below (hB0.t hb0)
      rcases he' with rfl | ⟨b, off, rfl, hbb, hcell⟩
      · simp at hlt
      have hcx := hcell k hlt
      have hs1 := all_take_succ isScaleB east k hlt
      have hs2 := all_false isScaleB east k hlt
      generalize east.getD k 0 = x at hcx hs1 hs2
      clear hcell he
      cases hx : isInB x 1 2000000
      · have H2 := Lib.hid (hs2 hx)
        clear hs1 hs2
        go_wp2_with (go_at_call 83; refine (within_any _ _ _ _).mono ?_; rintro e w' ⟨rfl, hb1⟩)
        go_ret
        exact ⟨by simp [validMapB, H2.out], (hB0.t hb0).t hb1⟩
      · have H1 := Lib.hid hs1
        clear hs1 hs2
        go_wp2_with (go_at_call 83; refine (within_any _ _ _ _).mono ?_; rintro e w' ⟨rfl, hb1⟩)
        exact ⟨⟨k + 1, by omega, by simp, Lib.hid (by rw [H1.out, hall.out, show isScaleB x = true from hx]; rfl), hb0.t hb1⟩, by simp [intOf]; omega⟩
    · have HA : Hid (validMapB north cols east lofts wrong = (isInB east.length 1 10 && (isInB cols 1 10 && (isInB north 1 2000000 && (isInB lofts 1 8 && isInB wrong 0 3))))) := by
        have : east.take k = east := List.take_of_length_le (by omega)
        have h2 := hall.out; rw [this] at h2
        exact (by unfold validMapB; rw [h2]; rfl)
      have hG : G w wr := hB0.t hb0
      clear hall he
      rcases and5 (isInB east.length 1 10) (isInB cols 1 10) (isInB north 1 2000000) (isInB lofts 1 8) (isInB wrong 0 3) with h1 | ⟨h1, h2⟩ | ⟨h1, h2, h3⟩ | ⟨h1, h2, h3, h4⟩ | ⟨h1, h2, h3, h4⟩
      all_goals
        go_wp2_with (first | (go_at_call 83; refine (within_any _ _ _ _).mono ?_; rintro e w' ⟨rfl, hbx⟩; have hcy := (bcellB hbx).1; have hsy : w.heap.size < w'.heap.size := (by have := hbx.size; omega); have hG := G.t hG hbx) | (go_at_call 83; refine (within_any _ _ _ _).mono ?_; rintro e w' ⟨rfl, hbx⟩; have hcy := (bcellB hbx).1; have hsy : w.heap.size < w'.heap.size := (by have := hbx.size; omega); have hG := G.t hG hbx))
        go_ret
        exact ⟨by rw [HA.out]; simp only [*]; rfl, hG⟩

theorem rSpan_any (lo hi last : Int) (w : World) : Calls Tryz.prog 115 #[.agg #[.int .i64 lo, .int .i64 hi], .int .i64 last] w fun e w' =>
    e = .returned (.bool (isSpanB lo hi last)) ∧ G w w' := by
  have h : ¬ 0 ≤ lo ∨ (0 ≤ lo ∧ ¬ lo ≤ hi) ∨ (0 ≤ lo ∧ lo ≤ hi) := by omega
  rcases h with h1 | ⟨h1, h2⟩ | ⟨h1, h2⟩
  all_goals
    go_enter Tryz.func115, Tryz.ntmps115
    go_wp2
    go_ret
    refine ⟨?_, (G.rf _).a _⟩
  · unfold isSpanB; rw [decide_eq_false (by omega)]; rfl
  · unfold isSpanB; rw [decide_eq_true h1, decide_eq_false (p := lo ≤ hi) (by omega)]; rfl
  · unfold isSpanB; rw [decide_eq_true h1, decide_eq_true h2]; rfl

set_option maxHeartbeats 1000000 in
theorem rPlace_any (north cols lofts wrong x y : Int) (ea : Option Addr) (el ec : Nat) (s : Value) (w : World) (hc : 0 ≤ cols ∧ cols ≤ 9223372036854775807) (hel : el ≤ 9223372036854775807) :
    Calls Tryz.prog 53 #[.agg #[.int .i64 north, .int .i64 cols, .slice ea el ec, .int .i64 lofts, s, .int .i64 wrong], .agg #[.int .i64 x, .int .i64 y]] w fun e w' =>
    e = .returned (.bool (isPlaceB cols el x y)) ∧ G w w' := by
  cases h1 : isInB x 0 (cols - 1)
  all_goals
    go_enter Tryz.func53, Tryz.ntmps53
    go_wp2_with fail
    have hG : G w ((w.alloc (.cells #[.int .i64 north, .int .i64 cols, .slice ea el ec, .int .i64 lofts, s, .int .i64 wrong] 25)).alloc (.cells #[.int .i64 x, .int .i64 y] 27)) := ((G.rf _).a _).a _
    have hz : w.heap.size + 1 < ((w.alloc (.cells #[.int .i64 north, .int .i64 cols, .slice ea el ec, .int .i64 lofts, s, .int .i64 wrong] 25)).alloc (.cells #[.int .i64 x, .int .i64 y] 27)).heap.size := by simp
    go_wp2_with (go_at_call 83; refine (within_any _ _ _ _).mono ?_; rintro e w' ⟨rfl, hbx⟩; have hcy := (bcellB hbx).1; have hsy : w.heap.size + 1 < w'.heap.size := (by have := hbx.size; omega); have hs0 : w.heap.size < w'.heap.size := (by omega); have hG := G.t hG hbx)
    go_ret
    exact ⟨by unfold isPlaceB; simp [*], hG⟩
section
variable (north cols lofts wrong loft kind xl xh yl yh ax ay dl dh : Int) (ea : Option Addr) (el ec : Nat) (s : Value) (w : World)
abbrev RsPost : Prop := Calls Tryz.prog 101 #[.agg #[.int .i64 north, .int .i64 cols, .slice ea el ec, .int .i64 lofts, s, .int .i64 wrong], .agg #[.int .i64 loft, .int .i64 kind, .int .i64 xl, .int .i64 xh, .int .i64 yl, .int .i64 yh, .int .i64 ax, .int .i64 ay, .int .i64 dl, .int .i64 dh]] w fun e w' =>
    e = .returned (.bool (validSurveyB cols el lofts loft kind xl xh yl yh ax ay dl dh)) ∧ G w w'
end

set_option maxHeartbeats 4000000 in
theorem rSurvey_any (north cols lofts wrong loft kind xl xh yl yh ax ay dl dh : Int) (ea : Option Addr) (el ec : Nat) (s : Value) (w : World)
    (hc : 0 ≤ cols ∧ cols ≤ 9223372036854775807) (hel : el ≤ 9223372036854775807) (hlo : 0 ≤ lofts ∧ lofts ≤ 9223372036854775807) :
    RsPost north cols lofts wrong loft kind xl xh yl yh ax ay dl dh ea el ec s w := by
  unfold RsPost
  have hG : G w ((w.alloc (.cells #[.int .i64 north, .int .i64 cols, .slice ea el ec, .int .i64 lofts, s, .int .i64 wrong] 25)).alloc (.cells #[.int .i64 loft, .int .i64 kind, .int .i64 xl, .int .i64 xh, .int .i64 yl, .int .i64 yh, .int .i64 ax, .int .i64 ay, .int .i64 dl, .int .i64 dh] 135)) := ((G.rf _).a _).a _
  have hz : w.heap.size + 1 < ((w.alloc (.cells #[.int .i64 north, .int .i64 cols, .slice ea el ec, .int .i64 lofts, s, .int .i64 wrong] 25)).alloc (.cells #[.int .i64 loft, .int .i64 kind, .int .i64 xl, .int .i64 xh, .int .i64 yl, .int .i64 yh, .int .i64 ax, .int .i64 ay, .int .i64 dl, .int .i64 dh] 135)).heap.size := by simp
  have q27 := eq27
  have q46 := eq46
  have key : (isInB loft 0 (lofts - 1) = false) ∨ (isInB loft 0 (lofts - 1) = true ∧ kind = 1) ∨ (isInB loft 0 (lofts - 1) = true ∧ kind = 2) ∨ (isInB loft 0 (lofts - 1) = true ∧ (kind == 1) = false ∧ (kind == 2) = false) := by
    cases isInB loft 0 (lofts - 1)
    · simp
    · by_cases h1 : kind = 1
      · simp [h1]
      · by_cases h2 : kind = 2
        · simp [h2]
        · simp [h1, h2]
  rcases key with h0 | ⟨h0, rfl⟩ | ⟨h0, rfl⟩ | ⟨h0, h1, h2⟩
  · have HV : Hid (validSurveyB cols el lofts loft kind xl xh yl yh ax ay dl dh = false) := by unfold validSurveyB Hid; rw [h0]; rfl
    go_enter Tryz.func101, Tryz.ntmps101
    go_wp2_with (go_at_call 83; refine (within_any _ _ _ _).mono ?_; rintro e w' ⟨rfl, hbx⟩; have hcy := (bcellB hbx).1; have hsy : w.heap.size + 1 < w'.heap.size := (by have := hbx.size; omega); have hs0 : w.heap.size < w'.heap.size := (by omega); have hG := G.t hG hbx)
    go_ret
    exact ⟨by rw [HV.out]; rfl, hG⟩
  · have HV : Hid (validSurveyB cols el lofts loft 1 xl xh yl yh ax ay dl dh = (isSpanB xl xh (cols - 1) && (isSpanB yl yh (el - 1) && ((ax == 0 && ay == 0) && (dl == 0 && dh == 0))))) := by
      unfold validSurveyB Hid; rw [h0, if_pos rfl]; rfl
    rcases and4 (isSpanB xl xh (cols - 1)) (isSpanB yl yh (el - 1)) (ax == 0 && ay == 0) with h1 | ⟨h1, h2⟩ | ⟨h1, h2, h3⟩ | ⟨h1, h2, h3⟩
    all_goals
      go_enter Tryz.func101, Tryz.ntmps101
      go_wp2_with (first | (go_at_call 83; refine (within_any _ _ _ _).mono ?_; rintro e w' ⟨rfl, hbx⟩; have hcy := (bcellB hbx).1; have hsy : w.heap.size + 1 < w'.heap.size := (by have := hbx.size; omega); have hs0 : w.heap.size < w'.heap.size := (by omega); have hG := G.t hG hbx) | (go_at_call 115; refine (rSpan_any _ _ _ _).mono ?_; rintro e w' ⟨rfl, hbx⟩; have hcy := (bcellB hbx).1; have hsy : w.heap.size + 1 < w'.heap.size := (by have := hbx.size; omega); have hs0 : w.heap.size < w'.heap.size := (by omega); have hG := G.t hG hbx) | (go_at_call 53; refine (rPlace_any _ _ _ _ _ _ _ _ _ _ _ hc hel).mono ?_; rintro e w' ⟨rfl, hbx⟩; have hcy := (bcellB hbx).1; have hsy : w.heap.size + 1 < w'.heap.size := (by have := hbx.size; omega); have hs0 : w.heap.size < w'.heap.size := (by omega); have hG := G.t hG hbx))
      go_ret
      exact ⟨by rw [HV.out]; simp [*], hG⟩
  · have HV : Hid (validSurveyB cols el lofts loft 2 xl xh yl yh ax ay dl dh = ((xl == 0 && xh == 0) && ((yl == 0 && yh == 0) && (isPlaceB cols el ax ay && isSpanB dl dh 100000000)))) := by
      unfold validSurveyB Hid; rw [h0, if_neg (by decide), if_pos rfl]; rfl
    rcases and4 (xl == 0 && xh == 0) (yl == 0 && yh == 0) (isPlaceB cols el ax ay) with h1 | ⟨h1, h2⟩ | ⟨h1, h2, h3⟩ | ⟨h1, h2, h3⟩
    all_goals
      go_enter Tryz.func101, Tryz.ntmps101
      go_wp2_with (first | (go_at_call 83; refine (within_any _ _ _ _).mono ?_; rintro e w' ⟨rfl, hbx⟩; have hcy := (bcellB hbx).1; have hsy : w.heap.size + 1 < w'.heap.size := (by have := hbx.size; omega); have hs0 : w.heap.size < w'.heap.size := (by omega); have hG := G.t hG hbx) | (go_at_call 115; refine (rSpan_any _ _ _ _).mono ?_; rintro e w' ⟨rfl, hbx⟩; have hcy := (bcellB hbx).1; have hsy : w.heap.size + 1 < w'.heap.size := (by have := hbx.size; omega); have hs0 : w.heap.size < w'.heap.size := (by omega); have hG := G.t hG hbx) | (go_at_call 53; refine (rPlace_any _ _ _ _ _ _ _ _ _ _ _ hc hel).mono ?_; rintro e w' ⟨rfl, hbx⟩; have hcy := (bcellB hbx).1; have hsy : w.heap.size + 1 < w'.heap.size := (by have := hbx.size; omega); have hs0 : w.heap.size < w'.heap.size := (by omega); have hG := G.t hG hbx))
      go_ret
      exact ⟨by rw [HV.out]; simp [*], hG⟩
  · have HV : Hid (validSurveyB cols el lofts loft kind xl xh yl yh ax ay dl dh = false) := by
      unfold validSurveyB Hid; rw [h0, if_neg (by simpa using h1), if_neg (by simpa using h2)]; rfl
    go_enter Tryz.func101, Tryz.ntmps101
    go_wp2_with (go_at_call 83; refine (within_any _ _ _ _).mono ?_; rintro e w' ⟨rfl, hbx⟩; have hcy := (bcellB hbx).1; have hsy : w.heap.size + 1 < w'.heap.size := (by have := hbx.size; omega); have hs0 : w.heap.size < w'.heap.size := (by omega); have hG := G.t hG hbx)
    go_ret
    exact ⟨by rw [HV.out]; rfl, hG⟩
end Go.Proofs.YtcekdljjmfkacaaGreat
set_option linter.unusedSimpArgs false
set_option linter.unusedVariables false
namespace Go.Proofs.YtcekdljjmfkacaaGreat
open Go.RowKit
attribute [local go_sem] Oper.semAt_some

set_option maxHeartbeats 4000000 in
theorem rCheck_any (north cols lofts wrong : Int) (east : List Int) (svs : List Sv) (ea sa : Option Addr) (ec sc : Nat) (w : World) (he : IntsAt w ea east) (hs : SvsAt w sa svs)
    (hl : east.length ≤ 9223372036854775807) (hl2 : svs.length ≤ 9223372036854775807) :
    Calls Tryz.prog 74 #[.agg #[.int .i64 north, .int .i64 cols, .slice ea east.length ec, .int .i64 lofts, .slice sa svs.length sc, .int .i64 wrong]] w fun e w' =>
    e = .returned (.int .i64 (checkE north cols east lofts svs wrong)) ∧ G w w' := by
  cases hv : validMapB north cols east lofts wrong
  · have HV : Hid (checkE north cols east lofts svs wrong = 20) := by unfold checkE Hid; rw [if_pos hv]
    go_enter Tryz.func74, Tryz.ntmps74
    go_wp2_with (go_at_call 100; refine (isMap_any _ _ _ _ _ _ _ _ _ _ _ (he.below ((G.rf _).a _)) hl).mono ?_; rintro e w' ⟨rfl, hbx⟩)
    go_ret
    exact ⟨by rw [HV.out]; rfl, ((G.rf _).a _).t hbx⟩
  · have hvb := vm_bounds hv
    have hcb : 0 ≤ cols ∧ cols ≤ 9223372036854775807 := by omega
    have hlb : 0 ≤ lofts ∧ lofts ≤ 9223372036854775807 := by omega
    clear hvb
    by_cases hn : svs.length > 16
    · have HV : Hid (checkE north cols east lofts svs wrong = 21) := by unfold checkE Hid; rw [if_neg (by rw [hv]; simp), if_pos hn]
      go_enter Tryz.func74, Tryz.ntmps74
      go_wp2_with (go_at_call 100; refine (isMap_any _ _ _ _ _ _ _ _ _ _ _ (he.below ((G.rf _).a _)) hl).mono ?_; rintro e w' ⟨rfl, hbx⟩; have hcy := (bcellB hbx).1; have hs0 : w.heap.size < w'.heap.size := (by have := hbx.size; simp at this; omega))
      go_ret
      exact ⟨by rw [HV.out]; rfl, ((G.rf _).a _).t hbx⟩
    · have HV : Hid (checkE north cols east lofts svs wrong = if svs.all (svOk cols east.length lofts) then 0 else 21) := by unfold checkE Hid; rw [if_neg (by rw [hv]; simp), if_neg hn]
      go_enter Tryz.func74, Tryz.ntmps74
      go_wp2_with (go_at_call 100; refine (isMap_any _ _ _ _ _ _ _ _ _ _ _ (he.below ((G.rf _).a _)) hl).mono ?_; rintro e w' ⟨rfl, hbx⟩; have bM := (Blk.new w 25 #[.int .i64 north, .int .i64 cols, .slice ea east.length ec, .int .i64 lofts, .slice sa svs.length sc, .int .i64 wrong]).keep hbx; have m4 := bM.cell 4; have hG := G.t ((G.rf _).a _) hbx; clear hbx)
      obtain ⟨w1, rfl⟩ : ∃ w1, w1 = w' := ⟨_, rfl⟩
      go_loopw [3] (fun i wr => ∃ k : Nat, k ≤ svs.length ∧ i = .int .i64 k ∧ Hid ((svs.take k).all (svOk cols east.length lofts) = true) ∧ G w1 wr) (fun i _ => svs.length - (intOf i).toNat)
      case atStart => exact ⟨0, Nat.zero_le _, rfl, Lib.hid rfl, G.rf _⟩
      case round =>
        obtain ⟨k, hk, rfl, hall, hb0⟩ := hrel
        have bR := bM.keep hb0
        have m4 := bR.cell 4
        by_cases hlt : k < svs.length
        · have hs' := hs.below (hG.t hb0)
          rcases hs' with rfl | ⟨b, off, rfl, hbb, hcell⟩
          · simp at hlt
          have hki : (k : Int) < svs.length := by omega
          have hcx := hcell k hlt
          have hs1 := all_take_succ' (svOk cols east.length lofts) svs k hlt
          have hs2 := all_false' (svOk cols east.length lofts) svs k hlt
          generalize svs.getD k default = x at hcx hs1 hs2
          clear hcell hs he bM
          have H1 := Lib.hid hs1
          have H2 := Lib.hid hs2
          clear hs1 hs2
          go_wp2
          refine wp_region_Y (S := fun W' => Blk W' w.heap.size 25 #[.int .i64 north, .int .i64 cols, .slice ea east.length ec, .int .i64 lofts, .slice (some ⟨b, off, none⟩) svs.length sc, .int .i64 wrong] ∧ SvCells W' b (off + k * 10) x) 6 8 rfl (by kernel_rfl) ⟨bR, hcx⟩ (fun hS => ?_)
          obtain ⟨Sp, hSp⟩ : ∃ Sp : World → Prop, Sp = fun W' => Blk W' w.heap.size 25 #[.int .i64 north, .int .i64 cols, .slice ea east.length ec, .int .i64 lofts, .slice (some ⟨b, off, none⟩) svs.length sc, .int .i64 wrong] ∧ SvCells W' b (off + k * 10) x := ⟨_, rfl⟩
          refine wpAnyY_take (i := 0) (v := ?_) rfl (by kernel_rfl) (by kernel_rfl) (by kernel_rfl) (by kernel_rfl) (fun _ _ _ h => h) (Or.inl ⟨by kernel_rfl, ?_⟩) (by assumption) ?_
          rotate_left
          · intro w' hSw; have i0 := hSw.1.cell 0; have i1 := hSw.1.cell 1; have i2 := hSw.1.cell 2; have i3 := hSw.1.cell 3; have i4 := hSw.1.cell 4; have i5 := hSw.1.cell 5; go_simp; with_reducible rfl
          try simp only [Act.put, List.setIfInBounds_toArray, List.set_cons_zero, List.set_cons_succ]
          refine wpAnyY_take (i := 1) (v := ?_) rfl (by kernel_rfl) (by kernel_rfl) (by kernel_rfl) (by kernel_rfl) (fun _ _ _ h => h) (Or.inl ⟨by kernel_rfl, ?_⟩) (by assumption) ?_
          rotate_left
          · intro w' hSw; go_simp; with_reducible rfl
          try simp only [Act.put, List.setIfInBounds_toArray, List.set_cons_zero, List.set_cons_succ]
          refine wpAnyY_take (i := 2) (v := ?_) rfl (by kernel_rfl) (by kernel_rfl) (by kernel_rfl) (by kernel_rfl) (fun _ _ _ h => h) (Or.inl ⟨by kernel_rfl, ?_⟩) (by assumption) ?_
          rotate_left
          · intro w' hSw; have i0 := hSw.1.cell 0; have i1 := hSw.1.cell 1; have i2 := hSw.1.cell 2; have i3 := hSw.1.cell 3; have i4 := hSw.1.cell 4; have i5 := hSw.1.cell 5; go_simp; with_reducible rfl
          try simp only [Act.put, List.setIfInBounds_toArray, List.set_cons_zero, List.set_cons_succ]
          refine wpAnyY_take (i := 3) (v := ?_) rfl (by kernel_rfl) (by kernel_rfl) (by kernel_rfl) (by kernel_rfl) (fun _ _ _ h => h) (Or.inl ⟨by kernel_rfl, ?_⟩) (by assumption) ?_
          rotate_left
          · intro w' hSw; go_simp; with_reducible rfl
          try simp only [Act.put, List.setIfInBounds_toArray, List.set_cons_zero, List.set_cons_succ]
          refine wpAnyY_take (i := 4) (v := ?_) rfl (by kernel_rfl) (by kernel_rfl) (by kernel_rfl) (by kernel_rfl) (fun _ _ _ h => h) (Or.inl ⟨by kernel_rfl, ?_⟩) (by assumption) ?_
          rotate_left
          · intro w' hSw; go_simp; with_reducible rfl
          try simp only [Act.put, List.setIfInBounds_toArray, List.set_cons_zero, List.set_cons_succ]
          refine wpAnyY_take (i := 5) (v := ?_) rfl (by kernel_rfl) (by kernel_rfl) (by kernel_rfl) (by kernel_rfl) (fun _ _ _ h => h) (Or.inl ⟨by kernel_rfl, ?_⟩) (by assumption) ?_
          rotate_left
          · intro w' hSw; obtain ⟨y0, y1, y2, y3, y4, y5, y6, y7, y8, y9⟩ := hSw.2; go_simp; with_reducible rfl
          try simp only [Act.put, List.setIfInBounds_toArray, List.set_cons_zero, List.set_cons_succ]
          refine wpAnyY_oneW (i := 6) (by kernel_rfl) rfl (by kernel_rfl) (by kernel_rfl) (fun K6 hK6 => ?_)
          go_simp
          refine (rSurvey_any _ _ _ _ _ _ _ _ _ _ _ _ _ _ _ _ _ _ _ hcb hl hlb).mono ?_
          rintro e w2 ⟨rfl, hbx⟩
          have hG2 := (hb0.d).t hbx
          rw [show validSurveyB cols east.length lofts x.loft x.kind x.xl x.xh x.yl x.yh x.ax x.ay x.dl x.dh = svOk cols east.length lofts x from rfl]
          clear hbx hS
          cases hx : svOk cols east.length lofts x
          · refine hK6.out _ _ ?_
            try simp only [Act.put, List.setIfInBounds_toArray, List.set_cons_zero, List.set_cons_succ]
            refine wpAnyY_oneW (i := 7) (by kernel_rfl) rfl (by kernel_rfl) (by kernel_rfl) (fun K7 hK7 => ?_)
            go_simp
            refine hK7.out _ _ ?_
            try simp only [Act.put, List.setIfInBounds_toArray, List.set_cons_zero, List.set_cons_succ]
            refine wpAnyY_done (by kernel_rfl) ?_ _
            go_wp2
            go_ret
            exact ⟨by rw [HV.out, H2.out hx]; rfl, hG.t hG2⟩
          · refine hK6.out _ _ ?_
            try simp only [Act.put, List.setIfInBounds_toArray, List.set_cons_zero, List.set_cons_succ]
            refine wpAnyY_oneW (i := 7) (by kernel_rfl) rfl (by kernel_rfl) (by kernel_rfl) (fun K7 hK7 => ?_)
            go_simp
            refine hK7.out _ _ ?_
            try simp only [Act.put, List.setIfInBounds_toArray, List.set_cons_zero, List.set_cons_succ]
            refine wpAnyY_done (by kernel_rfl) ?_ _
            go_wp2
            exact ⟨⟨k + 1, by omega, by simp, Lib.hid (by rw [H1.out, hall.out, hx]; rfl), hG2⟩, by simp [intOf]; omega⟩
        · have HA : Hid (svs.all (svOk cols east.length lofts) = true) := by
            have h2 := hall.out; rw [List.take_of_length_le (by omega)] at h2; exact h2
          go_wp2
          go_ret
          exact ⟨by rw [HV.out, HA.out]; rfl, hG.t hb0⟩
end Go.Proofs.YtcekdljjmfkacaaGreat
set_option linter.unusedSimpArgs false
set_option linter.unusedVariables false
namespace Go.Proofs.YtcekdljjmfkacaaGreat
open Go.RowKit
attribute [local go_sem] Oper.semAt_some

def exEast : List Int := [800, 700, 600]
def exSvs : List Sv := [⟨0, 1, 0, 1, 0, 0, 0, 0, 0, 0⟩, ⟨0, 2, 0, 0, 0, 0, 3, 0, 1601, 2400⟩, ⟨1, 1, 2, 3, 1, 2, 0, 0, 0, 0⟩, ⟨1, 2, 0, 0, 0, 0, 0, 0, 1800, 2300⟩]
def exCells : Array Value := #[.int .i64 0, .int .i64 1, .int .i64 0, .int .i64 1, .int .i64 0, .int .i64 0, .int .i64 0, .int .i64 0, .int .i64 0, .int .i64 0, .int .i64 0, .int .i64 2, .int .i64 0, .int .i64 0, .int .i64 0, .int .i64 0, .int .i64 3, .int .i64 0, .int .i64 1601, .int .i64 2400, .int .i64 1, .int .i64 1, .int .i64 2, .int .i64 3, .int .i64 1, .int .i64 2, .int .i64 0, .int .i64 0, .int .i64 0, .int .i64 0, .int .i64 1, .int .i64 2, .int .i64 0, .int .i64 0, .int .i64 0, .int .i64 0, .int .i64 0, .int .i64 0, .int .i64 1800, .int .i64 2300]
theorem res52 (tmps : Array Value) (w : World) (g : Nat) (v0 v1 v2 v3 v4 v5 : Value) (h : tmps.getD 0 undef = .pointer (some ⟨g, 0, none⟩)) (c0 : w.cell? ⟨g, 0, none⟩ = some v0) (c1 : w.cell? ⟨g, 1, none⟩ = some v1)
    (c2 : w.cell? ⟨g, 2, none⟩ = some v2) (c3 : w.cell? ⟨g, 3, none⟩ = some v3) (c4 : w.cell? ⟨g, 4, none⟩ = some v4) (c5 : w.cell? ⟨g, 5, none⟩ = some v5) :
    (results Tryz.f63 tmps).run Tryz.prog w = .ok (.agg #[v0, v1, v2, v3, v4, v5]) w := by
  have hr : Tryz.f63.results = #[.cell 0 25] := rfl
  have h' : tmps[0]?.getD undef = .pointer (some ⟨g, 0, none⟩) := by simpa using h
  simp only [results, hr]
  go_simp

set_option maxRecDepth 100000 in
set_option maxHeartbeats 4000000 in
theorem Example_any (w : World) : Calls Tryz.prog 63 #[] w fun e w' => ∃ gE gS, e = .returned (.agg #[.int .i64 1000, .int .i64 4, .slice (some ⟨gE, 0, none⟩) 3 3, .int .i64 2, .slice (some ⟨gS, 0, none⟩) 4 4, .int .i64 0]) ∧ G w w' ∧
    IntsAt w' (some ⟨gE, 0, none⟩) exEast ∧ SvsAt w' (some ⟨gS, 0, none⟩) exSvs := by
  go_enter Tryz.func63, Tryz.ntmps63
  go_wp2
  have B0 := ((Blk.new w 25 #[.int .i64 1000, .int .i64 4, .slice (some ⟨w.heap.size + 1, 0, none⟩) 3 3, .int .i64 2, .slice (some ⟨w.heap.size + 1 + 1, 0, none⟩) 4 4, .int .i64 0]).alloc (.cells #[.int .i64 800, .int .i64 700, .int .i64 600] 3)).alloc (.cells exCells 135)
  have B1 := (Blk.new1 w (.cells #[.int .i64 1000, .int .i64 4, .slice (some ⟨w.heap.size + 1, 0, none⟩) 3 3, .int .i64 2, .slice (some ⟨w.heap.size + 1 + 1, 0, none⟩) 4 4, .int .i64 0] 25) 3 #[.int .i64 800, .int .i64 700, .int .i64 600]).alloc (.cells exCells 135)
  have B2 := Blk.new2 w (.cells #[.int .i64 1000, .int .i64 4, .slice (some ⟨w.heap.size + 1, 0, none⟩) 3 3, .int .i64 2, .slice (some ⟨w.heap.size + 1 + 1, 0, none⟩) 4 4, .int .i64 0] 25) (.cells #[.int .i64 800, .int .i64 700, .int .i64 600] 3) 135 exCells
  refine bodyPost_ret (res52 _ _ w.heap.size _ _ _ _ _ _ rfl (B0.cell 0) (B0.cell 1) (B0.cell 2) (B0.cell 3) (B0.cell 4) (B0.cell 5)) rfl ?_
  refine ⟨w.heap.size + 1, w.heap.size + 1 + 1, rfl, (((G.rf w).a _).a _).a _, .inr ⟨_, 0, rfl, B1.lt, fun k hk => ?_⟩, .inr ⟨_, 0, rfl, B2.lt, fun k hk => ?_⟩⟩
  · have e := fun o => B1.cell o
    match k, hk with
    | 0, _ => exact e _
    | 1, _ => exact e _
    | 2, _ => exact e _
  · have e := fun o => B2.cell o
    match k, hk with
    | 0, _ => exact ⟨e _, e _, e _, e _, e _, e _, e _, e _, e _, e _⟩
    | 1, _ => exact ⟨e _, e _, e _, e _, e _, e _, e _, e _, e _, e _⟩
    | 2, _ => exact ⟨e _, e _, e _, e _, e _, e _, e _, e _, e _, e _⟩
    | 3, _ => exact ⟨e _, e _, e _, e _, e _, e _, e _, e _, e _, e _⟩
end Go.Proofs.YtcekdljjmfkacaaGreat
set_option linter.unusedSimpArgs false
set_option linter.unusedVariables false
namespace Go.Proofs.YtcekdljjmfkacaaGreat
open Go.RowKit
attribute [local go_sem] Oper.semAt_some
theorem ex_check : checkE 1000 (4 : Nat) exEast (2 : Nat) exSvs 1 = 0 := by decide +kernel
theorem ex_many : manyV 1000 1 4 2 exEast exSvs = 10 := by decide +kernel
theorem ex_few : fewSum 1000 4 exEast exSvs 2 = 0 := by decide +kernel
theorem ex_ne : (settleL (spotsOf 1000 4 exEast exSvs) [0, 1] (fun _ => (0, 0)) 1).isEmpty = false := by decide +kernel
theorem ex_len : rnd 2 (sqI 1000 exEast 0 0 2 1).toNat = 1803 := by decide +kernel

section
variable {gE gS : Nat} {w : World} (he : IntsAt w (some ⟨gE, 0, none⟩) exEast) (hs : SvsAt w (some ⟨gS, 0, none⟩) exSvs)
include he hs
theorem ex_Length : Calls Tryz.prog 78 #[.agg #[.int .i64 1000, .int .i64 4, .slice (some ⟨gE, 0, none⟩) 3 3, .int .i64 2, .slice (some ⟨gS, 0, none⟩) 4 4, .int .i64 1], .agg #[.int .i64 0, .int .i64 0], .agg #[.int .i64 2, .int .i64 1], .int .i64 2] w fun e w' =>
    e = .returned (.tuple #[.int .i64 1803, .int .i64 0]) ∧ G w w' := by
  have h := Length_ok (north := 1000) (cols := (4 : Nat)) (lofts := (2 : Nat)) (wrong := 1) (ax := 0) (bx := 2) (east := exEast) (svs := exSvs) (ea := some ⟨gE, 0, none⟩) (sa := some ⟨gS, 0, none⟩) (ec := 3) (sc := 4) (w := w) 2 0 1 he hs (by decide) (by decide) ex_check (by omega) (by decide) (by decide)
  have e : rnd 2 (sqI 1000 exEast 0 (0 : Nat) 2 (1 : Nat)).toNat = 1803 := ex_len
  rw [e] at h
  exact h
end

end Go.Proofs.YtcekdljjmfkacaaGreat
set_option linter.unusedSimpArgs false
set_option linter.unusedVariables false
namespace Go.Proofs.YtcekdljjmfkacaaGreat
open Go.RowKit
attribute [local go_sem] Oper.semAt_some

theorem sq_neg (x y : Int) : (x - y) * (x - y) = (y - x) * (y - x) := by
  have : x - y = -(y - x) := by omega
  rw [this, Int.neg_mul_neg]
theorem sqI_comm (north : Int) (east : List Int) (ax ay bx bY : Int) : sqI north east ax ay bx bY = sqI north east bx bY ax ay := by
  unfold sqI
  have e1 : 2 * north * (ay - bY) = -(2 * north * (bY - ay)) := by rw [← Int.mul_neg]; congr 1; omega
  have e2 : (east.getD ay.toNat 0 + east.getD bY.toNat 0) * (ax - bx) = -((east.getD bY.toNat 0 + east.getD ay.toNat 0) * (bx - ax)) := by
    rw [← Int.mul_neg, Int.add_comm]; congr 1; omega
  rw [e1, e2, Int.neg_mul_neg, Int.neg_mul_neg]

/-- the roundings of the root of n -/
theorem rnd_facts (n : Nat) (hn : n ≤ 2592000000000000) : ∃ (d half more : Nat), rnd 0 n = d ∧ rnd 1 n = d + half ∧ rnd 2 n = d + more ∧ d ≤ 100000000 ∧ 4 * d * d ≤ n ∧ n < 4 * (d + 1) * (d + 1) ∧
    ((half = 1 ∧ (2 * d + 1) * (2 * d + 1) ≤ n) ∨ (half = 0 ∧ n < (2 * d + 1) * (2 * d + 1))) ∧ ((more = 1 ∧ 4 * d * d < n) ∨ (more = 0 ∧ 4 * d * d = n)) := by
  obtain ⟨h1, h2⟩ := rt_spec n (by omega)
  have hle := rt_le n 60000000 (by omega) (by omega)
  obtain ⟨d, hd⟩ : ∃ d, d = rt n / 2 := ⟨_, rfl⟩
  obtain ⟨S, hS⟩ : ∃ S, S = d * d := ⟨_, rfl⟩
  have e1 : (2 * d) * (2 * d) = 4 * S := by rw [hS]; exact Nat.mul_mul_mul_comm 2 d 2 d
  have e2 : (2 * d + 1) * (2 * d + 1) = 4 * S + 4 * d + 1 := by rw [Nat.add_mul, Nat.mul_add, e1]; omega
  have e3 : (2 * d + 1 + 1) * (2 * d + 1 + 1) = 4 * S + 8 * d + 4 := by rw [Nat.add_mul, Nat.mul_add, e2]; omega
  have e4 : 4 * d * d = 4 * S := by rw [hS, Nat.mul_assoc]
  have e5 : 4 * (d + 1) * (d + 1) = 4 * S + 8 * d + 4 := by
    have : (d + 1) * (d + 1) = S + 2 * d + 1 := by rw [Nat.add_mul, Nat.mul_add, ← hS]; omega
    rw [Nat.mul_assoc, this]; omega
  have h0 : rnd 0 n = d := by unfold rnd; rw [if_pos rfl, hd]
  have hn1 : rnd 1 n = (rt n + 1) / 2 := by unfold rnd; rw [if_neg (by omega), if_pos rfl]
  have hn2 : rnd 2 n = (rtUp n + 1) / 2 := by unfold rnd; rw [if_neg (by omega), if_neg (by omega)]
  have hr : rt n = 2 * d ∨ rt n = 2 * d + 1 := by omega
  rcases hr with hr | hr
  · rw [hr] at h1 h2
    rw [e1] at h1
    rw [e2] at h2
    by_cases he : 4 * S = n
    · refine ⟨d, 0, 0, h0, by rw [hn1, hr]; omega, by rw [hn2]; unfold rtUp; rw [if_neg (by rw [hr, e1]; omega), hr]; omega, by omega, by omega, by omega, .inr ⟨rfl, by omega⟩, .inr ⟨rfl, by omega⟩⟩
    · refine ⟨d, 0, 1, h0, by rw [hn1, hr]; omega, by rw [hn2]; unfold rtUp; rw [if_pos (by rw [hr, e1]; omega), hr]; omega, by omega, by omega, by omega, .inr ⟨rfl, by omega⟩, .inl ⟨rfl, by omega⟩⟩
  · rw [hr] at h1 h2
    rw [e2] at h1
    rw [e3] at h2
    refine ⟨d, 1, 1, h0, by rw [hn1, hr]; omega, by rw [hn2]; unfold rtUp; split <;> rw [hr] <;> omega, by omega, by omega, by omega, .inl ⟨rfl, by omega⟩, .inl ⟨rfl, by omega⟩⟩

/-- what the law says, for a map of the document's kind at places of it -/
def mapA (north cols : Int) (ea : Option Addr) (el ec : Nat) (lofts : Int) (sa : Option Addr) (sl sc : Nat) (wrong : Int) : Array Value := #[.int .i64 north, .int .i64 cols, .slice ea el ec, .int .i64 lofts, .slice sa sl sc, .int .i64 wrong]

section
variable (north cols lofts wrong px py qx qy : Int) (east : List Int) (svs : List Sv) (ea sa : Option Addr) (ec sc : Nat) (w : World)
variable (he : IntsAt w ea east) (hs : SvsAt w sa svs) (hl : east.length ≤ 9223372036854775807) (hl2 : svs.length ≤ 9223372036854775807)

theorem w3_spec (w : World) (c0 c1 c2 : Array Value) (t0 t1 t2 : TypeId) :
    G w (((w.alloc (.cells c0 t0)).alloc (.cells c1 t1)).alloc (.cells c2 t2)) ∧ Blk (((w.alloc (.cells c0 t0)).alloc (.cells c1 t1)).alloc (.cells c2 t2)) w.heap.size t0 c0 ∧ Blk (((w.alloc (.cells c0 t0)).alloc (.cells c1 t1)).alloc (.cells c2 t2)) (w.heap.size + 1) t1 c1 ∧ Blk (((w.alloc (.cells c0 t0)).alloc (.cells c1 t1)).alloc (.cells c2 t2)) (w.heap.size + 1 + 1) t2 c2 :=
  ⟨(((G.rf w).a _).a _).a _, ((Blk.new w t0 c0).alloc _).alloc _, (Blk.new1 w _ t1 c1).alloc _, Blk.new2 w _ _ t2 c2⟩

end
end Go.Proofs.YtcekdljjmfkacaaGreat
set_option linter.unusedSimpArgs false
set_option linter.unusedVariables false
namespace Go.Proofs.YtcekdljjmfkacaaGreat
open Go.RowKit Go.ChangeShapes Go.WideShapes Go.ChangeAt
set_option maxRecDepth 100000

theorem k3 : Tryz.prog.cellsOf 3 = 1 := by kernel_rfl
theorem k22 : Tryz.prog.cellsOf 22 = 1 := by kernel_rfl
theorem k23 : Tryz.prog.cellsOf 23 = 1 := by kernel_rfl
theorem k25 : Tryz.prog.cellsOf 25 = 6 := by kernel_rfl
theorem k27 : Tryz.prog.cellsOf 27 = 2 := by kernel_rfl
theorem k46 : Tryz.prog.cellsOf 30 = 2 := by kernel_rfl
theorem k56 : Tryz.prog.cellsOf 135 = 10 := by kernel_rfl

section
variable {H : Type} {enc : TypeId × Value → H} {w : World} {base : Nat} {sp : Nat → Bool} {held : Bool} {fuel : Nat}
theorem span_of {cs : List Value} {x : DataW H × List MemPlace} (h : DataW.trod enc Tryz.prog w base sp held fuel 30 cs = some x) : ∃ a b, cs = [.int .i64 a, .int .i64 b] := by
  obtain ⟨y0, y1, n, rfl, hl, h0, h1⟩ := trod_struct2 Tryz.underlying30 h
  rw [k46] at hl
  match cs, hl with
  | [c0, c1], _ =>
    simp only [k3, List.drop_zero, List.drop_succ_cons, List.take_succ_cons, List.take_zero] at h0 h1
    obtain ⟨a, e0, _, _⟩ := DataW.trod_int Tryz.underlying3 h0
    obtain ⟨b, e1, _, _⟩ := DataW.trod_int Tryz.underlying3 h1
    simp at e0 e1
    exact ⟨a, b, by rw [e0, e1]⟩
theorem point_of {cs : List Value} {x : DataW H × List MemPlace} (h : DataW.trod enc Tryz.prog w base sp held fuel 27 cs = some x) : ∃ a b, cs = [.int .i64 a, .int .i64 b] := by
  obtain ⟨y0, y1, n, rfl, hl, h0, h1⟩ := trod_struct2 Tryz.underlying27 h
  rw [k27] at hl
  match cs, hl with
  | [c0, c1], _ =>
    simp only [k3, List.drop_zero, List.drop_succ_cons, List.take_succ_cons, List.take_zero] at h0 h1
    obtain ⟨a, e0, _, _⟩ := DataW.trod_int Tryz.underlying3 h0
    obtain ⟨b, e1, _, _⟩ := DataW.trod_int Tryz.underlying3 h1
    simp at e0 e1
    exact ⟨a, b, by rw [e0, e1]⟩
theorem survey_of {cs : List Value} {x : DataW H × List MemPlace} (h : DataW.trod enc Tryz.prog w base sp held fuel 135 cs = some x) :
    ∃ s : Sv, cs = [.int .i64 s.loft, .int .i64 s.kind, .int .i64 s.xl, .int .i64 s.xh, .int .i64 s.yl, .int .i64 s.yh, .int .i64 s.ax, .int .i64 s.ay, .int .i64 s.dl, .int .i64 s.dh] := by
  obtain ⟨xs, n, _, rfl, hl, hlen, hf⟩ := DataW.trod_struct Tryz.underlying135 h
  rw [k56] at hl
  match cs, hl, xs, hlen with
  | [c0, c1, c2, c3, c4, c5, c6, c7, c8, c9], _, [y0, y1, y2, y3, y4, y5], _ =>
    have h0 := hf 0 _ rfl
    have h1 := hf 1 _ rfl
    have h2 := hf 2 _ rfl
    have h3 := hf 3 _ rfl
    have h4 := hf 4 _ rfl
    have h5 := hf 5 _ rfl
    simp [k3, k46, k27] at h0 h1 h2 h3 h4 h5
    obtain ⟨a0, e0, _, _⟩ := DataW.trod_int Tryz.underlying3 h0
    obtain ⟨a1, e1, _, _⟩ := DataW.trod_int Tryz.underlying3 h1
    obtain ⟨a2, a3, e2⟩ := span_of h2
    obtain ⟨a4, a5, e3⟩ := span_of h3
    obtain ⟨a6, a7, e4⟩ := point_of h4
    obtain ⟨a8, a9, e5⟩ := span_of h5
    simp at e0 e1 e2 e3 e4 e5
    exact ⟨⟨a0, a1, a2, a3, a4, a5, a6, a7, a8, a9⟩, by simp [e0, e1, e2, e3, e4, e5]⟩
end

theorem add_none (b off k : Nat) : (⟨b, off, none⟩ : Addr).add k = ⟨b, off + k, none⟩ := by
  unfold Addr.add
  split
  · rename_i h; simp [h]
  · rfl
theorem lt_of_cell {w : World} {b o : Nat} {v : Value} (h : w.cell? ⟨b, o, none⟩ = some v) : b < w.heap.size := by
  rcases Nat.lt_or_ge b w.heap.size with hlt | hge
  · exact hlt
  · simp [World.cell?, Array.getElem?_eq_none hge] at h

section
variable {H : Type} {enc : TypeId × Value → H} {w : World} {fuel : Nat}
theorem ints_of {cs : List Value} {x : DataW H × List MemPlace} (h : DataW.trod enc Tryz.prog w 0 (fun _ => true) true fuel 22 cs = some x) :
    ∃ (a : Option Addr) (cap : Nat) (l : List Int), cs = [.slice a l.length cap] ∧ IntsAt w a l ∧ l.length ≤ maxLen := by
  rcases open_ints Tryz.underlying22 Tryz.underlying3 k3 h with ⟨rfl, _⟩ | ⟨a, len, cap, zs, rfl, _, hl, hm, hz, _, hcell, _⟩
  · exact ⟨none, 0, [], rfl, .inl rfl, by simp⟩
  · simp at hz
    have hlen : (zs.take len).length = len := by simp; omega
    refine ⟨some a, cap, zs.take len, by rw [hlen], ?_, by omega⟩
    rcases Nat.eq_zero_or_pos len with h0 | h0
    · left; simp [h0]
    · right
      have c0 := hcell 0 (by omega)
      obtain ⟨b, off, spot⟩ := a
      have hspot : spot = none := by simpa [Addr.add] using World.cell?_spot c0
      subst hspot
      refine ⟨b, off, rfl, lt_of_cell (by simpa [Addr.add] using c0), fun k hk => ?_⟩
      have ck := hcell k (by omega)
      have hk2 : k < len := by omega
      have hk3 : k < zs.length := by omega
      rw [add_none] at ck
      simp [hk3] at ck
      simp [hk2, hk3, ck]
theorem surveys_of {cs : List Value} {x : DataW H × List MemPlace} (h : DataW.trod enc Tryz.prog w 0 (fun _ => true) true fuel 23 cs = some x) :
    ∃ (a : Option Addr) (cap : Nat) (l : List Sv), cs = [.slice a l.length cap] ∧ SvsAt w a l ∧ l.length ≤ maxLen := by
  rcases Deep.open_slice Tryz.underlying23 h with ⟨rfl, _⟩ | ⟨a, len, cap, m, n, D, Pl, rfl, _, hl, hm, hmm, _, hel⟩
  · exact ⟨none, 0, [], rfl, .inl rfl, by simp⟩
  · simp at hmm
    rcases Nat.eq_zero_or_pos len with h0 | h0
    · subst h0
      exact ⟨some a, cap, [], rfl, .inl rfl, by simp⟩
    · have hspot : a.spot = none := by
        obtain ⟨cs', h1, h2⟩ := hel 0 (by omega)
        obtain ⟨s, rfl⟩ := survey_of h2
        obtain ⟨_, _, hc⟩ := World.cells?_some h1
        rw [k56] at hc
        have c0 := hc 0 (by omega)
        simpa [Addr.add] using World.cell?_spot c0
      obtain ⟨b, off, spot⟩ := a
      simp only at hspot
      subst hspot
      have key : ∀ i, ∃ s : Sv, i < len → SvCells w b (off + i * 10) s := fun i => by
        by_cases hi : i < len
        · obtain ⟨cs', h1, h2⟩ := hel i (by omega)
          obtain ⟨s, rfl⟩ := survey_of h2
          obtain ⟨_, _, hc⟩ := World.cells?_some h1
          rw [k56] at hc
          simp only [add_none] at hc
          exact ⟨s, fun _ => ⟨hc 0 (by omega), hc 1 (by omega), hc 2 (by omega), hc 3 (by omega), hc 4 (by omega), hc 5 (by omega), hc 6 (by omega), hc 7 (by omega), hc 8 (by omega), hc 9 (by omega)⟩⟩
        · exact ⟨default, fun h => absurd h hi⟩
      obtain ⟨f, hf⟩ := Classical.axiomOfChoice key
      have hlen : ((List.range len).map f).length = len := by simp
      refine ⟨some ⟨b, off, none⟩, cap, (List.range len).map f, by rw [hlen], .inr ⟨b, off, rfl, lt_of_cell (hf 0 h0).1, fun k hk => ?_⟩, by omega⟩
      have hk2 : k < len := by omega
      have := hf k hk2
      simpa [hk2] using this
theorem map_of {v : Value} {d : DataW H} {p : List MemPlace} {r : Reach} {b0 : Nat} (hv : Value.okWide Tryz.prog w r b0 25 v) (h : DataW.Trod enc Tryz.prog w 0 (fun _ => true) true 25 v d p) :
    ∃ (north cols lofts wrong : Int) (ea sa : Option Addr) (ec sc : Nat) (east : List Int) (svs : List Sv), v = .agg #[.int .i64 north, .int .i64 cols, .slice ea east.length ec, .int .i64 lofts, .slice sa svs.length sc, .int .i64 wrong] ∧
      IntsAt w ea east ∧ SvsAt w sa svs ∧ east.length ≤ 9223372036854775807 ∧ svs.length ≤ 9223372036854775807 := by
  obtain ⟨cs, rfl, hsz⟩ := okWide_struct Tryz.underlying25 hv
  rw [k25] at hsz
  obtain ⟨l⟩ := cs
  obtain ⟨fuel, hf0⟩ := h
  obtain ⟨xs, n, _, _, hl, hlen, hf⟩ := DataW.trod_struct Tryz.underlying25 hf0
  match l, hsz, xs, hlen with
  | [c0, c1, c2, c3, c4, c5], _, [y0, y1, y2, y3, y4, y5], _ =>
    have h0 := hf 0 _ rfl
    have h1 := hf 1 _ rfl
    have h2 := hf 2 _ rfl
    have h3 := hf 3 _ rfl
    have h4 := hf 4 _ rfl
    have h5 := hf 5 _ rfl
    simp [k3, k22, k23, Value.cells] at h0 h1 h2 h3 h4 h5
    obtain ⟨a0, e0, _, _⟩ := DataW.trod_int Tryz.underlying3 h0
    obtain ⟨a1, e1, _, _⟩ := DataW.trod_int Tryz.underlying3 h1
    obtain ⟨ea, ec, east, e2, g2, m2⟩ := ints_of h2
    obtain ⟨a3, e3, _, _⟩ := DataW.trod_int Tryz.underlying3 h3
    obtain ⟨sa, sc, svs, e4, g4, m4⟩ := surveys_of h4
    obtain ⟨a5, e5, _, _⟩ := DataW.trod_int Tryz.underlying3 h5
    simp at e0 e1 e2 e3 e4 e5
    subst e0 e1 e2 e3 e4 e5
    exact ⟨a0, a1, a3, a5, ea, sa, ec, sc, east, svs, rfl, g2, g4, Nat.le_trans m2 (by decide), Nat.le_trans m4 (by decide)⟩
theorem point_val {v : Value} {d : DataW H} {p : List MemPlace} {r : Reach} {b0 : Nat} (hv : Value.okWide Tryz.prog w r b0 27 v) (h : DataW.Trod enc Tryz.prog w 0 (fun _ => true) true 27 v d p) :
    ∃ x y : Int, v = .agg #[.int .i64 x, .int .i64 y] := by
  obtain ⟨cs, rfl, hsz⟩ := okWide_struct Tryz.underlying27 hv
  obtain ⟨l⟩ := cs
  obtain ⟨fuel, hf0⟩ := h
  obtain ⟨a, b, e⟩ := point_of hf0
  simp [Value.cells] at e
  exact ⟨a, b, by rw [e]⟩
end
end Go.Proofs.YtcekdljjmfkacaaGreat
set_option linter.unusedSimpArgs false
set_option linter.unusedVariables false
namespace Go.Proofs.YtcekdljjmfkacaaGreat
open Go.RowKit Go.ChangeShapes Go.WideShapes Go.ChangeAt
set_option maxRecDepth 100000

theorem w2_spec (w : World) (c0 c1 : Array Value) (t0 t1 : TypeId) :
    G w ((w.alloc (.cells c0 t0)).alloc (.cells c1 t1)) ∧ Blk ((w.alloc (.cells c0 t0)).alloc (.cells c1 t1)) w.heap.size t0 c0 ∧ Blk ((w.alloc (.cells c0 t0)).alloc (.cells c1 t1)) (w.heap.size + 1) t1 c1 :=
  ⟨((G.rf w).a _).a _, (Blk.new w t0 c0).alloc _, Blk.new1 w _ t1 c1⟩
section
variable {H : Type} {enc : TypeId × Value → H} {w : World}
theorem map_nil {v0 v1 v2 v3 v5 : Value} {sa : Option Addr} {k sc : Nat} {d : DataW H} {p : List MemPlace} (h : DataW.Trod enc Tryz.prog w 0 (fun _ => true) true 25 (.agg #[v0, v1, v2, v3, .slice sa k sc, v5]) d p) : sa = none → sc = 0 := by
  obtain ⟨fuel, hf0⟩ := h
  obtain ⟨xs, n, _, _, hl, hlen, hf⟩ := DataW.trod_struct Tryz.underlying25 hf0
  match xs, hlen with
  | [y0, y1, y2, y3, y4, y5], _ =>
    have h4 := hf 4 _ rfl
    simp [k23, Value.cells] at h4
    rcases Deep.open_slice Tryz.underlying23 h4 with ⟨e, _⟩ | ⟨a, len, cap, m, n, D, Pl, e, _⟩
    · simp at e
      exact fun _ => e.2.2
    · simp at e
      intro hs
      rw [hs] at e
      simp at e
end
end Go.Proofs.YtcekdljjmfkacaaGreat
set_option linter.unusedSimpArgs false
set_option linter.unusedVariables false
namespace Go.Proofs.YtcekdljjmfkacaaGreat
open Go.RowKit Go.Shelf
attribute [local go_sem] Oper.semAt_some

theorem info56 : (Tryz.prog.info? 135).map (fun i => (i.zero, i.size, i.bytes)) = some (some (.agg #[.int .i64 0, .int .i64 0, .int .i64 0, .int .i64 0, .int .i64 0, .int .i64 0, .int .i64 0, .int .i64 0, .int .i64 0, .int .i64 0]), 10, 80) := by kernel_rfl
theorem addr_add (b off k : Nat) : (⟨b, off, none⟩ : Addr).add k = ⟨b, off + k, none⟩ := by
  unfold Addr.add
  split
  · rename_i h; simp [h]
  · rfl
theorem src_east {w : World} {b off : Nat} {east : List Int} (hb : b < w.heap.size) (hc : ∀ k, k < east.length → w.cell? ⟨b, off + k, none⟩ = some (.int .i64 (east.getD k 0))) (W : World) (hW : G w W) :
    ∀ j u, (east.map (Value.int .i64))[j]? = some u → W.cell? ((⟨b, off, none⟩ : Addr).add j) = some u := fun j u h => by
  rw [addr_add]
  rw [List.getElem?_map] at h
  have hj : j < east.length := by
    rcases Nat.lt_or_ge j east.length with h1 | h1
    · exact h1
    · rw [List.getElem?_eq_none h1] at h; cases h
  have := ((bcellB hW).1 b (off + j) hb).trans (hc j hj)
  rw [this]
  simpa [hj] using h
/-- the surveys' cells as a source of append -/
theorem src_svs {w : World} {sa : Option Addr} {svs : List Sv} {sc : Nat} (hs : SvsAt w sa svs) (hn : sa = none → sc = 0) :
    (sa = none ∧ svs.length = 0 ∧ sc = 0) ∨ ∃ (ad : Addr) (news : List Value), sa = some ad ∧ news.length = svs.length * 10 ∧ (∀ W, G w W → ∀ j u, news[j]? = some u → W.cell? (ad.add j) = some u) ∧ ∀ u ∈ news, Value.oneCell' u = true := by
  rcases hs with rfl | ⟨b, off, rfl, hb, hc⟩
  · cases sa with
    | none => exact .inl ⟨rfl, rfl, hn rfl⟩
    | some ad => exact .inr ⟨ad, [], rfl, rfl, fun W _ j u h => by simp at h, fun u h => by simp at h⟩
  · right
    have key : ∀ j, ∃ z : Int, j < svs.length * 10 → w.cell? ⟨b, off + j, none⟩ = some (.int .i64 z) := fun j => by
      by_cases hj : j < svs.length * 10
      · obtain ⟨h0, h1, h2, h3, h4, h5, h6, h7, h8, h9⟩ := hc (j / 10) (by omega)
        have e : j = j / 10 * 10 + j % 10 := by omega
        have hr : j % 10 < 10 := Nat.mod_lt _ (by omega)
        generalize j % 10 = r at e hr
        generalize j / 10 = i at *
        subst e
        rw [← Nat.add_assoc]
        match r, hr with
        | 0, _ => exact ⟨_, fun _ => h0⟩
        | 1, _ => exact ⟨_, fun _ => h1⟩
        | 2, _ => exact ⟨_, fun _ => h2⟩
        | 3, _ => exact ⟨_, fun _ => h3⟩
        | 4, _ => exact ⟨_, fun _ => h4⟩
        | 5, _ => exact ⟨_, fun _ => h5⟩
        | 6, _ => exact ⟨_, fun _ => h6⟩
        | 7, _ => exact ⟨_, fun _ => h7⟩
        | 8, _ => exact ⟨_, fun _ => h8⟩
        | 9, _ => exact ⟨_, fun _ => h9⟩
      · exact ⟨0, fun h => absurd h hj⟩
    obtain ⟨z, hz⟩ := Classical.axiomOfChoice key
    refine ⟨⟨b, off, none⟩, (List.range (svs.length * 10)).map fun j => Value.int .i64 (z j), rfl, by simp, fun W hW j u h => ?_, fun u h => ?_⟩
    · rw [addr_add]
      rw [List.getElem?_map] at h
      have hj : j < svs.length * 10 := by
        rcases Nat.lt_or_ge j (svs.length * 10) with h1 | h1
        · exact h1
        · rw [List.getElem?_eq_none (by simpa using h1)] at h; cases h
      have := ((bcellB hW).1 b (off + j) hb).trans (hz j hj)
      rw [this]
      simpa [hj] using h
    · obtain ⟨j, _, rfl⟩ := List.mem_map.1 h
      rfl
theorem own_empty {W : World} {g : Nat} {t : TypeId} (hb : Blk W g t #[]) (size : Nat) : W.ownsRow g t size (.slice (some ⟨g, 0, none⟩) 0 0) 0 [] :=
  ⟨by simp, .inr ⟨g, 0, #[], rfl, Nat.le_refl _, hb, Nat.le_refl _, by decide, by simp, by simp⟩⟩
end Go.Proofs.YtcekdljjmfkacaaGreat
set_option linter.unusedSimpArgs false
set_option linter.unusedVariables false
namespace Go.Proofs.YtcekdljjmfkacaaGreat
open Go.RowKit
attribute [local go_sem] Oper.semAt_some

section
variable (north wrong : Int) (cols lofts : Nat) (east : List Int) (svs : List Sv) (ea sa : Option Addr) (ec sc : Nat) (w : World)
end

def farB (north cols : Int) (east : List Int) (lofts : Int) (svs : List Sv) (wrong : Int) : Bool :=
  if 40 < east.length then true else if 60 < svs.length then true else checkE north cols east lofts svs wrong == 0 && (decide (20 < cols * east.length) || decide (5 < lofts))
def validB (north cols : Int) (east : List Int) (lofts : Int) (svs : List Sv) (wrong : Int) : Bool := !farB north cols east lofts svs wrong && checkE north cols east lofts svs wrong == 0

section
variable (north cols lofts wrong : Int) (east : List Int) (svs : List Sv) (ea sa : Option Addr) (ec sc : Nat) (w : World) (he : IntsAt w ea east) (hs : SvsAt w sa svs) (hl : east.length ≤ 9223372036854775807) (hl2 : svs.length ≤ 9223372036854775807)
include he hs hl hl2
end
end Go.Proofs.YtcekdljjmfkacaaGreat
set_option linter.unusedSimpArgs false
set_option linter.unusedVariables false
namespace Go.Proofs.YtcekdljjmfkacaaGreat
open Go.RowKit Go.Shelf
attribute [local go_sem] Oper.semAt_some wide_fn wide_dep wideR_fn wideR_dep

theorem info27 : (Tryz.prog.info? 27).map (fun i => (i.zero, i.size, i.bytes)) = some (some (.agg #[.int .i64 0, .int .i64 0]), 2, 16) := by kernel_rfl
/-- the cells of some places -/
def ptCells (l : Nat) (L : List At) : List Value := L.flatMap fun f => [.int .i64 (f l).1, .int .i64 (f l).2]
theorem ptCells_snoc (l : Nat) (L : List At) (f : At) : ptCells l (L ++ [f]) = ptCells l L ++ [.int .i64 (f l).1, .int .i64 (f l).2] := by simp [ptCells]
def Rp (i : Nat) (t : TypeId) : Prop := t = 28 ∨ t = 27
def PlacesI (OUT : Nat) (W0 : World) (l : Nat) (L : List At) (W : World) : Prop :=
  ∃ v, Blk W OUT 28 #[v] ∧ W.ownsRow W0.heap.size 27 2 v L.length (ptCells l L) ∧ Fr (fun i => i = OUT) W0 W
theorem ownsRow_kt {base : Nat} {e : TypeId} {size k : Nat} {v : Value} {xs : List Value} {T : TypeId → Prop} {B : Nat} {X Y : World} (h : X.ownsRow base e size v k xs) (hk : Kt T B X Y) (hT : ¬ T e) : Y.ownsRow base e size v k xs := by
  refine ⟨h.1, ?_⟩
  rcases h.2 with h' | ⟨g, cap, cur, h1, h2, h3, h4⟩
  · exact .inl h'
  · exact .inr ⟨g, cap, cur, h1, h2, hk.block g _ h3 (.inr (fun c t f e' => by cases e'; exact hT)), h4⟩
theorem placesI_own (OUT : Nat) (W0 : World) (l : Nat) (L : List At) (hO : OUT < W0.heap.size) {X Y : World} {row : Option Nat} (h : PlacesI OUT W0 l L X) (hg : X.grownBy Y row) (hr : ∀ g, row = some g → W0.heap.size ≤ g ∧ ∃ o : Obj, X.heap[g]? = some o ∧ o.isCells = false) : PlacesI OUT W0 l L Y := by
  obtain ⟨v, h1, h2, h3⟩ := h
  exact ⟨v, h1.grown hg (fun e => by have := (hr _ e.symm).1; omega), ownsRow_kept' h2 hg (fun r e => (hr r e).2), h3.grown hg (fun g e => .inr (hr g e).1)⟩

end Go.Proofs.YtcekdljjmfkacaaGreat
set_option linter.unusedSimpArgs false
set_option linter.unusedVariables false
namespace Go.Proofs.YtcekdljjmfkacaaGreat
open Go.RowKit
attribute [local go_sem] Oper.semAt_some

section
variable (north wrong : Int) (cols lofts l a b : Nat) (east : List Int) (svs : List Sv) (ea sa : Option Addr) (ec sc : Nat) (w : World)
end
end Go.Proofs.YtcekdljjmfkacaaGreat
set_option linter.unusedSimpArgs false
set_option linter.unusedVariables false
namespace Go.Proofs.YtcekdljjmfkacaaGreat
open Go.RowKit

theorem foldl_min_mem : ∀ (l : List Nat) (a : Nat), l.foldl min a = a ∨ l.foldl min a ∈ l
  | [], a => .inl rfl
  | x :: l, a => by
    rw [List.foldl_cons]
    rcases foldl_min_mem l (min a x) with h | h
    · rw [h]
      rcases Nat.le_total a x with h2 | h2
      · left; omega
      · right; rw [show min a x = x by omega]; exact List.mem_cons_self
    · exact .inr (List.mem_cons_of_mem _ h)
theorem allP_first {cols rows : Nat} (hc : 1 ≤ cols) (hr : 1 ≤ rows) : (0, 0) ∈ allP cols rows := by
  unfold allP rowP
  exact List.mem_flatMap.2 ⟨0, by simp; omega, List.mem_map.2 ⟨0, by simp; omega, rfl⟩⟩
theorem spot_zero (north : Int) (cols : Nat) (east : List Int) (svs : List Sv) (l : Nat) (hc : 1 ≤ cols) (hr : 1 ≤ east.length) : ∃ s ∈ spotsOf north cols east svs l, s.more = 0 := by
  have key : ∃ p ∈ allP cols east.length, cost north east svs l p - lowC north east svs l (allP cols east.length) = 0 := by
    unfold lowC minC
    rcases foldl_min_mem ((allP cols east.length).map (cost north east svs l)) svs.length with h | h
    · refine ⟨(0, 0), allP_first hc hr, ?_⟩
      rw [h]
      have : cost north east svs l (0, 0) ≤ svs.length := by unfold cost; exact wrongN_le _ _ _ _ _ _
      omega
    · obtain ⟨p, hp, he⟩ := List.mem_map.1 h
      exact ⟨p, hp, by rw [← he]; omega⟩
  obtain ⟨p, hp, h0⟩ := key
  exact ⟨_, List.mem_map.2 ⟨p, hp, rfl⟩, h0⟩
theorem settleL_ne (rows : Nat → List Sp) : ∀ (ls : List Nat) (f0 : At) (sp : Int), (∀ l ∈ ls, ∃ s ∈ rows l, s.more = 0) → 0 ≤ sp → settleL rows ls f0 sp ≠ []
  | [], f0, sp, _, _ => by simp [settleL]
  | l :: ls, f0, sp, h, hsp => by
    obtain ⟨s, hs, h0⟩ := h l List.mem_cons_self
    have ih := settleL_ne rows ls (upd f0 l (s.x, s.y)) sp (fun x hx => h x (List.mem_cons_of_mem _ hx)) hsp
    obtain ⟨f, hf⟩ := List.exists_mem_of_ne_nil _ ih
    rw [settleL_cons]
    refine List.ne_nil_of_mem (a := f) (List.mem_flatMap.2 ⟨s, hs, ?_⟩)
    unfold stepL
    rw [if_pos (by rw [h0]; omega), h0]
    simpa using hf
end Go.Proofs.YtcekdljjmfkacaaGreat
set_option linter.unusedSimpArgs false
set_option linter.unusedVariables false
namespace Go.Proofs.YtcekdljjmfkacaaGreat
open Go.RowKit
attribute [local go_sem] Oper.semAt_some

theorem rt_mono {n m : Nat} (h : n ≤ m) (hm : m < 18446744073709551616) : rt n ≤ rt m := by
  obtain ⟨a, b⟩ := rt_spec n (by omega)
  obtain ⟨c, d⟩ := rt_spec m hm
  apply Nat.le_of_not_lt
  intro hlt
  have := Nat.mul_le_mul (show rt m + 1 ≤ rt n by omega) (show rt m + 1 ≤ rt n by omega)
  omega
theorem rtUp_mono {n m : Nat} (h : n ≤ m) (hm : m < 18446744073709551616) : rtUp n ≤ rtUp m := by
  have h1 := rt_mono h hm
  unfold rtUp
  by_cases he : rt n = rt m
  · rw [he]
    split
    · rw [if_pos (by omega)]; omega
    · split <;> omega
  · split <;> split <;> omega
/-- a rounding keeps the order -/
theorem rnd_mono (r : Int) {n m : Nat} (h : n ≤ m) (hm : m < 18446744073709551616) : rnd r n ≤ rnd r m := by
  have h1 := rt_mono h hm
  have h2 := rtUp_mono h hm
  unfold rnd
  split
  · exact Nat.div_le_div_right h1
  · split
    · exact Nat.div_le_div_right (by omega)
    · exact Nat.div_le_div_right (by omega)

end Go.Proofs.YtcekdljjmfkacaaGreat
