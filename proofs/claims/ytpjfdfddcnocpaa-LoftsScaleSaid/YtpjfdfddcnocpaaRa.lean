import Derived.Test.YtpjfdfddcnocpaaCd
set_option linter.unusedSimpArgs false
set_option linter.unusedVariables false
namespace Go.Proofs.Ytpjfdfddcnocpaa
open Go.RowKit

theorem within_any (n lo hi : Int) (w : World) : Calls Try.prog 51 #[.int .i64 n, .int .i64 lo, .int .i64 hi] w fun e w' =>
    e = .returned (.bool (isInB n lo hi)) ∧ G w w' := by
  by_cases h1 : lo ≤ n
  · go_enter Try.func51, Try.ntmps51
    go_wp2
    go_ret
    exact ⟨by simp [isInB, h1], G.rf _⟩
  · go_enter Try.func51, Try.ntmps51
    go_wp2
    go_ret
    exact ⟨by unfold isInB; rw [decide_eq_false (by omega)]; rfl, G.rf _⟩
set_option maxHeartbeats 1000000 in
theorem isMap_any (north cols lofts wrong : Int) (east : List Int) (ea sa : Option Addr) (ec sl sc : Nat) (w : World) (he : IntsAt w ea east) (hl : east.length ≤ 9223372036854775807) :
    Calls Try.prog 49 #[.agg #[.int .i64 north, .int .i64 cols, .slice ea east.length ec, .int .i64 lofts, .slice sa sl sc, .int .i64 wrong]] w fun e w' =>
    e = .returned (.bool (validMapB north cols east lofts wrong)) ∧ G w w' := by
  go_enter Try.func49, Try.ntmps49
  go_wp2
  obtain ⟨W0, hW0⟩ : ∃ W0, (w.alloc (.cells #[.int .i64 north, .int .i64 cols, .slice ea east.length ec, .int .i64 lofts, .slice sa sl sc, .int .i64 wrong] 25)) = W0 := ⟨_, rfl⟩
  have hB0 : G w W0 := by rw [← hW0]; exact (G.rf _).a _
  have hsz : W0.heap.size = w.heap.size + 1 := by rw [← hW0]; simp
  have m0 : W0.cell? ⟨w.heap.size, 0, none⟩ = some (.int .i64 north) := by rw [← hW0]; simp
  have m1 : W0.cell? ⟨w.heap.size, 1, none⟩ = some (.int .i64 cols) := by rw [← hW0]; simp
  have m2 : W0.cell? ⟨w.heap.size, 2, none⟩ = some (.slice ea east.length ec) := by rw [← hW0]; simp
  have m3 : W0.cell? ⟨w.heap.size, 3, none⟩ = some (.int .i64 lofts) := by rw [← hW0]; simp
  have m5 : W0.cell? ⟨w.heap.size, 5, none⟩ = some (.int .i64 wrong) := by rw [← hW0]; simp
  rw [hW0]
  clear hW0
  go_loopw [3] (fun i wr => ∃ k : Nat, k ≤ east.length ∧ i = .int .i64 k ∧ Hid ((east.take k).all isScaleB = true) ∧ G W0 wr) (fun i _ => east.length - (intOf i).toNat)
  case atStart => exact ⟨0, Nat.zero_le _, rfl, Lib.hid rfl, G.rf _⟩
  case round =>
    obtain ⟨k, hk, rfl, hall, hb0⟩ := hrel
    obtain ⟨hc, hf⟩ := bcellB hb0
    have hlo : w.heap.size < wr.heap.size := by have := hb0.size; omega
    by_cases hlt : k < east.length
    · have he' := he.below (hB0.t hb0)
      rcases he' with rfl | ⟨b, off, rfl, hbb, hcell⟩
      · simp at hlt
      have hcx := hcell k hlt
      have hs1 := all_take_succ isScaleB east k hlt
      have hs2 := all_false isScaleB east k hlt
      generalize east.getD k 0 = x at hcx hs1 hs2
      clear hcell he
      cases hx : isInB x 1 2000000
      · have H2 := Lib.hid (hs2 hx)
        clear hs1 hs2
        go_wp2_with (go_at_call 51; refine (within_any _ _ _ _).mono ?_; rintro e w' ⟨rfl, hb1⟩)
        go_ret
        exact ⟨by simp [validMapB, H2.out], (hB0.t hb0).t hb1⟩
      · have H1 := Lib.hid hs1
        clear hs1 hs2
        go_wp2_with (go_at_call 51; refine (within_any _ _ _ _).mono ?_; rintro e w' ⟨rfl, hb1⟩)
        exact ⟨⟨k + 1, by omega, by simp, Lib.hid (by rw [H1.out, hall.out, show isScaleB x = true from hx]; rfl), hb0.t hb1⟩, by simp [intOf]; omega⟩
    · have HA : Hid (validMapB north cols east lofts wrong = (isInB east.length 1 10 && (isInB cols 1 10 && (isInB north 1 2000000 && (isInB lofts 1 8 && isInB wrong 0 3))))) := by
        have : east.take k = east := List.take_of_length_le (by omega)
        have h2 := hall.out; rw [this] at h2
        exact (by unfold validMapB; rw [h2]; rfl)
      have hG : G w wr := hB0.t hb0
      clear hall he
      rcases and5 (isInB east.length 1 10) (isInB cols 1 10) (isInB north 1 2000000) (isInB lofts 1 8) (isInB wrong 0 3) with h1 | ⟨h1, h2⟩ | ⟨h1, h2, h3⟩ | ⟨h1, h2, h3, h4⟩ | ⟨h1, h2, h3, h4⟩
      all_goals
        go_wp2_with (first | (go_at_call 51; refine (within_any _ _ _ _).mono ?_; rintro e w' ⟨rfl, hbx⟩; have hcy := (bcellB hbx).1; have hsy : w.heap.size < w'.heap.size := (by have := hbx.size; omega); have hG := G.t hG hbx) | (go_at_call 51; refine (within_any _ _ _ _).mono ?_; rintro e w' ⟨rfl, hbx⟩; have hcy := (bcellB hbx).1; have hsy : w.heap.size < w'.heap.size := (by have := hbx.size; omega); have hG := G.t hG hbx))
        go_ret
        exact ⟨by rw [HA.out]; simp only [*]; rfl, hG⟩

theorem rSpan_any (lo hi last : Int) (w : World) : Calls Try.prog 78 #[.agg #[.int .i64 lo, .int .i64 hi], .int .i64 last] w fun e w' =>
    e = .returned (.bool (isSpanB lo hi last)) ∧ G w w' := by
  have h : ¬ 0 ≤ lo ∨ (0 ≤ lo ∧ ¬ lo ≤ hi) ∨ (0 ≤ lo ∧ lo ≤ hi) := by omega
  rcases h with h1 | ⟨h1, h2⟩ | ⟨h1, h2⟩
  all_goals
    go_enter Try.func78, Try.ntmps78
    go_wp2
    go_ret
    refine ⟨?_, (G.rf _).a _⟩
  · unfold isSpanB; rw [decide_eq_false (by omega)]; rfl
  · unfold isSpanB; rw [decide_eq_true h1, decide_eq_false (p := lo ≤ hi) (by omega)]; rfl
  · unfold isSpanB; rw [decide_eq_true h1, decide_eq_true h2]; rfl

set_option maxHeartbeats 1000000 in
theorem rPlace_any (north cols lofts wrong x y : Int) (ea : Option Addr) (el ec : Nat) (s : Value) (w : World) (hc : 0 ≤ cols ∧ cols ≤ 9223372036854775807) (hel : el ≤ 9223372036854775807) :
    Calls Try.prog 15 #[.agg #[.int .i64 north, .int .i64 cols, .slice ea el ec, .int .i64 lofts, s, .int .i64 wrong], .agg #[.int .i64 x, .int .i64 y]] w fun e w' =>
    e = .returned (.bool (isPlaceB cols el x y)) ∧ G w w' := by
  cases h1 : isInB x 0 (cols - 1)
  all_goals
    go_enter Try.func15, Try.ntmps15
    go_wp2_with fail
    have hG : G w ((w.alloc (.cells #[.int .i64 north, .int .i64 cols, .slice ea el ec, .int .i64 lofts, s, .int .i64 wrong] 25)).alloc (.cells #[.int .i64 x, .int .i64 y] 27)) := ((G.rf _).a _).a _
    have hz : w.heap.size + 1 < ((w.alloc (.cells #[.int .i64 north, .int .i64 cols, .slice ea el ec, .int .i64 lofts, s, .int .i64 wrong] 25)).alloc (.cells #[.int .i64 x, .int .i64 y] 27)).heap.size := by simp
    go_wp2_with (go_at_call 51; refine (within_any _ _ _ _).mono ?_; rintro e w' ⟨rfl, hbx⟩; have hcy := (bcellB hbx).1; have hsy : w.heap.size + 1 < w'.heap.size := (by have := hbx.size; omega); have hs0 : w.heap.size < w'.heap.size := (by omega); have hG := G.t hG hbx)
    go_ret
    exact ⟨by unfold isPlaceB; simp [*], hG⟩
section
variable (north cols lofts wrong loft kind xl xh yl yh ax ay dl dh : Int) (ea : Option Addr) (el ec : Nat) (s : Value) (w : World)
abbrev RsPost : Prop := Calls Try.prog 50 #[.agg #[.int .i64 north, .int .i64 cols, .slice ea el ec, .int .i64 lofts, s, .int .i64 wrong], .agg #[.int .i64 loft, .int .i64 kind, .int .i64 xl, .int .i64 xh, .int .i64 yl, .int .i64 yh, .int .i64 ax, .int .i64 ay, .int .i64 dl, .int .i64 dh]] w fun e w' =>
    e = .returned (.bool (validSurveyB cols el lofts loft kind xl xh yl yh ax ay dl dh)) ∧ G w w'
end

set_option maxHeartbeats 4000000 in
theorem rSurvey_any (north cols lofts wrong loft kind xl xh yl yh ax ay dl dh : Int) (ea : Option Addr) (el ec : Nat) (s : Value) (w : World)
    (hc : 0 ≤ cols ∧ cols ≤ 9223372036854775807) (hel : el ≤ 9223372036854775807) (hlo : 0 ≤ lofts ∧ lofts ≤ 9223372036854775807) :
    RsPost north cols lofts wrong loft kind xl xh yl yh ax ay dl dh ea el ec s w := by
  unfold RsPost
  have hG : G w ((w.alloc (.cells #[.int .i64 north, .int .i64 cols, .slice ea el ec, .int .i64 lofts, s, .int .i64 wrong] 25)).alloc (.cells #[.int .i64 loft, .int .i64 kind, .int .i64 xl, .int .i64 xh, .int .i64 yl, .int .i64 yh, .int .i64 ax, .int .i64 ay, .int .i64 dl, .int .i64 dh] 56)) := ((G.rf _).a _).a _
  have hz : w.heap.size + 1 < ((w.alloc (.cells #[.int .i64 north, .int .i64 cols, .slice ea el ec, .int .i64 lofts, s, .int .i64 wrong] 25)).alloc (.cells #[.int .i64 loft, .int .i64 kind, .int .i64 xl, .int .i64 xh, .int .i64 yl, .int .i64 yh, .int .i64 ax, .int .i64 ay, .int .i64 dl, .int .i64 dh] 56)).heap.size := by simp
  have q27 := eq27
  have q46 := eq46
  have key : (isInB loft 0 (lofts - 1) = false) ∨ (isInB loft 0 (lofts - 1) = true ∧ kind = 1) ∨ (isInB loft 0 (lofts - 1) = true ∧ kind = 2) ∨ (isInB loft 0 (lofts - 1) = true ∧ (kind == 1) = false ∧ (kind == 2) = false) := by
    cases isInB loft 0 (lofts - 1)
    · simp
    · by_cases h1 : kind = 1
      · simp [h1]
      · by_cases h2 : kind = 2
        · simp [h2]
        · simp [h1, h2]
  rcases key with h0 | ⟨h0, rfl⟩ | ⟨h0, rfl⟩ | ⟨h0, h1, h2⟩
  · have HV : Hid (validSurveyB cols el lofts loft kind xl xh yl yh ax ay dl dh = false) := by unfold validSurveyB Hid; rw [h0]; rfl
    go_enter Try.func50, Try.ntmps50
    go_wp2_with (go_at_call 51; refine (within_any _ _ _ _).mono ?_; rintro e w' ⟨rfl, hbx⟩; have hcy := (bcellB hbx).1; have hsy : w.heap.size + 1 < w'.heap.size := (by have := hbx.size; omega); have hs0 : w.heap.size < w'.heap.size := (by omega); have hG := G.t hG hbx)
    go_ret
    exact ⟨by rw [HV.out]; rfl, hG⟩
  · have HV : Hid (validSurveyB cols el lofts loft 1 xl xh yl yh ax ay dl dh = (isSpanB xl xh (cols - 1) && (isSpanB yl yh (el - 1) && ((ax == 0 && ay == 0) && (dl == 0 && dh == 0))))) := by
      unfold validSurveyB Hid; rw [h0, if_pos rfl]; rfl
    rcases and4 (isSpanB xl xh (cols - 1)) (isSpanB yl yh (el - 1)) (ax == 0 && ay == 0) with h1 | ⟨h1, h2⟩ | ⟨h1, h2, h3⟩ | ⟨h1, h2, h3⟩
    all_goals
      go_enter Try.func50, Try.ntmps50
      go_wp2_with (first | (go_at_call 51; refine (within_any _ _ _ _).mono ?_; rintro e w' ⟨rfl, hbx⟩; have hcy := (bcellB hbx).1; have hsy : w.heap.size + 1 < w'.heap.size := (by have := hbx.size; omega); have hs0 : w.heap.size < w'.heap.size := (by omega); have hG := G.t hG hbx) | (go_at_call 78; refine (rSpan_any _ _ _ _).mono ?_; rintro e w' ⟨rfl, hbx⟩; have hcy := (bcellB hbx).1; have hsy : w.heap.size + 1 < w'.heap.size := (by have := hbx.size; omega); have hs0 : w.heap.size < w'.heap.size := (by omega); have hG := G.t hG hbx) | (go_at_call 15; refine (rPlace_any _ _ _ _ _ _ _ _ _ _ _ hc hel).mono ?_; rintro e w' ⟨rfl, hbx⟩; have hcy := (bcellB hbx).1; have hsy : w.heap.size + 1 < w'.heap.size := (by have := hbx.size; omega); have hs0 : w.heap.size < w'.heap.size := (by omega); have hG := G.t hG hbx))
      go_ret
      exact ⟨by rw [HV.out]; simp [*], hG⟩
  · have HV : Hid (validSurveyB cols el lofts loft 2 xl xh yl yh ax ay dl dh = ((xl == 0 && xh == 0) && ((yl == 0 && yh == 0) && (isPlaceB cols el ax ay && isSpanB dl dh 100000000)))) := by
      unfold validSurveyB Hid; rw [h0, if_neg (by decide), if_pos rfl]; rfl
    rcases and4 (xl == 0 && xh == 0) (yl == 0 && yh == 0) (isPlaceB cols el ax ay) with h1 | ⟨h1, h2⟩ | ⟨h1, h2, h3⟩ | ⟨h1, h2, h3⟩
    all_goals
      go_enter Try.func50, Try.ntmps50
      go_wp2_with (first | (go_at_call 51; refine (within_any _ _ _ _).mono ?_; rintro e w' ⟨rfl, hbx⟩; have hcy := (bcellB hbx).1; have hsy : w.heap.size + 1 < w'.heap.size := (by have := hbx.size; omega); have hs0 : w.heap.size < w'.heap.size := (by omega); have hG := G.t hG hbx) | (go_at_call 78; refine (rSpan_any _ _ _ _).mono ?_; rintro e w' ⟨rfl, hbx⟩; have hcy := (bcellB hbx).1; have hsy : w.heap.size + 1 < w'.heap.size := (by have := hbx.size; omega); have hs0 : w.heap.size < w'.heap.size := (by omega); have hG := G.t hG hbx) | (go_at_call 15; refine (rPlace_any _ _ _ _ _ _ _ _ _ _ _ hc hel).mono ?_; rintro e w' ⟨rfl, hbx⟩; have hcy := (bcellB hbx).1; have hsy : w.heap.size + 1 < w'.heap.size := (by have := hbx.size; omega); have hs0 : w.heap.size < w'.heap.size := (by omega); have hG := G.t hG hbx))
      go_ret
      exact ⟨by rw [HV.out]; simp [*], hG⟩
  · have HV : Hid (validSurveyB cols el lofts loft kind xl xh yl yh ax ay dl dh = false) := by
      unfold validSurveyB Hid; rw [h0, if_neg (by simpa using h1), if_neg (by simpa using h2)]; rfl
    go_enter Try.func50, Try.ntmps50
    go_wp2_with (go_at_call 51; refine (within_any _ _ _ _).mono ?_; rintro e w' ⟨rfl, hbx⟩; have hcy := (bcellB hbx).1; have hsy : w.heap.size + 1 < w'.heap.size := (by have := hbx.size; omega); have hs0 : w.heap.size < w'.heap.size := (by omega); have hG := G.t hG hbx)
    go_ret
    exact ⟨by rw [HV.out]; rfl, hG⟩
end Go.Proofs.Ytpjfdfddcnocpaa
