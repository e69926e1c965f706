import Derived.Test.YtpjfdfddcnocpaaUh
set_option linter.unusedSimpArgs false
set_option linter.unusedVariables false
namespace Go.Proofs.Ytpjfdfddcnocpaa
open Go.RowKit
attribute [local go_sem] Oper.semAt_some

set_option maxHeartbeats 8000000 in
theorem same_eq (north cols lofts wrong : Int) (east : List Int) (svs : List Sv) (ea sa ea' sa' : Option Addr) (ec sc ec' sc' : Nat) (w : World) (he : IntsAt w ea east) (hs : SvsAt w sa svs) (he' : IntsAt w ea' east) (hs' : SvsAt w sa' svs) (hl : east.length ≤ 1000) (hl2 : svs.length ≤ 1000) :
    Calls Try.prog 43 #[.agg #[.int .i64 north, .int .i64 cols, .slice ea' east.length ec', .int .i64 lofts, .slice sa' svs.length sc', .int .i64 wrong], .agg #[.int .i64 north, .int .i64 cols, .slice ea east.length ec, .int .i64 lofts, .slice sa svs.length sc, .int .i64 wrong]] w fun e w' => e = .returned (.bool true) ∧ G w w' := by
  obtain ⟨g0, b0, b1⟩ := w2_spec w #[.int .i64 north, .int .i64 cols, .slice ea' east.length ec', .int .i64 lofts, .slice sa' svs.length sc', .int .i64 wrong] #[.int .i64 north, .int .i64 cols, .slice ea east.length ec, .int .i64 lofts, .slice sa svs.length sc, .int .i64 wrong] 25 25
  have HSI := Lib.hid (fun (W : World) (hW : G w W) => sameInts_eq ea' ea east ec' ec W (he'.below hW) (he.below hW) (by omega))
  clear he he'
  go_enter Try.func43, Try.ntmps43
  go_wp2_with (go_at_call 41; refine (HSI.out _ g0).mono ?_; rintro e w1 ⟨rfl, hG1⟩; replace b0 := b0.keep hG1; replace b1 := b1.keep hG1; replace g0 := g0.t hG1; clear hG1; have m0 := b0.cell 0; have m1 := b0.cell 1; have m2 := b0.cell 2; have m3 := b0.cell 3; have m4 := b0.cell 4; have m5 := b0.cell 5; have n0 := b1.cell 0; have n1 := b1.cell 1; have n2 := b1.cell 2; have n3 := b1.cell 3; have n4 := b1.cell 4; have n5 := b1.cell 5; have l0 := b0.lt; have l1 := b1.lt)
  clear m0 m1 m2 m3 m4 m5 n0 n1 n2 n3 n4 n5 l0 l1 HSI
  go_loopw [5] (fun i wr => ∃ k : Nat, k ≤ svs.length ∧ i = .int .i64 k ∧ G w1 wr) (fun i _ => svs.length - (intOf i).toNat)
  case atStart => exact ⟨0, Nat.zero_le _, rfl, G.rf _⟩
  case round =>
    obtain ⟨k, hk, rfl, hG⟩ := hrel
    obtain ⟨wo, rfl⟩ : ∃ wo, wo = wr := ⟨_, rfl⟩
    replace b0 := b0.keep hG
    replace b1 := b1.keep hG
    have gw := g0.t hG
    have m4 := b0.cell 4
    have l0 := b0.lt
    have l1 := b1.lt
    by_cases hlt : k < svs.length
    · have hki : (k : Int) < svs.length := by omega
      rcases hs.below gw with rfl | ⟨g1, o1, rfl, h1, hc1⟩
      · simp at hlt
      rcases hs'.below gw with h | ⟨g2, o2, rfl, h2, hc2⟩
      · rw [h] at hlt; simp at hlt
      have hx1 := hc1 k hlt
      have hx2 := hc2 k hlt
      generalize svs.getD k default = s at *
      obtain ⟨x0, x1, x2, x3, x4, x5, x6, x7, x8, x9⟩ := hx1
      obtain ⟨y0, y1, y2, y3, y4, y5, y6, y7, y8, y9⟩ := hx2
      have q := eq56 s.loft s.kind s.xl s.xh s.yl s.yh s.ax s.ay s.dl s.dh
      go_wp2
      clear m4
      have m4 := b0.gw 4 rfl
      have n4 := b1.gw 4 rfl
      replace x0 := GW.cell x0 h1
      replace x1 := GW.cell x1 h1
      replace x2 := GW.cell x2 h1
      replace x3 := GW.cell x3 h1
      replace x4 := GW.cell x4 h1
      replace x5 := GW.cell x5 h1
      replace x6 := GW.cell x6 h1
      replace x7 := GW.cell x7 h1
      replace x8 := GW.cell x8 h1
      replace x9 := GW.cell x9 h1
      replace y0 := GW.cell y0 h2
      replace y1 := GW.cell y1 h2
      replace y2 := GW.cell y2 h2
      replace y3 := GW.cell y3 h2
      replace y4 := GW.cell y4 h2
      replace y5 := GW.cell y5 h2
      replace y6 := GW.cell y6 h2
      replace y7 := GW.cell y7 h2
      replace y8 := GW.cell y8 h2
      replace y9 := GW.cell y9 h2
      clear hc1 hc2 hs hs'
      refine wp_region_quiet_G (by kernel_rfl) (by kernel_rfl) ?_
      repeat (quiet_step (fail))
      refine wpQuiet_nil ?_
      intro _ hw'
      obtain ⟨z, rfl⟩ := hw'
      clear x0 x1 x2 x3 x4 x5 x6 x7 x8 x9 y0 y1 y2 y3 y4 y5 y6 y7 y8 y9 m4 n4
      go_wp2
      go_roundw
      case rel => exact ⟨k + 1, by omega, by go_num, hG.t z.g⟩
      case measure => simp [intOf]; omega
    · have hki : ¬ (k : Int) < svs.length := by omega
      go_wp2
      go_ret
      exact ⟨rfl, gw⟩
end Go.Proofs.Ytpjfdfddcnocpaa
