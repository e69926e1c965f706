import Derived.Test.YtpjfdfddcnocpaaUe
set_option linter.unusedSimpArgs false
set_option linter.unusedVariables false
namespace Go.Proofs.Ytpjfdfddcnocpaa
open Go.RowKit
attribute [local go_sem] Oper.semAt_some

section
variable (north cols lofts wrong : Int) (east : List Int) (svs : List Sv) (ea sa : Option Addr) (ec sc : Nat) (w : World)
theorem rBlame_err (he : IntsAt w ea east) (hs : SvsAt w sa svs) (hl : east.length ≤ 9223372036854775807) (hl2 : svs.length ≤ 9223372036854775807) (hc : ¬ ctE north cols lofts wrong east svs 0 0 0 = 0) :
    Calls Try.prog 39 #[.agg #[.int .i64 north, .int .i64 cols, .slice ea east.length ec, .int .i64 lofts, .slice sa svs.length sc, .int .i64 wrong]] w fun e w' => e = .returned (.tuple #[.slice none 0 0, .int .i64 (ctE north cols lofts wrong east svs 0 0 0)]) ∧ G w w' := by
  have HT := Lib.hid (fun (W : World) (hW : G w W) => rCheckShow_any north cols lofts wrong east svs ea sa ec sc W (he.below hW) (hs.below hW) hl hl2)
  have g0 : G w (w.alloc (.cells #[.int .i64 north, .int .i64 cols, .slice ea east.length ec, .int .i64 lofts, .slice sa svs.length sc, .int .i64 wrong] 25)) := (G.rf _).a _
  generalize ctE north cols lofts wrong east svs 0 0 0 = E at *
  have hE : (E == 0) = false := by simp [hc]
  go_enter Try.func39, Try.ntmps39
  go_wp2_with (go_at_call 48; refine (HT.out _ g0).mono ?_; rintro e w1 ⟨rfl, hG1⟩)
  go_ret2
  exact ⟨rfl, g0.t hG1⟩
theorem BlameP_err (he : IntsAt w ea east) (hs : SvsAt w sa svs) (hl : east.length ≤ 9223372036854775807) (hl2 : svs.length ≤ 9223372036854775807) (hk : checkE north cols east lofts svs wrong ≠ 0) :
    Calls Try.prog 32 #[.agg #[.int .i64 north, .int .i64 cols, .slice ea east.length ec, .int .i64 lofts, .slice sa svs.length sc, .int .i64 wrong]] w fun e w' => e = .returned (.tuple #[.slice none 0 0, .int .i64 (checkE north cols east lofts svs wrong)]) ∧ G w w' := by
  have HQ := Lib.hid (fun (W : World) (hW : G w W) (L : Value) => question_err north cols lofts wrong east svs ea sa ec sc true L W (he.below hW) (hs.below hW) hl hl2 hk)
  have g0 : G w (w.alloc (.cells #[.int .i64 north, .int .i64 cols, .slice ea east.length ec, .int .i64 lofts, .slice sa svs.length sc, .int .i64 wrong] 25)) := (G.rf _).a _
  generalize checkE north cols east lofts svs wrong = E at *
  have hE : (E == 0) = false := by simp [hk]
  go_enter Try.func32, Try.ntmps32
  go_wp2_with (go_at_call 57; refine (HQ.out _ g0 _).mono ?_; rintro e w1 ⟨rfl, hG1⟩)
  go_ret2
  exact ⟨rfl, g0.t hG1⟩
end
end Go.Proofs.Ytpjfdfddcnocpaa
