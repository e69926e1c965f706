import Derived.Test.YtpjfdfddcnocpaaUb
set_option linter.unusedSimpArgs false
set_option linter.unusedVariables false
namespace Go.Proofs.Ytpjfdfddcnocpaa
open Go.RowKit
attribute [local go_sem] Oper.semAt_some

/-- Length of the program, as the document says it -/
theorem Length_any (north cols lofts wrong px py qx qy rule : Int) (east : List Int) (svs : List Sv) (ea sa : Option Addr) (ec sc : Nat) (w : World) (he : IntsAt w ea east) (hs : SvsAt w sa svs) (hl : east.length ≤ 9223372036854775807) (hl2 : svs.length ≤ 9223372036854775807) :
    Calls Try.prog 17 #[.agg #[.int .i64 north, .int .i64 cols, .slice ea east.length ec, .int .i64 lofts, .slice sa svs.length sc, .int .i64 wrong], .agg #[.int .i64 px, .int .i64 py], .agg #[.int .i64 qx, .int .i64 qy], .int .i64 rule] w fun e w' => e = .returned (lenV north cols lofts wrong east svs px py qx qy rule) ∧ G w w' := by
  by_cases hk : checkE north cols east lofts svs wrong = 0
  · have HL : lenV north cols lofts wrong east svs px py qx qy rule = if isPlaceB cols east.length px py && (isPlaceB cols east.length qx qy && isInB rule 0 2) then .tuple #[.int .i64 (rnd rule (sqI north east px py qx qy).toNat : Nat), .int .i64 0] else .tuple #[.int .i64 0, .int .i64 1] := by unfold lenV; rw [if_pos hk]
    by_cases hr : 0 ≤ rule ∧ rule ≤ 2
    · have hr1 : isInB rule 0 2 = true := by simp [isInB]; omega
      cases h1 : isPlaceB cols east.length px py
      · rw [HL, h1]
        exact Length_place rule he hs hl hl2 hk hr (.inl h1)
      · cases h2 : isPlaceB cols east.length qx qy
        · rw [HL, h1, h2]
          exact Length_place rule he hs hl hl2 hk hr (.inr ⟨h1, h2⟩)
        · have hpy : 0 ≤ py ∧ 0 ≤ qy := by simp [isPlaceB, isInB] at h1 h2; omega
          obtain ⟨p, rfl⟩ := Int.eq_ofNat_of_zero_le hpy.1
          obtain ⟨q, rfl⟩ := Int.eq_ofNat_of_zero_le hpy.2
          rw [HL, h1, h2, hr1]
          exact Length_ok rule p q he hs hl hl2 hk hr h1 h2
    · have hr1 : isInB rule 0 2 = false := by simp [isInB]; omega
      rw [HL, hr1]
      simp only [Bool.and_false]
      exact Length_rule rule he hs hl hl2 hk (by omega)
  · have hV : lenV north cols lofts wrong east svs px py qx qy rule = .tuple #[.int .i64 0, .int .i64 (checkE north cols east lofts svs wrong)] := by unfold lenV; rw [if_neg hk]
    rw [hV]
    exact Length_err rule he hs hl hl2 (by simp [hk])
end Go.Proofs.Ytpjfdfddcnocpaa
