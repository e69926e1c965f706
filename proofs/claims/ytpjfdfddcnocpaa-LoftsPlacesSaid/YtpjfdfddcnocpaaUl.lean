import Derived.Test.YtpjfdfddcnocpaaUf
import Derived.Test.YtpjfdfddcnocpaaUj
import Derived.Test.YtpjfdfddcnocpaaUk
set_option linter.unusedSimpArgs false
set_option linter.unusedVariables false
namespace Go.Proofs.Ytpjfdfddcnocpaa
open Go.RowKit

/-- Many, as the document says -/
def mnyV (north cols lofts wrong : Int) (east : List Int) (svs : List Sv) : Value :=
  if checkE north cols east lofts svs wrong = 0 then .tuple #[.int .i64 (if manyV north wrong cols.toNat lofts.toNat east svs ≤ 1000000 then (manyV north wrong cols.toNat lofts.toNat east svs : Int) else 0), .int .i64 (if manyV north wrong cols.toNat lofts.toNat east svs ≤ 1000000 then 0 else 2)]
  else .tuple #[.int .i64 0, .int .i64 (checkE north cols east lofts svs wrong)]
section
variable (north cols lofts wrong : Int) (east : List Int) (svs : List Sv) (ea sa : Option Addr) (ec sc : Nat) (w : World)
theorem Fewest_all (he : IntsAt w ea east) (hs : SvsAt w sa svs) (hl : east.length ≤ 9223372036854775807) (hl2 : svs.length ≤ 9223372036854775807) :
    Calls Try.prog 31 #[.agg #[.int .i64 north, .int .i64 cols, .slice ea east.length ec, .int .i64 lofts, .slice sa svs.length sc, .int .i64 wrong]] w fun e w' => e = .returned (fewV north cols lofts wrong east svs) ∧ G w w' := by
  by_cases hk : checkE north cols east lofts svs wrong = 0
  · have hvb := vm_bounds (checkE_ok hk)
    obtain ⟨cn, rfl⟩ := Int.eq_ofNat_of_zero_le (show 0 ≤ cols by omega)
    obtain ⟨ln, rfl⟩ := Int.eq_ofNat_of_zero_le (show 0 ≤ lofts by omega)
    have h := Fewest_ok north wrong cn ln east svs ea sa ec sc w he hs hk
    unfold fewV
    rw [if_pos hk]
    simpa only [Int.toNat_natCast] using h
  · unfold fewV
    rw [if_neg hk]
    exact Fewest_err north wrong east svs ea sa ec sc w cols lofts he hs hl hl2 (by simp [hk])
theorem Many_all (he : IntsAt w ea east) (hs : SvsAt w sa svs) (hl : east.length ≤ 9223372036854775807) (hl2 : svs.length ≤ 9223372036854775807) :
    Calls Try.prog 36 #[.agg #[.int .i64 north, .int .i64 cols, .slice ea east.length ec, .int .i64 lofts, .slice sa svs.length sc, .int .i64 wrong]] w fun e w' => e = .returned (mnyV north cols lofts wrong east svs) ∧ G w w' := by
  by_cases hk : checkE north cols east lofts svs wrong = 0
  · have hvb := vm_bounds (checkE_ok hk)
    obtain ⟨_, h16, hso⟩ := checkE_zero hk
    obtain ⟨cn, rfl⟩ := Int.eq_ofNat_of_zero_le (show 0 ≤ cols by omega)
    obtain ⟨ln, rfl⟩ := Int.eq_ofNat_of_zero_le (show 0 ≤ lofts by omega)
    have h := Many_ok north wrong cn ln east svs ea sa ec sc w he hs hk h16 hso
    unfold mnyV
    rw [if_pos hk]
    simpa only [Int.toNat_natCast] using h
  · unfold mnyV
    rw [if_neg hk]
    exact Many_err north cols lofts wrong east svs ea sa ec sc w he hs hl hl2 hk
end
end Go.Proofs.Ytpjfdfddcnocpaa
