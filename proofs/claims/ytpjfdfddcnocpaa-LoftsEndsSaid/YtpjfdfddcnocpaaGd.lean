import Derived.Test.YtpjfdfddcnocpaaGc
import Derived.Test.YtpjfdfddcnocpaaKd
set_option linter.unusedSimpArgs false
set_option linter.unusedVariables false
namespace Go.Proofs.Ytpjfdfddcnocpaa
open Go.RowKit Go.ChangeShapes Go.WideShapes Go.ChangeAt
set_option maxRecDepth 100000

theorem validB_ok {north cols lofts wrong : Int} {east : List Int} {svs : List Sv} (h : validB north cols east lofts svs wrong = true) : checkE north cols east lofts svs wrong = 0 := by
  unfold validB at h
  simp at h
  exact h.2
theorem loft_nat {a lofts : Int} (h : (decide (0 ≤ a) && decide (a < lofts)) = true) : ∃ n : Nat, a = n ∧ (n : Int) < lofts := by
  simp at h
  obtain ⟨n, rfl⟩ := Int.eq_ofNat_of_zero_le h.1
  exact ⟨n, rfl, h.2⟩
theorem Ends_any (north cols lofts wrong f a b r rc px py qx qy : Int) (east : List Int) (svs : List Sv) (ea sa : Option Addr) (ec sc : Nat) (w : World) (he : IntsAt w ea east) (hs : SvsAt w sa svs)
    (hl : east.length ≤ 9223372036854775807) (hl2 : svs.length ≤ 9223372036854775807) : EndsGoal north cols lofts wrong f a b r rc px py qx qy east svs ea sa ec sc w := by
  cases hv : validB north cols east lofts svs wrong
  · exact ends_1 north cols lofts wrong f a b r rc px py qx qy east svs ea sa ec sc w he hs hl hl2 hv
  cases ha : (decide (0 ≤ a) && decide (a < lofts))
  · exact ends_2 north cols lofts wrong f a b r rc px py qx qy east svs ea sa ec sc w he hs hl hl2 hv ha
  cases hb : (decide (0 ≤ b) && decide (b < lofts))
  · exact ends_3 north cols lofts wrong f a b r rc px py qx qy east svs ea sa ec sc w he hs hl hl2 hv ha hb
  cases h3 : (a == b)
  rotate_left
  · exact ends_4 north cols lofts wrong f a b r rc px py qx qy east svs ea sa ec sc w he hs hl hl2 hv ha hb h3
  by_cases h4 : r < 0
  · exact ends_5 north cols lofts wrong f a b r rc px py qx qy east svs ea sa ec sc w he hs hl hl2 hv ha hb h3 h4
  by_cases h5 : 2 < r
  · exact ends_6 north cols lofts wrong f a b r rc px py qx qy east svs ea sa ec sc w he hs hl hl2 hv ha hb h3 h4 h5
  have hk := validB_ok hv
  have hvb := vm_bounds (checkE_ok hk)
  obtain ⟨an, rfl, ha'⟩ := loft_nat ha
  obtain ⟨bn, rfl, hb'⟩ := loft_nat hb
  obtain ⟨cn, rfl⟩ := Int.eq_ofNat_of_zero_le (show 0 ≤ cols by omega)
  obtain ⟨ln, rfl⟩ := Int.eq_ofNat_of_zero_le (show 0 ≤ lofts by omega)
  by_cases hw : wrong < fewSum north cn east svs ln
  · exact ends_none north wrong f r rc px py qx qy east svs ea sa ec sc w cn ln an bn he hs hl hl2 hv hk (by omega) (by omega) h3 (by omega) hw
  · exact ends_ok north wrong f r rc px py qx qy cn ln an bn east svs ea sa ec sc w he hs hl hl2 hv hk (by omega) (by omega) h3 (by omega) hw
end Go.Proofs.Ytpjfdfddcnocpaa
