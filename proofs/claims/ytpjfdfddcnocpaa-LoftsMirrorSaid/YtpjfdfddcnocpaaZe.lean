import Derived.Test.YtpjfdfddcnocpaaZc
import Derived.Test.YtpjfdfddcnocpaaYc
set_option linter.unusedSimpArgs false
set_option linter.unusedVariables false
namespace Go.Proofs.Ytpjfdfddcnocpaa
open Go.RowKit Go.ChangeShapes Go.WideShapes Go.ChangeAt
set_option maxRecDepth 100000

theorem Mirror_any (north cols lofts wrong o a b r rc px py qx qy : Int) (east : List Int) (svs : List Sv) (ea sa : Option Addr) (ec sc : Nat) (w : World) (he : IntsAt w ea east) (hs : SvsAt w sa svs) (hn : sa = none → sc = 0)
    (hl : east.length ≤ 9223372036854775807) (hl2 : svs.length ≤ 9223372036854775807) : MirrorGoal north cols lofts wrong o a b r rc px py qx qy east svs ea sa ec sc w := by
  cases hv : validB north cols east lofts svs wrong
  · exact mirror_1 north cols lofts wrong o a b r rc px py qx qy east svs ea sa ec sc w he hs hl hl2 hv
  cases ha : (decide (0 ≤ a) && decide (a < lofts))
  · exact mirror_2 north cols lofts wrong o a b r rc px py qx qy east svs ea sa ec sc w he hs hl hl2 hv ha
  cases hb : (decide (0 ≤ b) && decide (b < lofts))
  · exact mirror_3 north cols lofts wrong o a b r rc px py qx qy east svs ea sa ec sc w he hs hl hl2 hv ha hb
  cases ho : (decide (0 ≤ o) && decide (o < lofts))
  · exact mirror_4 north cols lofts wrong o a b r rc px py qx qy east svs ea sa ec sc w he hs hl hl2 hv ha hb ho
  have hk := validB_ok hv
  have hvb := vm_bounds (checkE_ok hk)
  obtain ⟨an, rfl, ha'⟩ := loft_nat ha
  obtain ⟨bn, rfl, hb'⟩ := loft_nat hb
  obtain ⟨on, rfl, ho'⟩ := loft_nat ho
  obtain ⟨cn, rfl⟩ := Int.eq_ofNat_of_zero_le (show 0 ≤ cols by omega)
  obtain ⟨ln, rfl⟩ := Int.eq_ofNat_of_zero_le (show 0 ≤ lofts by omega)
  exact mirror_main north wrong r rc px py qx qy cn ln on an bn east svs ea sa ec sc w he hs hn hl hl2 hv hk (by omega) (by omega) (by omega)
end Go.Proofs.Ytpjfdfddcnocpaa
