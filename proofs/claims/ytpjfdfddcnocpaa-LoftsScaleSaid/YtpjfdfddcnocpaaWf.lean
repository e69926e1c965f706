import Derived.Test.YtpjfdfddcnocpaaWd
set_option linter.unusedSimpArgs false
set_option linter.unusedVariables false
namespace Go.Proofs.Ytpjfdfddcnocpaa
open Go.RowKit

theorem Rounded_any (north cols lofts wrong px py qx qy : Int) (east : List Int) (svs : List Sv) (ea sa : Option Addr) (ec sc : Nat) (w : World) (he : IntsAt w ea east) (hs : SvsAt w sa svs)
    (hl : east.length ≤ 9223372036854775807) (hl2 : svs.length ≤ 9223372036854775807) : RoundedGoal north cols lofts wrong px py qx qy east svs ea sa ec sc w := by
  by_cases h : 40 < east.length
  · exact rounded_long north cols lofts wrong px py qx qy east svs ea sa ec sc w h hl
  by_cases h2 : 60 < svs.length
  · exact rounded_many north cols lofts wrong px py qx qy east svs ea sa ec sc w h h2 hl2
  cases hk : (checkE north cols east lofts svs wrong == 0)
  · exact rounded_check north cols lofts wrong px py qx qy east svs ea sa ec sc w he hs hl hl2 h h2 hk
  have hk : checkE north cols east lofts svs wrong = 0 := by simpa using hk
  cases hp : isPlaceB cols east.length px py
  · exact rounded_p north cols lofts wrong px py qx qy east svs ea sa ec sc w he hs hl hl2 h h2 hk hp
  cases hq : isPlaceB cols east.length qx qy
  · exact rounded_q north cols lofts wrong px py qx qy east svs ea sa ec sc w he hs hl hl2 h h2 hk hp hq
  have hp0 : 0 ≤ py := by simp [isPlaceB, isInB] at hp; omega
  have hq0 : 0 ≤ qy := by simp [isPlaceB, isInB] at hq; omega
  obtain ⟨p, rfl⟩ := Int.eq_ofNat_of_zero_le hp0
  obtain ⟨q, rfl⟩ := Int.eq_ofNat_of_zero_le hq0
  have hv := checkE_ok hk
  have hvb := vm_bounds hv
  have hp' : isInB px 0 (cols - 1) = true ∧ p < east.length := by simp [isPlaceB, isInB] at hp ⊢; omega
  have hq' : isInB qx 0 (cols - 1) = true ∧ q < east.length := by simp [isPlaceB, isInB] at hq ⊢; omega
  have hsb := sq_bd hv hp'.2 hq'.2 hp'.1 hq'.1
  obtain ⟨N, hN⟩ := Int.eq_ofNat_of_zero_le hsb.1
  rw [hN] at hsb
  obtain ⟨d, half, more, r0, r1, r2, hd, t1, t2, t4, t3⟩ := rnd_facts N (by omega)
  have hN2 : sqI north east qx q px p = N := by rw [sqI_comm]; exact hN
  have L := fun (r : Int) (hr : 0 ≤ r ∧ r ≤ 2) (W : World) (hW : G w W) => Length_ok (north := north) (cols := cols) (lofts := lofts) (wrong := wrong) (ax := px) (bx := qx) (east := east) (svs := svs) (ea := ea) (sa := sa) (ec := ec) (sc := sc) (w := W) r p q (he.below hW) (hs.below hW) hl hl2 hk hr hp hq
  have L' := fun (r : Int) (hr : 0 ≤ r ∧ r ≤ 2) (W : World) (hW : G w W) => Length_ok (north := north) (cols := cols) (lofts := lofts) (wrong := wrong) (ax := qx) (bx := px) (east := east) (svs := svs) (ea := ea) (sa := sa) (ec := ec) (sc := sc) (w := W) r q p (he.below hW) (hs.below hW) hl hl2 hk hr hq hp
  simp only [hN, Int.toNat_natCast] at L
  simp only [hN2, Int.toNat_natCast] at L'
  have c0 := L 0 (by omega)
  have c1 := L 1 (by omega)
  have c2 := L 2 (by omega)
  have c3 := L' 1 (by omega)
  rw [r0] at c0
  rw [r1] at c1 c3
  rw [r2] at c2
  have hS := fun (W : World) (hW : G w W) => rSquare_any north cols lofts wrong px qx p q east ea ec (.slice sa svs.length sc) W (he.below hW) hv hp'.2 hq'.2 hp'.1 hq'.1
  simp only [hN] at hS
  have hC := fun (W : World) (hW : G w W) => rCheck_any north cols lofts wrong east svs ea sa ec sc W (he.below hW) (hs.below hW) hl hl2
  rw [hk] at hC
  have z1 : (4 * (d : Int) * d) = ((4 * d * d : Nat) : Int) := by simp
  have z2 : (4 * ((d : Int) + 1) * (d + 1)) = ((4 * (d + 1) * (d + 1) : Nat) : Int) := by simp
  have z3 : ((2 * (d : Int) + 1) * (2 * d + 1)) = (((2 * d + 1) * (2 * d + 1) : Nat) : Int) := by simp
  have z4 : 4 * (d + 1) * (d + 1) ≤ 4 * 100000001 * 100000001 := Nat.mul_le_mul (Nat.mul_le_mul (Nat.le_refl 4) (by omega)) (by omega)
  refine rounded_core north cols lofts wrong px qx p q east svs ea sa ec sc w d N ((d + half : Nat) : Int) ((d + more : Nat) : Int) hC hl (by omega) h h2 hp hq c0 c1 c2 c3 hS (by omega) (by rw [z1]; omega) (by rw [z2]; omega) (by rw [z1, z2]; omega) ?_ ?_
  · rw [z1]
    rcases t3 with ⟨rfl, h⟩ | ⟨rfl, h⟩
    · exact .inl ⟨by omega, by omega⟩
    · exact .inr ⟨by omega, by omega⟩
  · rw [z3]
    rcases t4 with ⟨rfl, h⟩ | ⟨rfl, h⟩
    · exact .inl ⟨by omega, by omega⟩
    · exact .inr ⟨by omega, by omega⟩
end Go.Proofs.Ytpjfdfddcnocpaa
