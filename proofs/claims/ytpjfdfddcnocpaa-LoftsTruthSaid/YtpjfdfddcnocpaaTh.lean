import Derived.Test.YtpjfdfddcnocpaaTg
import Derived.Test.YtpjfdfddcnocpaaTf
set_option linter.unusedSimpArgs false
set_option linter.unusedVariables false
namespace Go.Proofs.Ytpjfdfddcnocpaa
open Go.RowKit

theorem cmpI_cases (p q : Int) : (cmpI p q = 1 ∧ p < q) ∨ (cmpI p q = 2 ∧ q < p) ∨ (cmpI p q = 3 ∧ p = q) := by
  unfold cmpI
  by_cases h1 : p < q
  · rw [if_pos h1]; exact .inl ⟨rfl, h1⟩
  · rw [if_neg h1]
    by_cases h2 : q < p
    · rw [if_pos h2]; exact .inr (.inl ⟨rfl, h2⟩)
    · rw [if_neg h2]; exact .inr (.inr ⟨rfl, by omega⟩)
section
variable (north wrong r rc px py qx qy : Int) (cols lofts o a b : Nat) (east : List Int) (svs : List Sv) (l : List (Int × Int)) (ea sa ta : Option Addr) (ec sc tc : Nat) (w : World)
set_option maxHeartbeats 4000000 in
theorem truth_main (he : IntsAt w ea east) (hs : SvsAt w sa svs) (ht : ZAt w ta l) (hl : east.length ≤ 9223372036854775807) (hl2 : svs.length ≤ 9223372036854775807) (hl3 : l.length ≤ 9223372036854775807) (hv : validB north cols east lofts svs wrong = true) (hT : truthB north cols lofts wrong east svs l = true)
    (ho : o < lofts) (ha : a < lofts) (hb : b < lofts) (hr : ¬ rc < 0) (hr2 : ¬ 100000000 < rc) : TruthGoal north cols lofts wrong o a b r rc px py qx qy east svs l ea sa ta ec sc tc w := by
  have hk := validB_chk hv
  obtain ⟨hvm, hl16, hso⟩ := checkE_zero hk
  have hvb := vm_bounds hvm
  obtain ⟨hP, hPl, hll, hwr, hget⟩ := truth_nat hT
  obtain ⟨xo, yo, go, eo, bxo, byo⟩ := hget o ho
  obtain ⟨xa, ya, ga, ea', bxa, bya⟩ := hget a ha
  obtain ⟨xb, yb, gb, eb, bxb, byb⟩ := hget b hb
  obtain ⟨hw, hhas, ⟨hlo, hhi⟩, ⟨hlo0, hhi0⟩, hnv⟩ := truth_in hT ho ha hb eo ea' eb
  rcases ht with rfl | ⟨bt, off, rfl, hbt, hcell⟩
  · simp at hll; omega
  have hq1 := sq_bd (ax := xa) (p := ya) (bx := xb) (q := yb) hvm bya byb (by simp [isInB]; omega) (by simp [isInB]; omega)
  have hq2 := sq_bd (ax := xo) (p := yo) (bx := xa) (q := ya) hvm byo bya (by simp [isInB]; omega) (by simp [isInB]; omega)
  have hne2 := truths_ne (ls := [a, b]) hk hw
  have hne0 := truths_ne (ls := [o, a]) hk hw
  have pla : isPlaceB cols east.length xa ya = true := by simp [isPlaceB, isInB]; omega
  have plb : isPlaceB cols east.length xb yb = true := by simp [isPlaceB, isInB]; omega
  have plo : isPlaceB cols east.length xo yo = true := by simp [isPlaceB, isInB]; omega
  have hbd : ∀ (i j : Nat), i < lofts → j < lofts → hiQ north east i j (truthsOf (spotsOf north cols east svs) [i, j] (wrong - fewSum north cols east svs lofts)) ≤ 2592000000000000 := fun i j hi hj => by
    refine (hiQ_bd (B := 2592000000000000) _ 0 (fun f hf => ?_) (by omega) (by omega)).2
    have hg := truths_good (rows := spotsOf north cols east svs) (fun l _ s hs => spotsOf_mem hs) hf
    unfold q2
    exact sq_bd hvm hg.1.2 hg.2.2 (by simp [isInB]; omega) (by simp [isInB]; omega)
  have b1 := hbd a b ha hb
  have b2 := hbd o a ho ha
  have lnn : ∀ (i j : Nat), i < lofts → j < lofts → 0 ≤ loQ north east i j (truthsOf (spotsOf north cols east svs) [i, j] (wrong - fewSum north cols east svs lofts)) := fun i j hi hj => by
    refine (loQ_bd (B := 2592000000000000) _ 9223372036854775807 (fun f hf => ?_) (by omega)).1
    have hg := truths_good (rows := spotsOf north cols east svs) (fun l _ s hs => spotsOf_mem hs) hf
    unfold q2
    exact sq_bd hvm hg.1.2 hg.2.2 (by simp [isInB]; omega) (by simp [isInB]; omega)
  unfold TruthGoal
  rw [hll]
  obtain ⟨lw, hlw⟩ : ∃ lw : Nat → Nat, ∀ j, lw j = rnd 0 (loQ north east o j (truthsOf (spotsOf north cols east svs) [o, j] (wrong - fewSum north cols east svs lofts))).toNat := ⟨_, fun _ => rfl⟩
  obtain ⟨hw2, hhw⟩ : ∃ hw2 : Nat → Nat, ∀ j, hw2 j = rnd 0 (hiQ north east o j (truthsOf (spotsOf north cols east svs) [o, j] (wrong - fewSum north cols east svs lofts))).toNat := ⟨_, fun _ => rfl⟩
  have l1 := lnn a b ha hb
  have l2 := lnn o a ho ha
  refine truth_core north wrong r rc px py qx qy cols lofts o a b xo yo xa ya xb yb bt off east svs ea sa ec sc tc w
    (((truthsOf (spotsOf north cols east svs) [a] (wrong - fewSum north cols east svs lofts))).map fun f => f a)
    (fun k => rnd k (loQ north east a b (truthsOf (spotsOf north cols east svs) [a, b] (wrong - fewSum north cols east svs lofts))).toNat)
    (fun k => rnd k (hiQ north east a b (truthsOf (spotsOf north cols east svs) [a, b] (wrong - fewSum north cols east svs lofts))).toNat)
    (fun k => rnd k (sqI north east xa ya xb yb).toNat) (rnd 0 (sqI north east xo yo xa ya).toNat) (sqI north east xo yo xa ya) (sqI north east xo yo xb yb)
    (nearV ((truthsOf (spotsOf north cols east svs) [o, a, b] (wrong - fewSum north cols east svs lofts)).map (cmpF north east o a b)))
    (selW (wk o rc lw hw2) 1 lofts) (selW (wk o rc lw hw2) 2 lofts)
    ⟨?_, ?_, ?_, ?_, ?_, ?_, ?_, ?_, ?_, ?_⟩ bxo byo bxa bya bxb byb rfl rfl hbt ?_ hhas ?_ ho ha hb (by omega) hr hr2 ?_ (selW_two _ _) ?_
  · intro W hW
    have h := valid_any north cols lofts wrong east svs ea sa ec sc W (he.below hW) (hs.below hW) hl hl2
    rwa [hv] at h
  · intro W hW
    have h := rIsTruth_any north cols lofts wrong east svs l ea sa (some ⟨bt, off, none⟩) ec sc tc W (he.below hW) (hs.below hW) (ZAt.below (.inr ⟨bt, off, rfl, hbt, hcell⟩) hW) hk hl3
    rwa [hT, hll] at h
  · intro W hW
    refine (Places_ok north wrong cols lofts a east svs ea sa ec sc W (he.below hW) (hs.below hW) hk ha hw (Nat.le_trans (Nat.le_trans truths_one_len (spotsOf_len north cols east svs a (by omega) (by omega))) (by omega))).mono ?_
    rintro e w' ⟨v, h1, h2, h3⟩
    obtain ⟨g, cap, e2, h4, h5⟩ := pts_of (truths_ne (ls := [a]) hk hw) h2
    exact ⟨⟨g, cap, by rw [h1, e2, List.length_map], h4, h5⟩, h3⟩
  · intro W hW k h0 h2
    exact Distance_ok north wrong cols lofts a b east svs ea sa ec sc k W (he.below hW) (hs.below hW) hk ⟨h0, h2⟩ ha hb hw hne2
  · intro W hW k h0 h2
    exact Length_ok (lofts := (lofts : Int)) (ax := (xa : Int)) (bx := (xb : Int)) (w := W) k ya yb (he.below hW) (hs.below hW) hl hl2 hk ⟨h0, h2⟩ pla plb
  · intro W hW
    exact Length_ok (lofts := (lofts : Int)) (ax := (xo : Int)) (bx := (xa : Int)) (w := W) 0 yo ya (he.below hW) (hs.below hW) hl hl2 hk ⟨by omega, by omega⟩ plo pla
  · intro W hW x y x' y' h1 h2 h3 h4
    exact rSquare_any north cols lofts wrong x x' y y' east ea ec (.slice sa svs.length sc) W (he.below hW) hvm h2 h4 (by simp [isInB]; omega) (by simp [isInB]; omega)
  · intro W hW
    exact callsIn_wide.1 (Nearer_in 4 (by omega) north wrong cols lofts o a b east svs ea sa ec sc W (he.below hW) (hs.below hW) hk ho ha hb hw (truths_len3 (by simp) (by omega) (by omega)))
  · intro W hW
    exact Within_ok north wrong rc cols lofts o east svs ea sa ec sc W (he.below hW) (hs.below hW) hk hw ho ⟨by omega, by omega⟩ lw hw2 (fun j _ => hlw j) (fun j _ => hhw j)
  · intro W hW
    have hc := fun k (hk3 : k < lofts) => hcell k (by omega)
    obtain ⟨c0, c1⟩ := hc o ho
    obtain ⟨c2, c3⟩ := hc a ha
    obtain ⟨c4, c5⟩ := hc b hb
    rw [go] at c0 c1
    rw [ga] at c2 c3
    rw [gb] at c4 c5
    have hx := (bcellB hW).1
    exact ⟨(hx bt _ hbt).trans c0, (hx bt _ hbt).trans c1, (hx bt _ hbt).trans c2, (hx bt _ hbt).trans c3, (hx bt _ hbt).trans c4, (hx bt _ hbt).trans c5⟩
  · rw [List.length_map]
    exact Nat.le_trans (Nat.le_trans truths_one_len (spotsOf_len north cols east svs a (by omega) (by omega))) (by omega)
  · intro k h0 h2
    exact ⟨rnd_mono k (by omega) (by omega), rnd_mono k (by omega) (by omega)⟩
  · rcases hnv with h | h
    · rw [h]
      rcases cmpI_cases (sqI north east xo yo xa ya) (sqI north east xo yo xb yb) with h | h | h
      · exact .inl h
      · exact .inr (.inl h)
      · exact .inr (.inr (.inl h))
    · exact .inr (.inr (.inr h))
  · by_cases hoa : o = a
    · exact .inl hoa
    · refine .inr ?_
      have f1 : lw a ≤ rnd 0 (sqI north east xo yo xa ya).toNat := by rw [hlw a]; exact rnd_mono 0 (by omega) (by omega)
      have f2 : rnd 0 (sqI north east xo yo xa ya).toNat ≤ hw2 a := by rw [hhw a]; exact rnd_mono 0 (by omega) (by omega)
      generalize rnd 0 (sqI north east xo yo xa ya).toNat = N at *
      have hwk : wk o rc lw hw2 a = if (hw2 a : Int) ≤ rc then 1 else if (lw a : Int) ≤ rc then 2 else 0 := by unfold wk; rw [if_neg (fun e => hoa e.symm)]
      by_cases h1 : (hw2 a : Int) ≤ rc
      · rw [if_pos h1] at hwk
        exact .inl ⟨by omega, mem_selW.2 ⟨ha, hwk⟩⟩
      · rw [if_neg h1] at hwk
        have hnA : a ∉ selW (wk o rc lw hw2) 1 lofts := fun hm => by
          have := (mem_selW.1 hm).2
          rw [hwk] at this
          split at this <;> omega
        by_cases h2 : (N : Int) ≤ rc
        · rw [if_pos (by omega)] at hwk
          exact .inr (.inl ⟨h2, hnA, mem_selW.2 ⟨ha, hwk⟩⟩)
        · exact .inr (.inr ⟨h2, hnA⟩)
end
theorem Truth_any (north cols lofts wrong f a b r rc px py qx qy : Int) (east : List Int) (svs : List Sv) (l : List (Int × Int)) (ea sa ta : Option Addr) (ec sc tc : Nat) (w : World) (he : IntsAt w ea east) (hs : SvsAt w sa svs) (ht : ZAt w ta l)
    (hl : east.length ≤ 9223372036854775807) (hl2 : svs.length ≤ 9223372036854775807) (hl3 : l.length ≤ 9223372036854775807) : TruthGoal north cols lofts wrong f a b r rc px py qx qy east svs l ea sa ta ec sc tc w := by
  cases hv : validB north cols east lofts svs wrong
  · exact truth_1 north cols lofts wrong f a b r rc px py qx qy east svs l ea sa ta ec sc tc w he hs hl hl2 hv
  cases hT : truthB north cols lofts wrong east svs l
  · exact truth_2 north cols lofts wrong f a b r rc px py qx qy east svs l ea sa ta ec sc tc w he hs ht hl hl2 hl3 hv hT
  cases hf : (decide (0 ≤ f) && decide (f < lofts))
  · exact truth_3 north cols lofts wrong f a b r rc px py qx qy east svs l ea sa ta ec sc tc w he hs ht hl hl2 hl3 hv hT hf
  cases ha : (decide (0 ≤ a) && decide (a < lofts))
  · exact truth_4 north cols lofts wrong f a b r rc px py qx qy east svs l ea sa ta ec sc tc w he hs ht hl hl2 hl3 hv hT hf ha
  cases hb : (decide (0 ≤ b) && decide (b < lofts))
  · exact truth_5 north cols lofts wrong f a b r rc px py qx qy east svs l ea sa ta ec sc tc w he hs ht hl hl2 hl3 hv hT hf ha hb
  by_cases hr : rc < 0
  · exact truth_6 north cols lofts wrong f a b r rc px py qx qy east svs l ea sa ta ec sc tc w he hs ht hl hl2 hl3 hv hT hf ha hb hr
  by_cases hr2 : 100000000 < rc
  · exact truth_7 north cols lofts wrong f a b r rc px py qx qy east svs l ea sa ta ec sc tc w he hs ht hl hl2 hl3 hv hT hf ha hb hr hr2
  have hk := validB_chk hv
  have hvb := vm_bounds (checkE_ok hk)
  obtain ⟨fn, rfl, hf'⟩ := loft_nat3 hf
  obtain ⟨an, rfl, ha'⟩ := loft_nat3 ha
  obtain ⟨bn, rfl, hb'⟩ := loft_nat3 hb
  obtain ⟨cn, rfl⟩ := Int.eq_ofNat_of_zero_le (show 0 ≤ cols by omega)
  obtain ⟨ln, rfl⟩ := Int.eq_ofNat_of_zero_le (show 0 ≤ lofts by omega)
  exact truth_main north wrong r rc px py qx qy cn ln fn an bn east svs l ea sa ta ec sc tc w he hs ht hl hl2 hl3 hv hT (by omega) (by omega) (by omega) hr hr2
end Go.Proofs.Ytpjfdfddcnocpaa
