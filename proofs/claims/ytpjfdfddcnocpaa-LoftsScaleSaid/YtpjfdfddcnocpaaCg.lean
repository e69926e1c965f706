import Derived.Test.YtpjfdfddcnocpaaCf
set_option linter.unusedSimpArgs false
set_option linter.unusedVariables false
namespace Go.Proofs.Ytpjfdfddcnocpaa
open Go.RowKit

theorem sq_bd {north cols lofts wrong ax bx : Int} {p q : Nat} {east : List Int} (hv : validMapB north cols east lofts wrong = true) (hp : p < east.length) (hq : q < east.length)
    (h1 : isInB ax 0 (cols - 1) = true) (h2 : isInB bx 0 (cols - 1) = true) : 0 ≤ sqI north east ax p bx q ∧ sqI north east ax p bx q ≤ 2592000000000000 := by
  obtain ⟨hc, hlo, hw, hno, hel, hx⟩ := vm_bounds hv
  simp [isInB] at h1 h2
  have b1 := hx _ (show east.getD p 0 ∈ east by simp [hp])
  have b2 := hx _ (show east.getD q 0 ∈ east by simp [hq])
  unfold sqI
  simp only [Int.toNat_natCast]
  generalize east.getD p 0 = x at *
  generalize east.getD q 0 = y at *
  obtain ⟨n1, n2⟩ := mul_bd (A := 4000000) (B := 9) (a := 2 * north) (b := (p : Int) - q) (by omega) (by omega) (by omega) (by omega)
  obtain ⟨m1, m2⟩ := mul_bd (A := 4000000) (B := 9) (a := x + y) (b := ax - bx) (by omega) (by omega) (by omega) (by omega)
  obtain ⟨n3, n4⟩ := mul_bd (A := 36000000) (B := 36000000) (a := 2 * north * ((p : Int) - q)) (b := 2 * north * ((p : Int) - q)) (by omega) (by omega) (by omega) (by omega)
  obtain ⟨m3, m4⟩ := mul_bd (A := 36000000) (B := 36000000) (a := (x + y) * (ax - bx)) (b := (x + y) * (ax - bx)) (by omega) (by omega) (by omega) (by omega)
  have s1 : 0 ≤ (2 * north * ((p : Int) - q)) * (2 * north * ((p : Int) - q)) := by
    rcases Int.le_total 0 (2 * north * ((p : Int) - q)) with h | h
    · exact Int.mul_nonneg h h
    · exact Int.mul_nonneg_of_nonpos_of_nonpos h h
  have s2 : 0 ≤ ((x + y) * (ax - bx)) * ((x + y) * (ax - bx)) := by
    rcases Int.le_total 0 ((x + y) * (ax - bx)) with h | h
    · exact Int.mul_nonneg h h
    · exact Int.mul_nonneg_of_nonpos_of_nonpos h h
  omega

abbrev mapV (north cols : Int) (ea : Option Addr) (el ec : Nat) (lofts : Int) (sa : Option Addr) (sl sc : Nat) (wrong : Int) : Value :=
  .agg #[.int .i64 north, .int .i64 cols, .slice ea el ec, .int .i64 lofts, .slice sa sl sc, .int .i64 wrong]

theorem checkE_ok {north cols lofts wrong : Int} {east : List Int} {svs : List Sv} (h : checkE north cols east lofts svs wrong = 0) : validMapB north cols east lofts wrong = true := by
  unfold checkE at h
  cases hv : validMapB north cols east lofts wrong
  · simp [hv] at h
  · rfl

section
variable {north cols lofts wrong ax ay bx bY : Int} {east : List Int} {svs : List Sv} {ea sa : Option Addr} {ec sc : Nat} {w : World}

set_option maxHeartbeats 2000000 in
theorem Length_err (rule : Int) (he : IntsAt w ea east) (hs : SvsAt w sa svs) (hl : east.length ≤ 9223372036854775807) (hl2 : svs.length ≤ 9223372036854775807)
    (hk : (checkE north cols east lofts svs wrong == 0) = false) :
    Calls Try.prog 17 #[.agg #[.int .i64 north, .int .i64 cols, .slice ea east.length ec, .int .i64 lofts, .slice sa svs.length sc, .int .i64 wrong], .agg #[.int .i64 ax, .int .i64 ay], .agg #[.int .i64 bx, .int .i64 bY], .int .i64 rule] w fun e w' =>
    e = .returned (.tuple #[.int .i64 0, .int .i64 (checkE north cols east lofts svs wrong)]) ∧ G w w' := by
  have hC := fun (W : World) (hW : G w W) => Check_any north cols lofts wrong east svs ea sa ec sc W (he.below hW) (hs.below hW) hl hl2
  have hk2 : (checkE north cols east lofts svs wrong != 0) = true := by simp [bne, hk]
  generalize checkE north cols east lofts svs wrong = ce at *
  have hG3 : G w (((w.alloc (.cells #[.int .i64 north, .int .i64 cols, .slice ea east.length ec, .int .i64 lofts, .slice sa svs.length sc, .int .i64 wrong] 25)).alloc (.cells #[.int .i64 ax, .int .i64 ay] 27)).alloc (.cells #[.int .i64 bx, .int .i64 bY] 27)) := (((G.rf _).a _).a _).a _
  have HC := Lib.hid hC
  clear hC
  go_enter Try.func17, Try.ntmps17
  go_wp2_with (go_at_call 34; refine (HC.out _ hG3).mono ?_; rintro e w' ⟨rfl, hG⟩)
  go_ret2
  exact ⟨rfl, hG3.t hG⟩

theorem sz3 {w W w' : World} (h : G W w') (hz : w.heap.size + 3 ≤ W.heap.size) : w.heap.size < w'.heap.size ∧ w.heap.size + 1 < w'.heap.size ∧ w.heap.size + 1 + 1 < w'.heap.size := by
  have := h.size
  omega

set_option maxHeartbeats 2000000 in
theorem Length_rule (rule : Int) (he : IntsAt w ea east) (hs : SvsAt w sa svs) (hl : east.length ≤ 9223372036854775807) (hl2 : svs.length ≤ 9223372036854775807)
    (hk : checkE north cols east lofts svs wrong = 0) (hr : rule < 0 ∨ 2 < rule) :
    Calls Try.prog 17 #[.agg #[.int .i64 north, .int .i64 cols, .slice ea east.length ec, .int .i64 lofts, .slice sa svs.length sc, .int .i64 wrong], .agg #[.int .i64 ax, .int .i64 ay], .agg #[.int .i64 bx, .int .i64 bY], .int .i64 rule] w fun e w' =>
    e = .returned (.tuple #[.int .i64 0, .int .i64 1]) ∧ G w w' := by
  have hv := checkE_ok hk
  have hvb := vm_bounds hv
  have hcb : 0 ≤ cols ∧ cols ≤ 9223372036854775807 := by omega
  clear hvb
  have hC := fun (W : World) (hW : G w W) => Check_any north cols lofts wrong east svs ea sa ec sc W (he.below hW) (hs.below hW) hl hl2
  rw [hk] at hC
  have hG3 : G w (((w.alloc (.cells #[.int .i64 north, .int .i64 cols, .slice ea east.length ec, .int .i64 lofts, .slice sa svs.length sc, .int .i64 wrong] 25)).alloc (.cells #[.int .i64 ax, .int .i64 ay] 27)).alloc (.cells #[.int .i64 bx, .int .i64 bY] 27)) := (((G.rf _).a _).a _).a _
  have hz3 : w.heap.size + 3 ≤ (((w.alloc (.cells #[.int .i64 north, .int .i64 cols, .slice ea east.length ec, .int .i64 lofts, .slice sa svs.length sc, .int .i64 wrong] 25)).alloc (.cells #[.int .i64 ax, .int .i64 ay] 27)).alloc (.cells #[.int .i64 bx, .int .i64 bY] 27)).heap.size := by simp
  have HC := Lib.hid hC
  clear hC hk
  go_enter Try.func17, Try.ntmps17
  go_wp2_with (first | (go_at_call 34; refine (HC.out _ hG3).mono ?_; rintro e w' ⟨rfl, hGx⟩; have hcy := (bcellB hGx).1; have hG := G.t hG3 hGx; obtain ⟨z0, z1, z2⟩ := sz3 (w := w) hGx hz3) | (go_at_call 53; refine (rounding_bad rule _ hr).mono ?_; rintro e w' ⟨rfl, hGx⟩; have hcy := (bcellB hGx).1; have hG := G.t hG hGx; obtain ⟨z0, z1, z2⟩ := sz3 (w := w) hGx (by omega)) | (go_at_call 54; refine (isPlace_any _ _ _ _ _ _ _ _ _ _ _ hcb hl).mono ?_; rintro e w' ⟨rfl, hGx⟩; have hcy := (bcellB hGx).1; have hG := G.t hG hGx; obtain ⟨z0, z1, z2⟩ := sz3 (w := w) hGx (by omega)))
  go_ret2
  exact ⟨rfl, hG⟩

set_option maxHeartbeats 4000000 in
theorem Length_place (rule : Int) (he : IntsAt w ea east) (hs : SvsAt w sa svs) (hl : east.length ≤ 9223372036854775807) (hl2 : svs.length ≤ 9223372036854775807)
    (hk : checkE north cols east lofts svs wrong = 0) (hr : 0 ≤ rule ∧ rule ≤ 2) (hp : isPlaceB cols east.length ax ay = false ∨ (isPlaceB cols east.length ax ay = true ∧ isPlaceB cols east.length bx bY = false)) :
    Calls Try.prog 17 #[.agg #[.int .i64 north, .int .i64 cols, .slice ea east.length ec, .int .i64 lofts, .slice sa svs.length sc, .int .i64 wrong], .agg #[.int .i64 ax, .int .i64 ay], .agg #[.int .i64 bx, .int .i64 bY], .int .i64 rule] w fun e w' =>
    e = .returned (.tuple #[.int .i64 0, .int .i64 1]) ∧ G w w' := by
  have hv := checkE_ok hk
  have hvb := vm_bounds hv
  have hcb : 0 ≤ cols ∧ cols ≤ 9223372036854775807 := by omega
  clear hvb
  have hC := fun (W : World) (hW : G w W) => Check_any north cols lofts wrong east svs ea sa ec sc W (he.below hW) (hs.below hW) hl hl2
  rw [hk] at hC
  have hG3 : G w (((w.alloc (.cells #[.int .i64 north, .int .i64 cols, .slice ea east.length ec, .int .i64 lofts, .slice sa svs.length sc, .int .i64 wrong] 25)).alloc (.cells #[.int .i64 ax, .int .i64 ay] 27)).alloc (.cells #[.int .i64 bx, .int .i64 bY] 27)) := (((G.rf _).a _).a _).a _
  have hz3 : w.heap.size + 3 ≤ (((w.alloc (.cells #[.int .i64 north, .int .i64 cols, .slice ea east.length ec, .int .i64 lofts, .slice sa svs.length sc, .int .i64 wrong] 25)).alloc (.cells #[.int .i64 ax, .int .i64 ay] 27)).alloc (.cells #[.int .i64 bx, .int .i64 bY] 27)).heap.size := by simp
  have HC := Lib.hid hC
  clear hC hk
  rcases hp with hp | ⟨hp, hq⟩
  all_goals
    go_enter Try.func17, Try.ntmps17
    go_wp2_with (first | (go_at_call 34; refine (HC.out _ hG3).mono ?_; rintro e w' ⟨rfl, hGx⟩; have hcy := (bcellB hGx).1; have hG := G.t hG3 hGx; obtain ⟨z0, z1, z2⟩ := sz3 (w := w) hGx hz3) | (go_at_call 53; refine (rounding_ok rule _ hr).mono ?_; rintro e w' ⟨f, rfl, hGx, g, lb, rfl, eg, hRC⟩; have hcy := (bcellB hGx).1; have hG := G.t hG hGx; obtain ⟨z0, z1, z2⟩ := sz3 (w := w) hGx (by omega)) | (go_at_call 54; refine (isPlace_any _ _ _ _ _ _ _ _ _ _ _ hcb hl).mono ?_; rintro e w' ⟨rfl, hGx⟩; have hcy := (bcellB hGx).1; have hG := G.t hG hGx; obtain ⟨z0, z1, z2⟩ := sz3 (w := w) hGx (by omega)))
    go_ret2
    exact ⟨rfl, hG⟩

set_option maxHeartbeats 4000000 in
theorem Length_ok (rule : Int) (p q : Nat) (he : IntsAt w ea east) (hs : SvsAt w sa svs) (hl : east.length ≤ 9223372036854775807) (hl2 : svs.length ≤ 9223372036854775807)
    (hk : checkE north cols east lofts svs wrong = 0) (hr : 0 ≤ rule ∧ rule ≤ 2) (hp : isPlaceB cols east.length ax p = true) (hq : isPlaceB cols east.length bx q = true) :
    Calls Try.prog 17 #[.agg #[.int .i64 north, .int .i64 cols, .slice ea east.length ec, .int .i64 lofts, .slice sa svs.length sc, .int .i64 wrong], .agg #[.int .i64 ax, .int .i64 p], .agg #[.int .i64 bx, .int .i64 q], .int .i64 rule] w fun e w' =>
    e = .returned (.tuple #[.int .i64 (rnd rule (sqI north east ax p bx q).toNat), .int .i64 0]) ∧ G w w' := by
  have hv := checkE_ok hk
  have hvb := vm_bounds hv
  have hcb : 0 ≤ cols ∧ cols ≤ 9223372036854775807 := by omega
  clear hvb
  have hC := fun (W : World) (hW : G w W) => Check_any north cols lofts wrong east svs ea sa ec sc W (he.below hW) (hs.below hW) hl hl2
  rw [hk] at hC
  have hG3 : G w (((w.alloc (.cells #[.int .i64 north, .int .i64 cols, .slice ea east.length ec, .int .i64 lofts, .slice sa svs.length sc, .int .i64 wrong] 25)).alloc (.cells #[.int .i64 ax, .int .i64 p] 27)).alloc (.cells #[.int .i64 bx, .int .i64 q] 27)) := (((G.rf _).a _).a _).a _
  have hz3 : w.heap.size + 3 ≤ (((w.alloc (.cells #[.int .i64 north, .int .i64 cols, .slice ea east.length ec, .int .i64 lofts, .slice sa svs.length sc, .int .i64 wrong] 25)).alloc (.cells #[.int .i64 ax, .int .i64 p] 27)).alloc (.cells #[.int .i64 bx, .int .i64 q] 27)).heap.size := by simp
  have HC := Lib.hid hC
  clear hC hk
  have hp' : isInB ax 0 (cols - 1) = true ∧ p < east.length := by simp [isPlaceB, isInB] at hp ⊢; omega
  have hq' : isInB bx 0 (cols - 1) = true ∧ q < east.length := by simp [isPlaceB, isInB] at hq ⊢; omega
  have hsb := sq_bd hv hp'.2 hq'.2 hp'.1 hq'.1
  have hSQ := fun (W : World) (hW : G w W) => square_any north cols lofts wrong ax bx p q east ea ec (.slice sa svs.length sc) W (he.below hW) hv hp'.2 hq'.2 hp'.1 hq'.1
  generalize sqI north east ax p bx q = S at hSQ hsb ⊢
  have HSQ := Lib.hid hSQ
  clear hSQ hp' hq' hv
  go_enter Try.func17, Try.ntmps17
  go_wp2_with (first | (go_at_call 34; refine (HC.out _ hG3).mono ?_; rintro e w' ⟨rfl, hGx⟩; have hcy := (bcellB hGx).1; have hG := G.t hG3 hGx; obtain ⟨z0, z1, z2⟩ := sz3 (w := w) hGx hz3) | (go_at_call 53; refine (rounding_ok rule _ hr).mono ?_; rintro e w' ⟨f, rfl, hGx, g, lb, rfl, eg, hRC⟩; have HRC := Lib.hid hRC; clear hRC; have hR := G.rf w'; have hcy := (bcellB hGx).1; have hG := G.t hG hGx; obtain ⟨z0, z1, z2⟩ := sz3 (w := w) hGx (by omega)) | (go_at_call 54; refine (isPlace_any _ _ _ _ _ _ _ _ _ _ _ hcb hl).mono ?_; rintro e w' ⟨rfl, hGx⟩; have hR := G.t hR hGx; have hcy := (bcellB hGx).1; have hG := G.t hG hGx; obtain ⟨z0, z1, z2⟩ := sz3 (w := w) hGx (by omega)) | (go_at_call 55; refine (HSQ.out _ hG).mono ?_; rintro e w' ⟨rfl, hGx⟩; have hR := G.t hR hGx; have hcy := (bcellB hGx).1; have hG0 := hG; have hG := G.t hG hGx; obtain ⟨z0, z1, z2⟩ := sz3 (w := w) hGx (by omega)))
  refine (HRC.out _ S hR hsb.1 (by omega)).mono ?_
  rintro e w' ⟨rfl, hGx⟩
  go_wp2
  go_ret2
  exact ⟨rfl, hG.t hGx⟩
end
end Go.Proofs.Ytpjfdfddcnocpaa
