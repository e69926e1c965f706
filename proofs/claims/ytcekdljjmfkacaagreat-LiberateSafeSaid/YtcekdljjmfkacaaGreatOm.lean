import Derived.Test.YtcekdljjmfkacaaGreatXe
set_option linter.unusedSimpArgs false
set_option linter.unusedVariables false
namespace Go.Proofs.YtcekdljjmfkacaaGreat
open Go.RowKit
attribute [local go_sem] Oper.semAt_some

set_option maxHeartbeats 2000000 in
theorem rRoot_any (n : Int) (w : World) (hn : 0 ≤ n ∧ n ≤ 6400000160000000) :
    Calls Tryz.prog 110 #[.int .i64 n] w fun e w' => e = .returned (.int .i64 (rt n.toNat)) ∧ G w w' := by
  have hb := rt_le n.toNat 80000000 (by omega) (by omega)
  obtain ⟨hs1, hs2⟩ := rt_spec n.toNat (by omega)
  generalize rt n.toNat = r at *
  have hge : ∀ m : Nat, m ≤ r → (m : Int) * m ≤ n := fun m hm => by
    have h1 : m * m ≤ r * r := Nat.mul_le_mul hm hm
    have h2 : ((m * m : Nat) : Int) = (m : Int) * m := by simp
    omega
  have hgt : ∀ m : Nat, r < m → n < (m : Int) * m := fun m hm => by
    have h1 : (r + 1) * (r + 1) ≤ m * m := Nat.mul_le_mul (by omega) (by omega)
    have h2 : ((m * m : Nat) : Int) = (m : Int) * m := by simp
    omega
  have HGE := Lib.hid hge
  have HGT := Lib.hid hgt
  clear hge hgt hs1 hs2
  go_enter Tryz.func110, Tryz.ntmps110
  go_wp2
  go_loopw [3, 4] (fun lo hi wr => ∃ a b : Nat, lo = .int .i64 a ∧ hi = .int .i64 b ∧ a ≤ r ∧ r ≤ b ∧ b ≤ 2147483648 ∧ G w wr) (fun lo hi _ => (intOf hi).toNat - (intOf lo).toNat)
  case atStart => exact ⟨0, 2147483648, rfl, rfl, by omega, by omega, by omega, G.rf _⟩
  case round =>
    obtain ⟨a, b, rfl, rfl, h1, h2, h3, hG⟩ := hrel
    by_cases hlt : a < b
    · obtain ⟨m, hm⟩ : ∃ m : Nat, m = (a + b + 1) / 2 := ⟨_, rfl⟩
      have hq : ((a : Int) + b + 1).tdiv 2 = (m : Int) := by
        rw [hm, Int.tdiv_eq_ediv_of_nonneg (by omega)]
        omega
      have hq2 : ((a : Int) + b + 1) / 2 = (m : Int) := by omega
      have x1 : IntKind.i64.wrap ((a : Int) + b) = (a : Int) + b := IntWalk.i64_in _ (by omega)
      have x2 : IntKind.i64.wrap ((a : Int) + b + 1) = (a : Int) + b + 1 := IntWalk.i64_in _ (by omega)
      have x3 : IntKind.i64.wrap (m : Int) = (m : Int) := IntWalk.i64_in _ (by omega)
      have x5 : IntKind.i64.wrap ((m : Int) - 1) = ((m - 1 : Nat) : Int) := by rw [IntWalk.i64_in _ (by omega)]; omega
      obtain ⟨y1, y2⟩ := mul_bd (A := 2147483648) (B := 2147483648) (a := (m : Int)) (b := (m : Int)) (by omega) (by omega) (by omega) (by omega)
      have x4 : IntKind.i64.wrap ((m : Int) * m) = (m : Int) * m := IntWalk.i64_in _ (by omega)
      have hlt' : (a : Int) < b := by omega
      have hm1 : a < m := by omega
      have hm2 : m ≤ b := by omega
      clear hm hq
      by_cases hc : m ≤ r
      · have t := HGE.out m hc
        clear y1 y2
        go_wp2
        go_roundw
        case rel => exact ⟨m, b, by first | rfl | rw [hq2], rfl, hc, h2, h3, hG⟩
        case measure => simp [intOf]; omega
      · have t := HGT.out m (by omega)
        have t' : ¬ (m : Int) * m ≤ n := by omega
        clear y1 y2 t
        go_wp2
        go_roundw
        case rel => exact ⟨a, m - 1, rfl, by first | rfl | (rw [hq2]; go_num), h1, by omega, by omega, hG⟩
        case measure => simp [intOf]; omega
    · have hlt' : ¬ (a : Int) < b := by omega
      obtain rfl : a = r := by omega
      go_wp2
      go_ret
      exact ⟨rfl, hG⟩

theorem rnd_near (n : Nat) : rnd 1 n = rt n / 2 + (if 2 * (rt n / 2) + 1 ≤ rt n then 1 else 0) := by
  unfold rnd
  rw [if_neg (by decide), if_pos rfl]
  split <;> omega
theorem rnd_up (n : Nat) : rnd 2 n = rt n / 2 + (if 2 * (rt n / 2) + 1 ≤ rt n then 1 else if rt n * rt n < n then 1 else 0) := by
  unfold rnd rtUp
  rw [if_neg (by decide), if_neg (by decide)]
  split <;> split <;> omega
set_option maxHeartbeats 2000000 in
theorem rRounded_any (n rule : Int) (w : World) (hn : 0 ≤ n ∧ n ≤ 6400000160000000) (hr : 0 ≤ rule ∧ rule ≤ 2) :
    Calls Tryz.prog 93 #[.int .i64 n, .int .i64 rule] w fun e w' => e = .returned (.int .i64 (rnd rule n.toNat)) ∧ G w w' := by
  have hb := rt_le n.toNat 80000000 (by omega) (by omega)
  obtain ⟨hs1, hs2⟩ := rt_spec n.toNat (by omega)
  have hC := rRoot_any n w hn
  have h1 := rnd_near n.toNat
  have h2 := rnd_up n.toNat
  have h0 : rnd 0 n.toNat = rt n.toNat / 2 := rfl
  generalize rt n.toNat = r at *
  obtain ⟨d, hd⟩ : ∃ d : Nat, d = r / 2 := ⟨_, rfl⟩
  have hq : ((r : Int)).tdiv 2 = (d : Int) := by
    rw [hd, Int.tdiv_eq_ediv_of_nonneg (by omega)]
    omega
  rw [← hd] at h0 h1 h2
  have hrd : r = 2 * d ∨ r = 2 * d + 1 := by omega
  have e1 : (2 * (d : Int) + 1) * (2 * (d : Int) + 1) = ((2 * d + 1) * (2 * d + 1) : Nat) := by simp
  have e2 : 4 * (d : Int) * (d : Int) = ((2 * d) * (2 * d) : Nat) := by
    have : (2 * d) * (2 * d) = 4 * d * d := by rw [Nat.mul_assoc, Nat.mul_left_comm d 2 d, ← Nat.mul_assoc, ← Nat.mul_assoc]
    rw [this]; simp
  have b1 : (2 * d + 1) * (2 * d + 1) ≤ 80000001 * 80000001 := Nat.mul_le_mul (by omega) (by omega)
  have b2 : (2 * d) * (2 * d) ≤ 80000001 * 80000001 := Nat.mul_le_mul (by omega) (by omega)
  have m1 : (2 * d + 1) * (2 * d + 1) ≤ n.toNat ↔ 2 * d + 1 ≤ r := by
    constructor
    · intro h
      by_cases hh : 2 * d + 1 ≤ r
      · exact hh
      · have : (r + 1) * (r + 1) ≤ (2 * d + 1) * (2 * d + 1) := Nat.mul_le_mul (by omega) (by omega)
        omega
    · intro h
      have : (2 * d + 1) * (2 * d + 1) ≤ r * r := Nat.mul_le_mul h h
      omega
  have m2 : (2 * d) * (2 * d) < n.toNat ↔ (2 * d + 1 ≤ r ∨ r * r < n.toNat) := by
    rcases hrd with e | e
    · rw [← e]; omega
    · have : (2 * d) * (2 * d) < r * r := Nat.mul_lt_mul_of_lt_of_le (by omega) (by omega) (by omega)
      omega
  have x1 : IntKind.i64.wrap (d : Int) = (d : Int) := IntWalk.i64_in _ (by omega)
  have x2 : IntKind.i64.wrap (2 * (d : Int)) = 2 * (d : Int) := IntWalk.i64_in _ (by omega)
  have x3 : IntKind.i64.wrap (2 * (d : Int) + 1) = 2 * (d : Int) + 1 := IntWalk.i64_in _ (by omega)
  have x4 : IntKind.i64.wrap ((2 * (d : Int) + 1) * (2 * (d : Int) + 1)) = (2 * (d : Int) + 1) * (2 * (d : Int) + 1) := IntWalk.i64_in _ (by omega)
  have x5 : IntKind.i64.wrap (4 * (d : Int)) = 4 * (d : Int) := IntWalk.i64_in _ (by omega)
  have x6 : IntKind.i64.wrap (4 * (d : Int) * d) = 4 * (d : Int) * d := IntWalk.i64_in _ (by omega)
  have x7 : IntKind.i64.wrap ((d : Int) + 1) = ((d + 1 : Nat) : Int) := by rw [IntWalk.i64_in _ (by omega)]; omega
  have hcase : (rule = 0 ∧ Hid (rnd rule n.toNat = d)) ∨ (rule = 1 ∧ (2 * (d : Int) + 1) * (2 * (d : Int) + 1) ≤ n ∧ Hid (rnd rule n.toNat = d + 1)) ∨ (rule = 1 ∧ ¬ (2 * (d : Int) + 1) * (2 * (d : Int) + 1) ≤ n ∧ Hid (rnd rule n.toNat = d)) ∨
      (rule = 2 ∧ 4 * (d : Int) * d < n ∧ Hid (rnd rule n.toNat = d + 1)) ∨ (rule = 2 ∧ ¬ 4 * (d : Int) * d < n ∧ Hid (rnd rule n.toNat = d)) := by
    have : rule = 0 ∨ rule = 1 ∨ rule = 2 := by omega
    unfold Hid
    rcases this with rfl | rfl | rfl
    · exact .inl ⟨rfl, h0⟩
    · refine .inr ?_
      by_cases hh : (2 * d + 1) * (2 * d + 1) ≤ n.toNat
      · exact .inl ⟨rfl, by omega, by rw [h1, if_pos (m1.1 hh)]⟩
      · exact .inr (.inl ⟨rfl, by omega, by rw [h1, if_neg (fun h => hh (m1.2 h))]; rfl⟩)
    · refine .inr (.inr (.inr ?_))
      by_cases hh : (2 * d) * (2 * d) < n.toNat
      · refine .inl ⟨rfl, by omega, ?_⟩
        rw [h2]
        rcases m2.1 hh with h | h
        · rw [if_pos h]
        · split
          · rfl
          · first | rfl | rw [if_pos h]
      · refine .inr ⟨rfl, by omega, ?_⟩
        rw [h2, if_neg (fun h => hh (m2.2 (.inl h))), if_neg (fun h => hh (m2.2 (.inr h)))]
        rfl
  have HC := Lib.hid hC
  clear hC h0 h1 h2 hs1 hs2 hrd e1 e2 b1 b2 m1 m2 hd
  rcases hcase with ⟨rfl, hv⟩ | ⟨rfl, t, hv⟩ | ⟨rfl, t, hv⟩ | ⟨rfl, t, hv⟩ | ⟨rfl, t, hv⟩
  all_goals
    go_enter Tryz.func93, Tryz.ntmps93
    go_wp2_with (go_at_call 110; refine HC.out.mono ?_; rintro e w' ⟨rfl, hG⟩)
    go_ret
    exact ⟨by rw [hv.out]; rfl, hG⟩
theorem rIsRule_any (n : Int) (w : World) : Calls Tryz.prog 92 #[.int .i64 n] w fun e w' => e = .returned (.bool (isInB n 0 2)) ∧ G w w' := by
  go_enter Tryz.func92, Tryz.ntmps92
  go_wp2_with (go_at_call 83; refine (within_any _ _ _ _).mono ?_; rintro e w' ⟨rfl, hG⟩)
  go_ret
  exact ⟨rfl, hG⟩
set_option maxHeartbeats 1000000 in
theorem rSquare_any (north cols lofts wrong ax bx : Int) (p q : Nat) (east : List Int) (ea : Option Addr) (ec : Nat) (s : Value) (w : World) (he : IntsAt w ea east)
    (hv : validMapB north cols east lofts wrong = true) (hp : p < east.length) (hq : q < east.length) (h1 : isInB ax 0 (cols - 1) = true) (h2 : isInB bx 0 (cols - 1) = true) :
    Calls Tryz.prog 94 #[.agg #[.int .i64 north, .int .i64 cols, .slice ea east.length ec, .int .i64 lofts, s, .int .i64 wrong], .agg #[.int .i64 ax, .int .i64 p], .agg #[.int .i64 bx, .int .i64 q]] w fun e w' =>
    e = .returned (.int .i64 (sqI north east ax p bx q)) ∧ G w w' := by
  obtain ⟨hc, hlo, hw, hno, hel, hx⟩ := vm_bounds hv
  simp [isInB] at h1 h2
  have e1 : east.getD p 0 ∈ east := by simp [hp]
  have e2 : east.getD q 0 ∈ east := by simp [hq]
  have b1 := hx _ e1
  have b2 := hx _ e2
  rcases he with rfl | ⟨b, off, rfl, hbb, hcell⟩
  · simp at hp
  have c1 := hcell p hp
  have c2 := hcell q hq
  have HS : Hid (sqI north east ax p bx q = (2 * north * (↑p - ↑q)) * (2 * north * (↑p - ↑q)) + ((east.getD p 0 + east.getD q 0) * (ax - bx)) * ((east.getD p 0 + east.getD q 0) * (ax - bx))) := by
    unfold sqI Hid; simp only [Int.toNat_natCast]
  generalize east.getD p 0 = x at *
  generalize east.getD q 0 = y at *
  obtain ⟨n1, n2⟩ := mul_bd (A := 4000000) (B := 9) (a := 2 * north) (b := (p : Int) - q) (by omega) (by omega) (by omega) (by omega)
  obtain ⟨m1, m2⟩ := mul_bd (A := 4000000) (B := 9) (a := x + y) (b := ax - bx) (by omega) (by omega) (by omega) (by omega)
  obtain ⟨n3, n4⟩ := mul_bd (A := 36000000) (B := 36000000) (a := 2 * north * ((p : Int) - q)) (b := 2 * north * ((p : Int) - q)) (by omega) (by omega) (by omega) (by omega)
  obtain ⟨m3, m4⟩ := mul_bd (A := 36000000) (B := 36000000) (a := (x + y) * (ax - bx)) (b := (x + y) * (ax - bx)) (by omega) (by omega) (by omega) (by omega)
  have hc0 : w.heap.size + 2 < (((w.alloc (.cells #[.int .i64 north, .int .i64 cols, .slice (some ⟨b, off, none⟩) east.length ec, .int .i64 lofts, s, .int .i64 wrong] 25)).alloc (.cells #[.int .i64 ax, .int .i64 p] 27)).alloc (.cells #[.int .i64 bx, .int .i64 q] 27)).heap.size := by simp
  go_enter Tryz.func94, Tryz.ntmps94
  go_wp2
  have g1 : IntKind.i64.wrap (x + y) = x + y := IntWalk.i64_in _ (by omega)
  have g2 : IntKind.i64.wrap (ax - bx) = ax - bx := IntWalk.i64_in _ (by omega)
  have g3 : IntKind.i64.wrap ((x + y) * (ax - bx)) = (x + y) * (ax - bx) := IntWalk.i64_in _ (by omega)
  have k1 : (p : Int) < east.length := by omega
  have k2 : (q : Int) < east.length := by omega
  obtain ⟨W0, hW0⟩ : ∃ W0, (((w.alloc (.cells #[.int .i64 north, .int .i64 cols, .slice (some ⟨b, off, none⟩) east.length ec, .int .i64 lofts, s, .int .i64 wrong] 25)).alloc (.cells #[.int .i64 ax, .int .i64 p] 27)).alloc (.cells #[.int .i64 bx, .int .i64 q] 27)) = W0 := ⟨_, rfl⟩
  have hG : G w W0 := by rw [← hW0]; exact (((G.rf _).a _).a _).a _
  have k0 : Blk W0 w.heap.size 25 #[.int .i64 north, .int .i64 cols, .slice (some ⟨b, off, none⟩) east.length ec, .int .i64 lofts, s, .int .i64 wrong] := by rw [← hW0]; exact ((Blk.new _ _ _).alloc _).alloc _
  have k1 : Blk W0 (w.heap.size + 1) 27 #[.int .i64 ax, .int .i64 p] := by rw [← hW0]; exact (Blk.new1 _ _ _ _).alloc _
  have k2 : Blk W0 (w.heap.size + 1 + 1) 27 #[.int .i64 bx, .int .i64 q] := by rw [← hW0]; exact Blk.new2 _ _ _ _ _
  have i1 : W0.cell? ⟨w.heap.size, 2, none⟩ = some (.slice (some ⟨b, off, none⟩) east.length ec) := k0.cell 2
  have i2 : W0.cell? ⟨w.heap.size + 1, 0, none⟩ = some (.int .i64 ax) := k1.cell 0
  have i3 : W0.cell? ⟨w.heap.size + 1, 1, none⟩ = some (.int .i64 p) := k1.cell 1
  have i4 : W0.cell? ⟨w.heap.size + 1 + 1, 0, none⟩ = some (.int .i64 bx) := k2.cell 0
  have i5 : W0.cell? ⟨w.heap.size + 1 + 1, 1, none⟩ = some (.int .i64 q) := k2.cell 1
  have c1' := ((bcellB hG).1 b (off + p) hbb).trans c1
  have c2' := ((bcellB hG).1 b (off + q) hbb).trans c2
  rw [hW0]
  clear hW0 c1 c2 hcell k0 k1 k2 hc0
  go_quiet (fail)
  clear g1 g2 g3
  go_wp2
  go_ret
  exact ⟨by rw [HS.out]; rfl, hG.dn _⟩

/-- Length, as the document says -/
def lenV (north cols lofts wrong : Int) (east : List Int) (svs : List Sv) (px py qx qy rule : Int) : Value :=
  if checkE north cols east lofts svs wrong = 0 then
    if isPlaceB cols east.length px py && (isPlaceB cols east.length qx qy && isInB rule 0 2) then .tuple #[.int .i64 (rnd rule (sqI north east px py qx qy).toNat : Nat), .int .i64 0] else .tuple #[.int .i64 0, .int .i64 1]
  else .tuple #[.int .i64 0, .int .i64 (checkE north cols east lofts svs wrong)]
section
variable (north cols lofts wrong px py qx qy rule : Int) (east : List Int) (svs : List Sv) (ea sa : Option Addr) (ec sc : Nat) (w : World)
set_option maxHeartbeats 4000000 in
theorem rLength_any (he : IntsAt w ea east) (hs : SvsAt w sa svs) (hl : east.length ≤ 9223372036854775807) (hl2 : svs.length ≤ 9223372036854775807) :
    Calls Tryz.prog 62 #[.agg #[.int .i64 north, .int .i64 cols, .slice ea east.length ec, .int .i64 lofts, .slice sa svs.length sc, .int .i64 wrong], .agg #[.int .i64 px, .int .i64 py], .agg #[.int .i64 qx, .int .i64 qy], .int .i64 rule] w fun e w' => e = .returned (lenV north cols lofts wrong east svs px py qx qy rule) ∧ G w w' := by
  have hC := Lib.hid (fun (W : World) (hW : G w W) => rCheck_any north cols lofts wrong east svs ea sa ec sc W (he.below hW) (hs.below hW) hl hl2)
  obtain ⟨g0, b0, b1, b2⟩ := w3_spec w #[.int .i64 north, .int .i64 cols, .slice ea east.length ec, .int .i64 lofts, .slice sa svs.length sc, .int .i64 wrong] #[.int .i64 px, .int .i64 py] #[.int .i64 qx, .int .i64 qy] 25 27 27
  by_cases hk : checkE north cols east lofts svs wrong = 0
  · have HL : Hid (lenV north cols lofts wrong east svs px py qx qy rule = if isPlaceB cols east.length px py && (isPlaceB cols east.length qx qy && isInB rule 0 2) then .tuple #[.int .i64 (rnd rule (sqI north east px py qx qy).toNat : Nat), .int .i64 0] else .tuple #[.int .i64 0, .int .i64 1]) := by unfold lenV Hid; rw [if_pos hk]
    rw [hk] at hC
    have hv := checkE_ok hk
    have hvb := vm_bounds hv
    have hcb : 0 ≤ cols ∧ cols ≤ 9223372036854775807 := by omega
    have HPl := Lib.hid (fun (W : World) (x y : Int) => rPlace_any north cols lofts wrong x y ea east.length ec (.slice sa svs.length sc) W hcb hl)
    rcases and4 (isPlaceB cols east.length px py) (isPlaceB cols east.length qx qy) (isInB rule 0 2) with h1 | ⟨h1, h2⟩ | ⟨h1, h2, h3⟩ | ⟨h1, h2, h3⟩
    case inr.inr.inr =>
      have hr : 0 ≤ rule ∧ rule ≤ 2 := by simp [isInB] at h3; omega
      have hpy : 0 ≤ py ∧ 0 ≤ qy := by simp [isPlaceB, isInB] at h1 h2; omega
      obtain ⟨p, rfl⟩ := Int.eq_ofNat_of_zero_le hpy.1
      obtain ⟨q, rfl⟩ := Int.eq_ofNat_of_zero_le hpy.2
      have hp' : isInB px 0 (cols - 1) = true ∧ p < east.length := by simp [isPlaceB, isInB] at h1 ⊢; omega
      have hq' : isInB qx 0 (cols - 1) = true ∧ q < east.length := by simp [isPlaceB, isInB] at h2 ⊢; omega
      have hsb := sq_bd hv hp'.2 hq'.2 hp'.1 hq'.1
      have HS := Lib.hid (fun (W : World) (hW : G w W) => rSquare_any north cols lofts wrong px qx p q east ea ec (.slice sa svs.length sc) W (he.below hW) hv hp'.2 hq'.2 hp'.1 hq'.1)
      have HR := Lib.hid (fun (W : World) => rRounded_any (sqI north east px p qx q) rule W (by omega) hr)
      have hV : lenV north cols lofts wrong east svs px p qx q rule = .tuple #[.int .i64 (rnd rule (sqI north east px p qx q).toNat : Nat), .int .i64 0] := by rw [HL.out, h1, h2, h3]; rfl
      rw [hV]
      clear HL hV hv hvb hcb hr hpy hp' hq' hsb hk
      generalize sqI north east px p qx q = S at *
      go_enter Tryz.func62, Tryz.ntmps62
      go_wp2_with (first | (go_at_call 74; refine (hC.out _ g0).mono ?_; rintro e w1 ⟨rfl, hG1⟩; replace b0 := b0.keep hG1; replace b1 := b1.keep hG1; replace b2 := b2.keep hG1; replace g0 := g0.t hG1; clear hG1; have m0 := b0.cell 0; have m1 := b0.cell 1; have m2 := b0.cell 2; have m3 := b0.cell 3; have m4 := b0.cell 4; have m5 := b0.cell 5; have p0 := b1.cell 0; have p1 := b1.cell 1; have q0 := b2.cell 0; have q1 := b2.cell 1; have lM := b0.lt; have lP := b1.lt; have lQ := b2.lt) | (go_at_call 53; refine (HPl.out _ _ _).mono ?_; rintro e w1 ⟨rfl, hG1⟩; clear m0 m1 m2 m3 m4 m5 p0 p1 q0 q1 lM lP lQ; replace b0 := b0.keep hG1; replace b1 := b1.keep hG1; replace b2 := b2.keep hG1; replace g0 := g0.t hG1; clear hG1; have m0 := b0.cell 0; have m1 := b0.cell 1; have m2 := b0.cell 2; have m3 := b0.cell 3; have m4 := b0.cell 4; have m5 := b0.cell 5; have p0 := b1.cell 0; have p1 := b1.cell 1; have q0 := b2.cell 0; have q1 := b2.cell 1; have lM := b0.lt; have lP := b1.lt; have lQ := b2.lt) | (go_at_call 92; refine (rIsRule_any _ _).mono ?_; rintro e w1 ⟨rfl, hG1⟩; clear m0 m1 m2 m3 m4 m5 p0 p1 q0 q1 lM lP lQ; replace b0 := b0.keep hG1; replace b1 := b1.keep hG1; replace b2 := b2.keep hG1; replace g0 := g0.t hG1; clear hG1; have m0 := b0.cell 0; have m1 := b0.cell 1; have m2 := b0.cell 2; have m3 := b0.cell 3; have m4 := b0.cell 4; have m5 := b0.cell 5; have p0 := b1.cell 0; have p1 := b1.cell 1; have q0 := b2.cell 0; have q1 := b2.cell 1; have lM := b0.lt; have lP := b1.lt; have lQ := b2.lt) | (go_at_call 94; refine (HS.out _ g0).mono ?_; rintro e w1 ⟨rfl, hG1⟩; replace g0 := g0.t hG1; clear hG1) | (go_at_call 93; refine (HR.out _).mono ?_; rintro e w1 ⟨rfl, hG1⟩; replace g0 := g0.t hG1; clear hG1))
      go_ret2
      exact ⟨rfl, g0⟩
    all_goals
      have hV : lenV north cols lofts wrong east svs px py qx qy rule = .tuple #[.int .i64 0, .int .i64 1] := by rw [HL.out]; simp [*]
      rw [hV]
      clear HL hV hv hvb hcb hk
      go_enter Tryz.func62, Tryz.ntmps62
      go_wp2_with (first | (go_at_call 74; refine (hC.out _ g0).mono ?_; rintro e w1 ⟨rfl, hG1⟩; replace b0 := b0.keep hG1; replace b1 := b1.keep hG1; replace b2 := b2.keep hG1; replace g0 := g0.t hG1; clear hG1; have m0 := b0.cell 0; have m1 := b0.cell 1; have m2 := b0.cell 2; have m3 := b0.cell 3; have m4 := b0.cell 4; have m5 := b0.cell 5; have p0 := b1.cell 0; have p1 := b1.cell 1; have q0 := b2.cell 0; have q1 := b2.cell 1; have lM := b0.lt; have lP := b1.lt; have lQ := b2.lt) | (go_at_call 53; refine (HPl.out _ _ _).mono ?_; rintro e w1 ⟨rfl, hG1⟩; clear m0 m1 m2 m3 m4 m5 p0 p1 q0 q1 lM lP lQ; replace b0 := b0.keep hG1; replace b1 := b1.keep hG1; replace b2 := b2.keep hG1; replace g0 := g0.t hG1; clear hG1; have m0 := b0.cell 0; have m1 := b0.cell 1; have m2 := b0.cell 2; have m3 := b0.cell 3; have m4 := b0.cell 4; have m5 := b0.cell 5; have p0 := b1.cell 0; have p1 := b1.cell 1; have q0 := b2.cell 0; have q1 := b2.cell 1; have lM := b0.lt; have lP := b1.lt; have lQ := b2.lt) | (go_at_call 92; refine (rIsRule_any _ _).mono ?_; rintro e w1 ⟨rfl, hG1⟩; clear m0 m1 m2 m3 m4 m5 p0 p1 q0 q1 lM lP lQ; replace b0 := b0.keep hG1; replace b1 := b1.keep hG1; replace b2 := b2.keep hG1; replace g0 := g0.t hG1; clear hG1; have m0 := b0.cell 0; have m1 := b0.cell 1; have m2 := b0.cell 2; have m3 := b0.cell 3; have m4 := b0.cell 4; have m5 := b0.cell 5; have p0 := b1.cell 0; have p1 := b1.cell 1; have q0 := b2.cell 0; have q1 := b2.cell 1; have lM := b0.lt; have lP := b1.lt; have lQ := b2.lt))
      go_ret2
      exact ⟨rfl, g0⟩
  · have hV : lenV north cols lofts wrong east svs px py qx qy rule = .tuple #[.int .i64 0, .int .i64 (checkE north cols east lofts svs wrong)] := by unfold lenV; rw [if_neg hk]
    rw [hV]
    clear hV
    generalize checkE north cols east lofts svs wrong = E at *
    have hE : (E == 0) = false := by simp [hk]
    go_enter Tryz.func62, Tryz.ntmps62
    go_wp2_with (go_at_call 74; refine (hC.out _ g0).mono ?_; rintro e w1 ⟨rfl, hG1⟩)
    go_ret2
    exact ⟨rfl, g0.t hG1⟩
end
end Go.Proofs.YtcekdljjmfkacaaGreat
