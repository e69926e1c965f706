import Derived.Test.YtpjfdfddcnocpaaRa
import Derived.Test.YtpjfdfddcnocpaaTr
set_option linter.unusedSimpArgs false
set_option linter.unusedVariables false
namespace Go.Proofs.Ytpjfdfddcnocpaa
open Go.RowKit
attribute [local go_sem] Oper.semAt_some

set_option maxHeartbeats 4000000 in
theorem rCheck_any (north cols lofts wrong : Int) (east : List Int) (svs : List Sv) (ea sa : Option Addr) (ec sc : Nat) (w : World) (he : IntsAt w ea east) (hs : SvsAt w sa svs)
    (hl : east.length ≤ 9223372036854775807) (hl2 : svs.length ≤ 9223372036854775807) :
    Calls Try.prog 14 #[.agg #[.int .i64 north, .int .i64 cols, .slice ea east.length ec, .int .i64 lofts, .slice sa svs.length sc, .int .i64 wrong]] w fun e w' =>
    e = .returned (.int .i64 (checkE north cols east lofts svs wrong)) ∧ G w w' := by
  cases hv : validMapB north cols east lofts wrong
  · have HV : Hid (checkE north cols east lofts svs wrong = 20) := by unfold checkE Hid; rw [if_pos hv]
    go_enter Try.func14, Try.ntmps14
    go_wp2_with (go_at_call 49; refine (isMap_any _ _ _ _ _ _ _ _ _ _ _ (he.below ((G.rf _).a _)) hl).mono ?_; rintro e w' ⟨rfl, hbx⟩)
    go_ret
    exact ⟨by rw [HV.out]; rfl, ((G.rf _).a _).t hbx⟩
  · have hvb := vm_bounds hv
    have hcb : 0 ≤ cols ∧ cols ≤ 9223372036854775807 := by omega
    have hlb : 0 ≤ lofts ∧ lofts ≤ 9223372036854775807 := by omega
    clear hvb
    by_cases hn : svs.length > 16
    · have HV : Hid (checkE north cols east lofts svs wrong = 21) := by unfold checkE Hid; rw [if_neg (by rw [hv]; simp), if_pos hn]
      go_enter Try.func14, Try.ntmps14
      go_wp2_with (go_at_call 49; refine (isMap_any _ _ _ _ _ _ _ _ _ _ _ (he.below ((G.rf _).a _)) hl).mono ?_; rintro e w' ⟨rfl, hbx⟩; have hcy := (bcellB hbx).1; have hs0 : w.heap.size < w'.heap.size := (by have := hbx.size; simp at this; omega))
      go_ret
      exact ⟨by rw [HV.out]; rfl, ((G.rf _).a _).t hbx⟩
    · have HV : Hid (checkE north cols east lofts svs wrong = if svs.all (svOk cols east.length lofts) then 0 else 21) := by unfold checkE Hid; rw [if_neg (by rw [hv]; simp), if_neg hn]
      go_enter Try.func14, Try.ntmps14
      go_wp2_with (go_at_call 49; refine (isMap_any _ _ _ _ _ _ _ _ _ _ _ (he.below ((G.rf _).a _)) hl).mono ?_; rintro e w' ⟨rfl, hbx⟩; have bM := (Blk.new w 25 #[.int .i64 north, .int .i64 cols, .slice ea east.length ec, .int .i64 lofts, .slice sa svs.length sc, .int .i64 wrong]).keep hbx; have m4 := bM.cell 4; have hG := G.t ((G.rf _).a _) hbx; clear hbx)
      obtain ⟨w1, rfl⟩ : ∃ w1, w1 = w' := ⟨_, rfl⟩
      go_loopw [3] (fun i wr => ∃ k : Nat, k ≤ svs.length ∧ i = .int .i64 k ∧ Hid ((svs.take k).all (svOk cols east.length lofts) = true) ∧ G w1 wr) (fun i _ => svs.length - (intOf i).toNat)
      case atStart => exact ⟨0, Nat.zero_le _, rfl, Lib.hid rfl, G.rf _⟩
      case round =>
        obtain ⟨k, hk, rfl, hall, hb0⟩ := hrel
        have bR := bM.keep hb0
        have m4 := bR.cell 4
        by_cases hlt : k < svs.length
        · have hs' := hs.below (hG.t hb0)
          rcases hs' with rfl | ⟨b, off, rfl, hbb, hcell⟩
          · simp at hlt
          have hki : (k : Int) < svs.length := by omega
          have hcx := hcell k hlt
          have hs1 := all_take_succ' (svOk cols east.length lofts) svs k hlt
          have hs2 := all_false' (svOk cols east.length lofts) svs k hlt
          generalize svs.getD k default = x at hcx hs1 hs2
          clear hcell hs he bM
          have H1 := Lib.hid hs1
          have H2 := Lib.hid hs2
          clear hs1 hs2
          go_wp2
          refine wp_region_Y (S := fun W' => Blk W' w.heap.size 25 #[.int .i64 north, .int .i64 cols, .slice ea east.length ec, .int .i64 lofts, .slice (some ⟨b, off, none⟩) svs.length sc, .int .i64 wrong] ∧ SvCells W' b (off + k * 10) x) 6 8 rfl (by kernel_rfl) ⟨bR, hcx⟩ (fun hS => ?_)
          obtain ⟨Sp, hSp⟩ : ∃ Sp : World → Prop, Sp = fun W' => Blk W' w.heap.size 25 #[.int .i64 north, .int .i64 cols, .slice ea east.length ec, .int .i64 lofts, .slice (some ⟨b, off, none⟩) svs.length sc, .int .i64 wrong] ∧ SvCells W' b (off + k * 10) x := ⟨_, rfl⟩
          refine wpAnyY_take (i := 0) (v := ?_) rfl (by kernel_rfl) (by kernel_rfl) (by kernel_rfl) (by kernel_rfl) (fun _ _ _ h => h) (Or.inl ⟨by kernel_rfl, ?_⟩) (by assumption) ?_
          rotate_left
          · intro w' hSw; have i0 := hSw.1.cell 0; have i1 := hSw.1.cell 1; have i2 := hSw.1.cell 2; have i3 := hSw.1.cell 3; have i4 := hSw.1.cell 4; have i5 := hSw.1.cell 5; go_simp; with_reducible rfl
          try simp only [Act.put, List.setIfInBounds_toArray, List.set_cons_zero, List.set_cons_succ]
          refine wpAnyY_take (i := 1) (v := ?_) rfl (by kernel_rfl) (by kernel_rfl) (by kernel_rfl) (by kernel_rfl) (fun _ _ _ h => h) (Or.inl ⟨by kernel_rfl, ?_⟩) (by assumption) ?_
          rotate_left
          · intro w' hSw; go_simp; with_reducible rfl
          try simp only [Act.put, List.setIfInBounds_toArray, List.set_cons_zero, List.set_cons_succ]
          refine wpAnyY_take (i := 2) (v := ?_) rfl (by kernel_rfl) (by kernel_rfl) (by kernel_rfl) (by kernel_rfl) (fun _ _ _ h => h) (Or.inl ⟨by kernel_rfl, ?_⟩) (by assumption) ?_
          rotate_left
          · intro w' hSw; have i0 := hSw.1.cell 0; have i1 := hSw.1.cell 1; have i2 := hSw.1.cell 2; have i3 := hSw.1.cell 3; have i4 := hSw.1.cell 4; have i5 := hSw.1.cell 5; go_simp; with_reducible rfl
          try simp only [Act.put, List.setIfInBounds_toArray, List.set_cons_zero, List.set_cons_succ]
          refine wpAnyY_take (i := 3) (v := ?_) rfl (by kernel_rfl) (by kernel_rfl) (by kernel_rfl) (by kernel_rfl) (fun _ _ _ h => h) (Or.inl ⟨by kernel_rfl, ?_⟩) (by assumption) ?_
          rotate_left
          · intro w' hSw; go_simp; with_reducible rfl
          try simp only [Act.put, List.setIfInBounds_toArray, List.set_cons_zero, List.set_cons_succ]
          refine wpAnyY_take (i := 4) (v := ?_) rfl (by kernel_rfl) (by kernel_rfl) (by kernel_rfl) (by kernel_rfl) (fun _ _ _ h => h) (Or.inl ⟨by kernel_rfl, ?_⟩) (by assumption) ?_
          rotate_left
          · intro w' hSw; go_simp; with_reducible rfl
          try simp only [Act.put, List.setIfInBounds_toArray, List.set_cons_zero, List.set_cons_succ]
          refine wpAnyY_take (i := 5) (v := ?_) rfl (by kernel_rfl) (by kernel_rfl) (by kernel_rfl) (by kernel_rfl) (fun _ _ _ h => h) (Or.inl ⟨by kernel_rfl, ?_⟩) (by assumption) ?_
          rotate_left
          · intro w' hSw; obtain ⟨y0, y1, y2, y3, y4, y5, y6, y7, y8, y9⟩ := hSw.2; go_simp; with_reducible rfl
          try simp only [Act.put, List.setIfInBounds_toArray, List.set_cons_zero, List.set_cons_succ]
          refine wpAnyY_oneW (i := 6) (by kernel_rfl) rfl (by kernel_rfl) (by kernel_rfl) (fun K6 hK6 => ?_)
          go_simp
          refine (rSurvey_any _ _ _ _ _ _ _ _ _ _ _ _ _ _ _ _ _ _ _ hcb hl hlb).mono ?_
          rintro e w2 ⟨rfl, hbx⟩
          have hG2 := (hb0.d).t hbx
          rw [show validSurveyB cols east.length lofts x.loft x.kind x.xl x.xh x.yl x.yh x.ax x.ay x.dl x.dh = svOk cols east.length lofts x from rfl]
          clear hbx hS
          cases hx : svOk cols east.length lofts x
          · refine hK6.out _ _ ?_
            try simp only [Act.put, List.setIfInBounds_toArray, List.set_cons_zero, List.set_cons_succ]
            refine wpAnyY_oneW (i := 7) (by kernel_rfl) rfl (by kernel_rfl) (by kernel_rfl) (fun K7 hK7 => ?_)
            go_simp
            refine hK7.out _ _ ?_
            try simp only [Act.put, List.setIfInBounds_toArray, List.set_cons_zero, List.set_cons_succ]
            refine wpAnyY_done (by kernel_rfl) ?_ _
            go_wp2
            go_ret
            exact ⟨by rw [HV.out, H2.out hx]; rfl, hG.t hG2⟩
          · refine hK6.out _ _ ?_
            try simp only [Act.put, List.setIfInBounds_toArray, List.set_cons_zero, List.set_cons_succ]
            refine wpAnyY_oneW (i := 7) (by kernel_rfl) rfl (by kernel_rfl) (by kernel_rfl) (fun K7 hK7 => ?_)
            go_simp
            refine hK7.out _ _ ?_
            try simp only [Act.put, List.setIfInBounds_toArray, List.set_cons_zero, List.set_cons_succ]
            refine wpAnyY_done (by kernel_rfl) ?_ _
            go_wp2
            exact ⟨⟨k + 1, by omega, by simp, Lib.hid (by rw [H1.out, hall.out, hx]; rfl), hG2⟩, by simp [intOf]; omega⟩
        · have HA : Hid (svs.all (svOk cols east.length lofts) = true) := by
            have h2 := hall.out; rw [List.take_of_length_le (by omega)] at h2; exact h2
          go_wp2
          go_ret
          exact ⟨by rw [HV.out, HA.out]; rfl, hG.t hb0⟩
set_option maxHeartbeats 1000000 in
theorem rSquare_any (north cols lofts wrong ax bx : Int) (p q : Nat) (east : List Int) (ea : Option Addr) (ec : Nat) (s : Value) (w : World) (he : IntsAt w ea east)
    (hv : validMapB north cols east lofts wrong = true) (hp : p < east.length) (hq : q < east.length) (h1 : isInB ax 0 (cols - 1) = true) (h2 : isInB bx 0 (cols - 1) = true) :
    Calls Try.prog 18 #[.agg #[.int .i64 north, .int .i64 cols, .slice ea east.length ec, .int .i64 lofts, s, .int .i64 wrong], .agg #[.int .i64 ax, .int .i64 p], .agg #[.int .i64 bx, .int .i64 q]] w fun e w' =>
    e = .returned (.int .i64 (sqI north east ax p bx q)) ∧ G w w' := by
  obtain ⟨hc, hlo, hw, hno, hel, hx⟩ := vm_bounds hv
  simp [isInB] at h1 h2
  have e1 : east.getD p 0 ∈ east := by simp [hp]
  have e2 : east.getD q 0 ∈ east := by simp [hq]
  have b1 := hx _ e1
  have b2 := hx _ e2
  rcases he with rfl | ⟨b, off, rfl, hbb, hcell⟩
  · simp at hp
  have c1 := hcell p hp
  have c2 := hcell q hq
  have HS : Hid (sqI north east ax p bx q = (2 * north * (↑p - ↑q)) * (2 * north * (↑p - ↑q)) + ((east.getD p 0 + east.getD q 0) * (ax - bx)) * ((east.getD p 0 + east.getD q 0) * (ax - bx))) := by
    unfold sqI Hid; simp only [Int.toNat_natCast]
  generalize east.getD p 0 = x at *
  generalize east.getD q 0 = y at *
  obtain ⟨n1, n2⟩ := mul_bd (A := 4000000) (B := 9) (a := 2 * north) (b := (p : Int) - q) (by omega) (by omega) (by omega) (by omega)
  obtain ⟨m1, m2⟩ := mul_bd (A := 4000000) (B := 9) (a := x + y) (b := ax - bx) (by omega) (by omega) (by omega) (by omega)
  obtain ⟨n3, n4⟩ := mul_bd (A := 36000000) (B := 36000000) (a := 2 * north * ((p : Int) - q)) (b := 2 * north * ((p : Int) - q)) (by omega) (by omega) (by omega) (by omega)
  obtain ⟨m3, m4⟩ := mul_bd (A := 36000000) (B := 36000000) (a := (x + y) * (ax - bx)) (b := (x + y) * (ax - bx)) (by omega) (by omega) (by omega) (by omega)
  have hc0 : w.heap.size + 2 < (((w.alloc (.cells #[.int .i64 north, .int .i64 cols, .slice (some ⟨b, off, none⟩) east.length ec, .int .i64 lofts, s, .int .i64 wrong] 25)).alloc (.cells #[.int .i64 ax, .int .i64 p] 27)).alloc (.cells #[.int .i64 bx, .int .i64 q] 27)).heap.size := by simp
  go_enter Try.func18, Try.ntmps18
  go_wp2
  have g1 : IntKind.i64.wrap (x + y) = x + y := IntWalk.i64_in _ (by omega)
  have g2 : IntKind.i64.wrap (ax - bx) = ax - bx := IntWalk.i64_in _ (by omega)
  have g3 : IntKind.i64.wrap ((x + y) * (ax - bx)) = (x + y) * (ax - bx) := IntWalk.i64_in _ (by omega)
  have k1 : (p : Int) < east.length := by omega
  have k2 : (q : Int) < east.length := by omega
  obtain ⟨W0, hW0⟩ : ∃ W0, (((w.alloc (.cells #[.int .i64 north, .int .i64 cols, .slice (some ⟨b, off, none⟩) east.length ec, .int .i64 lofts, s, .int .i64 wrong] 25)).alloc (.cells #[.int .i64 ax, .int .i64 p] 27)).alloc (.cells #[.int .i64 bx, .int .i64 q] 27)) = W0 := ⟨_, rfl⟩
  have hG : G w W0 := by rw [← hW0]; exact (((G.rf _).a _).a _).a _
  have k0 : Blk W0 w.heap.size 25 #[.int .i64 north, .int .i64 cols, .slice (some ⟨b, off, none⟩) east.length ec, .int .i64 lofts, s, .int .i64 wrong] := by rw [← hW0]; exact ((Blk.new _ _ _).alloc _).alloc _
  have k1 : Blk W0 (w.heap.size + 1) 27 #[.int .i64 ax, .int .i64 p] := by rw [← hW0]; exact (Blk.new1 _ _ _ _).alloc _
  have k2 : Blk W0 (w.heap.size + 1 + 1) 27 #[.int .i64 bx, .int .i64 q] := by rw [← hW0]; exact Blk.new2 _ _ _ _ _
  have i1 : W0.cell? ⟨w.heap.size, 2, none⟩ = some (.slice (some ⟨b, off, none⟩) east.length ec) := k0.cell 2
  have i2 : W0.cell? ⟨w.heap.size + 1, 0, none⟩ = some (.int .i64 ax) := k1.cell 0
  have i3 : W0.cell? ⟨w.heap.size + 1, 1, none⟩ = some (.int .i64 p) := k1.cell 1
  have i4 : W0.cell? ⟨w.heap.size + 1 + 1, 0, none⟩ = some (.int .i64 bx) := k2.cell 0
  have i5 : W0.cell? ⟨w.heap.size + 1 + 1, 1, none⟩ = some (.int .i64 q) := k2.cell 1
  have c1' := ((bcellB hG).1 b (off + p) hbb).trans c1
  have c2' := ((bcellB hG).1 b (off + q) hbb).trans c2
  rw [hW0]
  clear hW0 c1 c2 hcell k0 k1 k2 hc0
  go_quiet (fail)
  clear g1 g2 g3
  go_wp2
  go_ret
  exact ⟨by rw [HS.out]; rfl, hG.dn _⟩
end Go.Proofs.Ytpjfdfddcnocpaa
