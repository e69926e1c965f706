import Derived.Test.YtpjfdfddcnocpaaTb
set_option linter.unusedSimpArgs false
set_option linter.unusedVariables false
namespace Go.Proofs.Ytpjfdfddcnocpaa
open Go.RowKit
attribute [local go_sem] Oper.semAt_some

set_option maxHeartbeats 4000000 in
theorem rWrong_any (north cols lofts wrong x : Int) (q : Nat) (east : List Int) (s : Sv) (ea : Option Addr) (ec : Nat) (sv : Value) (w : World) (he : IntsAt w ea east)
    (hv : validMapB north cols east lofts wrong = true) (hs : svOk cols east.length lofts s = true) (hp : isPlaceB cols east.length x q = true) :
    Calls Try.prog 73 #[.agg #[.int .i64 north, .int .i64 cols, .slice ea east.length ec, .int .i64 lofts, sv, .int .i64 wrong], .agg #[.int .i64 s.loft, .int .i64 s.kind, .int .i64 s.xl, .int .i64 s.xh, .int .i64 s.yl, .int .i64 s.yh, .int .i64 s.ax, .int .i64 s.ay, .int .i64 s.dl, .int .i64 s.dh], .agg #[.int .i64 x, .int .i64 q]] w fun e w' =>
    e = .returned (.bool (!holdsB north east s x q)) ∧ G w w' := by
  have hG3 : G w (((w.alloc (.cells #[.int .i64 north, .int .i64 cols, .slice ea east.length ec, .int .i64 lofts, sv, .int .i64 wrong] 25)).alloc (.cells #[.int .i64 s.loft, .int .i64 s.kind, .int .i64 s.xl, .int .i64 s.xh, .int .i64 s.yl, .int .i64 s.yh, .int .i64 s.ax, .int .i64 s.ay, .int .i64 s.dl, .int .i64 s.dh] 56)).alloc (.cells #[.int .i64 x, .int .i64 q] 27)) := (((G.rf _).a _).a _).a _
  have hz3 : w.heap.size + 3 ≤ (((w.alloc (.cells #[.int .i64 north, .int .i64 cols, .slice ea east.length ec, .int .i64 lofts, sv, .int .i64 wrong] 25)).alloc (.cells #[.int .i64 s.loft, .int .i64 s.kind, .int .i64 s.xl, .int .i64 s.xh, .int .i64 s.yl, .int .i64 s.yh, .int .i64 s.ax, .int .i64 s.ay, .int .i64 s.dl, .int .i64 s.dh] 56)).alloc (.cells #[.int .i64 x, .int .i64 q] 27)).heap.size := by simp
  by_cases hk : s.kind = 1
  · have hkb : (s.kind == 1) = true := by simp [hk]
    have HV : Hid (holdsB north east s x q = (isInB x s.xl s.xh && isInB q s.yl s.yh)) := by unfold holdsB Hid; rw [if_pos hk]
    clear hk
    cases h1 : isInB x s.xl s.xh
    all_goals
      go_enter Try.func73, Try.ntmps73
      go_wp2_with (first | (go_at_call 51; refine (within_any _ _ _ _).mono ?_; rintro e w' ⟨rfl, hGx⟩; have hcy := (bcellB hGx).1; have hG := G.t (by first | exact hG | exact hG3) hGx; obtain ⟨z0, z1, z2⟩ := sz3 (w := w) hGx (by omega)))
      go_ret
      exact ⟨by rw [HV.out]; simp [*], hG⟩
  · have hkb : (s.kind == 1) = false := by simp [hk]
    obtain ⟨hpl, hk2, hd⟩ := svOk_tape hs hk
    have HV : Hid (holdsB north east s x q = isInB ((rt (sqI north east s.ax s.ay x q).toNat / 2 : Nat)) s.dl s.dh) := by unfold holdsB Hid; rw [if_neg hk]
    have hay : 0 ≤ s.ay := by simp [isPlaceB, isInB] at hpl; omega
    obtain ⟨p, hp0⟩ := Int.eq_ofNat_of_zero_le hay
    rw [hp0] at hpl HV ⊢
    have hp' : isInB s.ax 0 (cols - 1) = true ∧ p < east.length := by simp [isPlaceB, isInB] at hpl ⊢; omega
    have hq' : isInB x 0 (cols - 1) = true ∧ q < east.length := by simp [isPlaceB, isInB] at hp ⊢; omega
    have hsb := sq_bd hv hp'.2 hq'.2 hp'.1 hq'.1
    have hSQ := fun (W : World) (hW : G w W) => rSquare_any north cols lofts wrong x s.ax q p east ea ec sv W (he.below hW) hv hq'.2 hp'.2 hq'.1 hp'.1
    simp only [sqI_comm north east x] at hSQ
    generalize sqI north east s.ax p x q = S at hSQ hsb HV
    have hDN := fun (W : World) => rRounded_any S 0 W (by omega) (by omega)
    rw [show rnd 0 S.toNat = rt S.toNat / 2 from rfl] at hDN
    generalize rt S.toNat / 2 = D at hDN HV
    have HSQ := Lib.hid hSQ
    have HDN := Lib.hid hDN
    clear hSQ hDN hp' hq' hv hk hk2 hd hp hpl hs
    rw [hp0] at hG3 hz3
    clear hp0 hay
    go_enter Try.func73, Try.ntmps73
    go_wp2_with fail
    obtain ⟨W0, hW0⟩ : ∃ W0, (((w.alloc (.cells #[.int .i64 north, .int .i64 cols, .slice ea east.length ec, .int .i64 lofts, sv, .int .i64 wrong] 25)).alloc (.cells #[.int .i64 s.loft, .int .i64 s.kind, .int .i64 s.xl, .int .i64 s.xh, .int .i64 s.yl, .int .i64 s.yh, .int .i64 s.ax, .int .i64 p, .int .i64 s.dl, .int .i64 s.dh] 56)).alloc (.cells #[.int .i64 x, .int .i64 q] 27)) = W0 := ⟨_, rfl⟩
    have k0 : Blk W0 w.heap.size 25 #[.int .i64 north, .int .i64 cols, .slice ea east.length ec, .int .i64 lofts, sv, .int .i64 wrong] := by rw [← hW0]; exact ((Blk.new _ _ _).alloc _).alloc _
    have k1 : Blk W0 (w.heap.size + 1) 56 #[.int .i64 s.loft, .int .i64 s.kind, .int .i64 s.xl, .int .i64 s.xh, .int .i64 s.yl, .int .i64 s.yh, .int .i64 s.ax, .int .i64 p, .int .i64 s.dl, .int .i64 s.dh] := by rw [← hW0]; exact (Blk.new1 _ _ _ _).alloc _
    have k2 : Blk W0 (w.heap.size + 1 + 1) 27 #[.int .i64 x, .int .i64 q] := by rw [← hW0]; exact Blk.new2 _ _ _ _ _
    rw [hW0] at hG3 ⊢
    clear hW0 hz3
    have a0 := k0.gw 0 rfl
    have a1 := k0.gw 1 rfl
    have a2 := k0.gw 2 rfl
    have a3 := k0.gw 3 rfl
    have a4 := k0.gw 4 rfl
    have a5 := k0.gw 5 rfl
    have b6 := k1.gw 6 rfl
    have b7 := k1.gw 7 rfl
    have b8 := k1.gw 8 rfl
    have b9 := k1.gw 9 rfl
    have c0 := k2.gw 0 rfl
    have c1 := k2.gw 1 rfl
    refine wp_region_quiet_G (by kernel_rfl) (by kernel_rfl) ?_
    repeat (quiet_step (first | (go_at_call 18; exact Calls.gq (HSQ.out _ (hG3.t (GW.g _)))) | (go_at_call 69; exact Calls.gq (HDN.out _)) | (go_at_call 51; exact Calls.gq (within_any _ _ _ _))))
    refine wpQuiet_nil ?_
    intro _ hw'
    obtain ⟨y, rfl⟩ := hw'
    clear a0 a1 a2 a3 a4 a5 b6 b7 b8 b9 c0 c1
    go_wp2
    go_ret
    exact ⟨by rw [HV.out]; rfl, hG3.t y.g⟩

set_option maxHeartbeats 4000000 in
theorem rCost_any (north cols lofts wrong loft x : Int) (q : Nat) (east : List Int) (svs : List Sv) (ea sa : Option Addr) (ec sc : Nat) (w : World) (he : IntsAt w ea east) (hs : SvsAt w sa svs)
    (hl2 : svs.length ≤ 16) (hv : validMapB north cols east lofts wrong = true) (hso : svs.all (svOk cols east.length lofts) = true) (hp : isPlaceB cols east.length x q = true) :
    Calls Try.prog 85 #[.agg #[.int .i64 north, .int .i64 cols, .slice ea east.length ec, .int .i64 lofts, .slice sa svs.length sc, .int .i64 wrong], .int .i64 loft, .agg #[.int .i64 x, .int .i64 q]] w fun e w' =>
    e = .returned (.int .i64 (wrongN north east svs loft x q)) ∧ G w w' := by
  have hH := fun (W : World) (hW : G w W) (s : Sv) (hs : svOk cols east.length lofts s = true) => rWrong_any north cols lofts wrong x q east s ea ec (.slice sa svs.length sc) W (he.below hW) hv hs hp
  have HH := Lib.hid hH
  clear hH he hv
  go_enter Try.func85, Try.ntmps85
  go_wp2_with fail
  obtain ⟨W0, hW0⟩ : ∃ W0, ((w.alloc (.cells #[.int .i64 north, .int .i64 cols, .slice ea east.length ec, .int .i64 lofts, .slice sa svs.length sc, .int .i64 wrong] 25)).alloc (.cells #[.int .i64 x, .int .i64 q] 27)) = W0 := ⟨_, rfl⟩
  have hG0 : G w W0 := by rw [← hW0]; exact ((G.rf _).a _).a _
  have k0 : Blk W0 w.heap.size 25 #[.int .i64 north, .int .i64 cols, .slice ea east.length ec, .int .i64 lofts, .slice sa svs.length sc, .int .i64 wrong] := by rw [← hW0]; exact (Blk.new _ _ _).alloc _
  have k1 : Blk W0 (w.heap.size + 1) 27 #[.int .i64 x, .int .i64 q] := by rw [← hW0]; exact Blk.new1 _ _ _ _
  rw [hW0]
  clear hW0
  go_loopw [7, 8] (fun n i wr => ∃ k : Nat, k ≤ svs.length ∧ i = .int .i64 k ∧ n = .int .i64 (((svs.take k).filter (badB north east loft x q)).length : Nat) ∧ G W0 wr) (fun _ i _ => svs.length - (intOf i).toNat)
  case atStart => exact ⟨0, Nat.zero_le _, rfl, rfl, G.rf _⟩
  case round =>
    obtain ⟨k, hk, rfl, rfl, hb0⟩ := hrel
    have hG := hG0.t hb0
    have j0 := k0.keep hb0
    have j1 := k1.keep hb0
    have m4 := j0.cell 4
    have l0 := j0.lt
    have l1 := j1.lt
    have hlen : ((svs.take k).filter (badB north east loft x q)).length ≤ k := by
      have := List.length_filter_le (badB north east loft x q) (svs.take k)
      have := List.length_take_le k svs
      omega
    by_cases hlt : k < svs.length
    · have hs' := hs.below hG
      rcases hs' with rfl | ⟨b, off, rfl, hbb, hcell⟩
      · simp at hlt
      have hki : (k : Int) < svs.length := by omega
      have hcx := hcell k hlt
      have hfs := filter_take_succ (badB north east loft x q) svs k hlt
      have hsx : svOk cols east.length lofts (svs.getD k default) = true := by
        have := (List.all_eq_true.1 hso) svs[k] (List.getElem_mem hlt)
        simpa [hlt] using this
      generalize svs.getD k default = s at hcx hfs hsx
      clear hcell hs hso k0 k1
      have hH2 := fun (W : World) (hW : G w W) => HH.out W hW s hsx
      have HH2 := Lib.hid hH2
      clear hH2 HH hsx
      obtain ⟨x0, x1, x2, x3, x4, x5, x6, x7, x8, x9⟩ := hcx
      replace x0 := GW.cell x0 hbb
      replace x1 := GW.cell x1 hbb
      replace x2 := GW.cell x2 hbb
      replace x3 := GW.cell x3 hbb
      replace x4 := GW.cell x4 hbb
      replace x5 := GW.cell x5 hbb
      replace x6 := GW.cell x6 hbb
      replace x7 := GW.cell x7 hbb
      replace x8 := GW.cell x8 hbb
      replace x9 := GW.cell x9 hbb
      have m0 := j0.gw 0 rfl
      have m1 := j0.gw 1 rfl
      have m2 := j0.gw 2 rfl
      have m3 := j0.gw 3 rfl
      have m5 := j0.gw 5 rfl
      have n0 := j1.gw 0 rfl
      have n1 := j1.gw 1 rfl
      have mm := m4
      replace m4 := j0.gw 4 rfl
      clear j0 j1
      have hb : badB north east loft x q s = ((s.loft == loft) && !holdsB north east s x q) := rfl
      by_cases hl : s.loft = loft
      · have hlb : (s.loft == loft) = true := by simp [hl]
        cases hh : holdsB north east s x q
        all_goals
          rw [hlb, hh] at hb
          rw [hb] at hfs
          rw [hh] at HH2
          have HF := Lib.hid hfs
          clear hfs hb hl
          go_wp2
          clear mm
          refine wp_region_quiet_G (by kernel_rfl) (by kernel_rfl) ?_
          repeat (quiet_step (first | (go_at_call 73; exact Calls.gq (HH2.out _ (hG.t (GW.g _))))))
          refine wpQuiet_nil ?_
          intro _ hw'
          obtain ⟨y, rfl⟩ := hw'
          clear x0 x1 x2 x3 x4 x5 x6 x7 x8 x9 m0 m1 m2 m3 m4 m5 n0 n1
          go_wp2
          go_roundw
          case rel => exact ⟨k + 1, by omega, by go_num, by rw [HF.out]; first | rfl | go_num, hb0.t y.g⟩
          case measure => simp [intOf]; omega
      · have hlb : (s.loft == loft) = false := by simp [hl]
        rw [hlb] at hb
        rw [hb] at hfs
        have HF := Lib.hid hfs
        clear hfs hb hl
        go_wp2
        clear mm
        refine wp_region_quiet_G (by kernel_rfl) (by kernel_rfl) ?_
        repeat (quiet_step (fail))
        refine wpQuiet_nil ?_
        intro _ hw'
        obtain ⟨y, rfl⟩ := hw'
        clear x0 x1 x2 x3 x4 x5 x6 x7 x8 x9 m0 m1 m2 m3 m4 m5 n0 n1
        go_wp2
        go_roundw
        case rel => exact ⟨k + 1, by omega, by go_num, by rw [HF.out]; rfl, hb0.t y.g⟩
        case measure => simp [intOf]; omega
    · have : svs.take k = svs := List.take_of_length_le (by omega)
      rw [this]
      have hki : ¬ (k : Int) < svs.length := by omega
      go_wp2
      go_ret
      exact ⟨rfl, hG⟩
end Go.Proofs.Ytpjfdfddcnocpaa
