import Derived.Test.YtpjfdfddcnocpaaCg
set_option linter.unusedSimpArgs false
set_option linter.unusedVariables false
namespace Go.Proofs.Ytpjfdfddcnocpaa
open Go.RowKit
/-- A world that has grown out of W0: the class for regions that draw their order, whose calls make memory. -/
structure GW (W0 : World) where
  w : World
  g : G W0 w
instance (W0 : World) : Nonempty (GW W0) := ⟨⟨W0, G.rf W0⟩⟩
theorem wp_region_quiet_G {P : Program} {id : Nat} {Q : Exit → Act → World → Prop} {a : Act} {W0 : World} {l : List Oper} (hm : P.follows .mixedOrders = true) (hB : Region.lexB .any l.toArray = true)
    (h : wpQuiet P l.toArray (fun w' => ∃ x : GW W0, w' = x.w) (fun a' => ∀ w', (∃ x : GW W0, w' = x.w) → Q .normal a' w') l a) : (Code.region id l.toArray true).wp P Q a W0 :=
  wp_region_quiet (C := fun w' => ∃ x : GW W0, w' = x.w) hm hB ⟨⟨_, (G.rf W0).d⟩, rfl⟩ (by simpa using h)
theorem Calls.gq {P : Program} {f : FuncId} {args : Array Value} {W0 : World} {x : GW W0} {v : Value}
    (h : Calls P f args x.w fun e w' => e = .returned v ∧ G x.w w') : Calls P f args x.w fun e w'' => e = .returned v ∧ ∃ y : GW W0, w'' = y.w :=
  h.mono fun _ w' ⟨he, hg⟩ => ⟨he, ⟨w', x.g.t hg⟩, rfl⟩
theorem GW.cell {W0 : World} {b o : Nat} {v : Value} (h : W0.cell? ⟨b, o, none⟩ = some v) (hb : b < W0.heap.size) : ∀ x : GW W0, x.w.cell? ⟨b, o, none⟩ = some v := fun x => ((bcellB x.g).1 b o hb).trans h
theorem Blk.gw {W0 : World} {g : Nat} {t : TypeId} {cs : Array Value} (h : Blk W0 g t cs) (i : Nat) {v : Value} (hv : cs[i]? = some v) : ∀ x : GW W0, x.w.cell? ⟨g, i, none⟩ = some v := fun x => ((h.keep x.g).cell i).trans hv

def holdsB (north : Int) (east : List Int) (s : Sv) (x y : Int) : Bool :=
  if s.kind = 1 then isInB x s.xl s.xh && isInB y s.yl s.yh else isInB ((rt (sqI north east s.ax s.ay x y).toNat / 2 : Nat)) s.dl s.dh

theorem svOk_tape {cols lofts : Int} {rows : Nat} {s : Sv} (h : svOk cols rows lofts s = true) (hk : ¬ s.kind = 1) : isPlaceB cols rows s.ax s.ay = true ∧ s.kind = 2 ∧ 0 ≤ s.dl ∧ s.dl ≤ s.dh ∧ s.dh ≤ 100000000 := by
  unfold svOk validSurveyB at h
  rw [if_neg hk] at h
  by_cases h2 : s.kind = 2
  · rw [if_pos h2] at h
    simp only [Bool.and_eq_true, isSpanB, decide_eq_true_eq] at h
    exact ⟨h.2.2.2.1, h2, by omega, by omega, by omega⟩
  · rw [if_neg h2] at h; simp at h

set_option maxHeartbeats 4000000 in
theorem holds_any (north cols lofts wrong x : Int) (q : Nat) (east : List Int) (s : Sv) (ea : Option Addr) (ec : Nat) (sv : Value) (w : World) (he : IntsAt w ea east)
    (hv : validMapB north cols east lofts wrong = true) (hs : svOk cols east.length lofts s = true) (hp : isPlaceB cols east.length x q = true) :
    Calls Try.prog 95 #[.agg #[.int .i64 north, .int .i64 cols, .slice ea east.length ec, .int .i64 lofts, sv, .int .i64 wrong], .agg #[.int .i64 s.loft, .int .i64 s.kind, .int .i64 s.xl, .int .i64 s.xh, .int .i64 s.yl, .int .i64 s.yh, .int .i64 s.ax, .int .i64 s.ay, .int .i64 s.dl, .int .i64 s.dh], .agg #[.int .i64 x, .int .i64 q]] w fun e w' =>
    e = .returned (.bool (holdsB north east s x q)) ∧ G w w' := by
  have hG3 : G w (((w.alloc (.cells #[.int .i64 north, .int .i64 cols, .slice ea east.length ec, .int .i64 lofts, sv, .int .i64 wrong] 25)).alloc (.cells #[.int .i64 s.loft, .int .i64 s.kind, .int .i64 s.xl, .int .i64 s.xh, .int .i64 s.yl, .int .i64 s.yh, .int .i64 s.ax, .int .i64 s.ay, .int .i64 s.dl, .int .i64 s.dh] 56)).alloc (.cells #[.int .i64 x, .int .i64 q] 27)) := (((G.rf _).a _).a _).a _
  have hz3 : w.heap.size + 3 ≤ (((w.alloc (.cells #[.int .i64 north, .int .i64 cols, .slice ea east.length ec, .int .i64 lofts, sv, .int .i64 wrong] 25)).alloc (.cells #[.int .i64 s.loft, .int .i64 s.kind, .int .i64 s.xl, .int .i64 s.xh, .int .i64 s.yl, .int .i64 s.yh, .int .i64 s.ax, .int .i64 s.ay, .int .i64 s.dl, .int .i64 s.dh] 56)).alloc (.cells #[.int .i64 x, .int .i64 q] 27)).heap.size := by simp
  by_cases hk : s.kind = 1
  · have hkb : (s.kind == 1) = true := by simp [hk]
    have HV : Hid (holdsB north east s x q = (isInB x s.xl s.xh && isInB q s.yl s.yh)) := by unfold holdsB Hid; rw [if_pos hk]
    clear hk
    cases h1 : isInB x s.xl s.xh
    all_goals
      go_enter Try.func95, Try.ntmps95
      go_wp2_with (first | (go_at_call 62; refine (isIn_any _ _ _ _).mono ?_; rintro e w' ⟨rfl, hGx⟩; have hcy := (bcellB hGx).1; have hG := G.t (by first | exact hG | exact hG3) hGx; obtain ⟨z0, z1, z2⟩ := sz3 (w := w) hGx (by omega)))
      go_ret
      exact ⟨by rw [HV.out]; simp [*], hG⟩
  · have hkb : (s.kind == 1) = false := by simp [hk]
    obtain ⟨hpl, hk2, hd⟩ := svOk_tape hs hk
    have HV : Hid (holdsB north east s x q = isInB ((rt (sqI north east s.ax s.ay x q).toNat / 2 : Nat)) s.dl s.dh) := by unfold holdsB Hid; rw [if_neg hk]
    have hay : 0 ≤ s.ay := by simp [isPlaceB, isInB] at hpl; omega
    obtain ⟨p, hp0⟩ := Int.eq_ofNat_of_zero_le hay
    rw [hp0] at hpl HV ⊢
    have hp' : isInB s.ax 0 (cols - 1) = true ∧ p < east.length := by simp [isPlaceB, isInB] at hpl ⊢; omega
    have hq' : isInB x 0 (cols - 1) = true ∧ q < east.length := by simp [isPlaceB, isInB] at hp ⊢; omega
    have hsb := sq_bd hv hp'.2 hq'.2 hp'.1 hq'.1
    have hSQ := fun (W : World) (hW : G w W) => square_any north cols lofts wrong s.ax x p q east ea ec sv W (he.below hW) hv hp'.2 hq'.2 hp'.1 hq'.1
    generalize sqI north east s.ax p x q = S at hSQ hsb HV
    have hDN := fun (W : World) => down_any S W (by omega)
    generalize rt S.toNat / 2 = D at hDN HV
    have HSQ := Lib.hid hSQ
    have HDN := Lib.hid hDN
    clear hSQ hDN hp' hq' hv hk hk2 hd hp hpl hs
    rw [hp0] at hG3 hz3
    clear hp0 hay
    go_enter Try.func95, Try.ntmps95
    go_wp2_with fail
    obtain ⟨W0, hW0⟩ : ∃ W0, (((w.alloc (.cells #[.int .i64 north, .int .i64 cols, .slice ea east.length ec, .int .i64 lofts, sv, .int .i64 wrong] 25)).alloc (.cells #[.int .i64 s.loft, .int .i64 s.kind, .int .i64 s.xl, .int .i64 s.xh, .int .i64 s.yl, .int .i64 s.yh, .int .i64 s.ax, .int .i64 p, .int .i64 s.dl, .int .i64 s.dh] 56)).alloc (.cells #[.int .i64 x, .int .i64 q] 27)) = W0 := ⟨_, rfl⟩
    have k0 : Blk W0 w.heap.size 25 #[.int .i64 north, .int .i64 cols, .slice ea east.length ec, .int .i64 lofts, sv, .int .i64 wrong] := by rw [← hW0]; exact ((Blk.new _ _ _).alloc _).alloc _
    have k1 : Blk W0 (w.heap.size + 1) 56 #[.int .i64 s.loft, .int .i64 s.kind, .int .i64 s.xl, .int .i64 s.xh, .int .i64 s.yl, .int .i64 s.yh, .int .i64 s.ax, .int .i64 p, .int .i64 s.dl, .int .i64 s.dh] := by rw [← hW0]; exact (Blk.new1 _ _ _ _).alloc _
    have k2 : Blk W0 (w.heap.size + 1 + 1) 27 #[.int .i64 x, .int .i64 q] := by rw [← hW0]; exact Blk.new2 _ _ _ _ _
    rw [hW0] at hG3 ⊢
    clear hW0 hz3
    have a0 := k0.gw 0 rfl
    have a1 := k0.gw 1 rfl
    have a2 := k0.gw 2 rfl
    have a3 := k0.gw 3 rfl
    have a4 := k0.gw 4 rfl
    have a5 := k0.gw 5 rfl
    have b6 := k1.gw 6 rfl
    have b7 := k1.gw 7 rfl
    have b8 := k1.gw 8 rfl
    have b9 := k1.gw 9 rfl
    have c0 := k2.gw 0 rfl
    have c1 := k2.gw 1 rfl
    refine wp_region_quiet_G (by kernel_rfl) (by kernel_rfl) ?_
    repeat (quiet_step (first | (go_at_call 55; exact Calls.gq (HSQ.out _ (hG3.t (GW.g _)))) | (go_at_call 63; exact Calls.gq (HDN.out _)) | (go_at_call 62; exact Calls.gq (isIn_any _ _ _ _))))
    refine wpQuiet_nil ?_
    intro _ hw'
    obtain ⟨y, rfl⟩ := hw'
    clear a0 a1 a2 a3 a4 a5 b6 b7 b8 b9 c0 c1
    go_wp2
    go_ret
    exact ⟨by rw [HV.out]; rfl, hG3.t y.g⟩
end Go.Proofs.Ytpjfdfddcnocpaa
