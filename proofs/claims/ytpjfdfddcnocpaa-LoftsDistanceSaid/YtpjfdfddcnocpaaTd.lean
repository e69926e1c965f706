import Derived.Test.YtpjfdfddcnocpaaTc
import Derived.Test.YtpjfdfddcnocpaaTa
set_option linter.unusedSimpArgs false
set_option linter.unusedVariables false
namespace Go.Proofs.Ytpjfdfddcnocpaa
open Go.RowKit
attribute [local go_sem] Oper.semAt_some

def ZAt (w : World) (a : Option Addr) (l : List (Int × Int)) : Prop := l = [] ∨ ∃ b off, a = some ⟨b, off, none⟩ ∧ b < w.heap.size ∧ ∀ k, k < l.length →
  w.cell? ⟨b, off + k * 2, none⟩ = some (.int .i64 (l.getD k (0, 0)).1) ∧ w.cell? ⟨b, off + k * 2 + 1, none⟩ = some (.int .i64 (l.getD k (0, 0)).2)
theorem ZAt.below {w W : World} {a : Option Addr} {l : List (Int × Int)} (h : ZAt w a l) (hG : G w W) : ZAt W a l := by
  rcases h with rfl | ⟨b, off, rfl, hb, hc⟩
  · exact .inl rfl
  · refine .inr ⟨b, off, rfl, Nat.lt_of_lt_of_le hb hG.size, fun k hk => ?_⟩
    obtain ⟨h1, h2⟩ := hc k hk
    exact ⟨((bcellB hG).1 b _ hb).trans h1, ((bcellB hG).1 b _ hb).trans h2⟩
def natP (l : List (Int × Int)) : List (Nat × Nat) := l.map fun p => (p.1.toNat, p.2.toNat)
theorem natP_get {l : List (Int × Int)} {k : Nat} (h : k < l.length) : (natP l).getD k (0, 0) = ((l.getD k (0, 0)).1.toNat, (l.getD k (0, 0)).2.toNat) := by
  unfold natP
  simp [h]
theorem cost_le (north : Int) (east : List Int) (svs : List Sv) (l : Nat) (p : Nat × Nat) : cost north east svs l p ≤ svs.length := by
  unfold cost wrongN
  exact List.length_filter_le _ _
theorem wrongsOf_succ (north : Int) (east : List Int) (svs : List Sv) (P : List (Nat × Nat)) (k : Nat) : wrongsOf north east svs P (k + 1) = wrongsOf north east svs P k + cost north east svs k (P.getD k (0, 0)) := sumR_succ _ _
theorem wrongsOf_le (north : Int) (east : List Int) (svs : List Sv) (P : List (Nat × Nat)) : ∀ k, wrongsOf north east svs P k ≤ k * svs.length
  | 0 => by simp [wrongsOf]
  | k + 1 => by
    have h1 := wrongsOf_le north east svs P k
    have h2 := cost_le north east svs k (P.getD k (0, 0))
    rw [wrongsOf_succ, Nat.add_mul]
    omega
section
variable (north cols lofts wrong : Int) (east : List Int) (svs : List Sv) (l : List (Int × Int)) (ea sa ta : Option Addr) (ec sc tc : Nat) (w : World)
set_option maxHeartbeats 4000000 in
theorem rWrongs_any (he : IntsAt w ea east) (hs : SvsAt w sa svs) (ht : ZAt w ta l) (hl2 : svs.length ≤ 16) (hv : validMapB north cols east lofts wrong = true) (hso : svs.all (svOk cols east.length lofts) = true)
    (hlen : l.length ≤ 8) (hp : ∀ p ∈ l, isPlaceB cols east.length p.1 p.2 = true) :
    Calls Try.prog 56 #[.agg #[.int .i64 north, .int .i64 cols, .slice ea east.length ec, .int .i64 lofts, .slice sa svs.length sc, .int .i64 wrong], .slice ta l.length tc] w fun e w' =>
    e = .returned (.int .i64 (wrongsOf north east svs (natP l) l.length)) ∧ G w w' := by
  have hH := fun (W : World) (hW : G w W) (k : Int) (x : Int) (q : Nat) (hq : isPlaceB cols east.length x q = true) => rCost_any north cols lofts wrong k x q east svs ea sa ec sc W (he.below hW) (hs.below hW) hl2 hv hso hq
  have HH := Lib.hid hH
  have HP := Lib.hid hp
  clear hH hv hso he hs hp
  have hG0 : G w (w.alloc (.cells #[.int .i64 north, .int .i64 cols, .slice ea east.length ec, .int .i64 lofts, .slice sa svs.length sc, .int .i64 wrong] 25)) := (G.rf _).a _
  have k0 := Blk.new w 25 #[.int .i64 north, .int .i64 cols, .slice ea east.length ec, .int .i64 lofts, .slice sa svs.length sc, .int .i64 wrong]
  go_enter Try.func56, Try.ntmps56
  go_wp2_with fail
  obtain ⟨W0, hW0⟩ : ∃ W0, (w.alloc (.cells #[.int .i64 north, .int .i64 cols, .slice ea east.length ec, .int .i64 lofts, .slice sa svs.length sc, .int .i64 wrong] 25)) = W0 := ⟨_, rfl⟩
  rw [hW0] at hG0 k0 ⊢
  clear hW0
  go_loopw [5, 6] (fun n i wr => ∃ k : Nat, k ≤ l.length ∧ i = .int .i64 k ∧ n = .int .i64 (wrongsOf north east svs (natP l) k) ∧ G W0 wr) (fun _ i _ => l.length - (intOf i).toNat)
  case atStart => exact ⟨0, Nat.zero_le _, rfl, by simp [wrongsOf], G.rf _⟩
  case round =>
    obtain ⟨k, hk, rfl, rfl, hb0⟩ := hrel
    have hG := hG0.t hb0
    have j0 := k0.keep hb0
    have hsum : wrongsOf north east svs (natP l) k ≤ 128 := by
      refine Nat.le_trans (wrongsOf_le _ _ _ _ _) ?_
      exact Nat.mul_le_mul (show k ≤ 8 by omega) hl2
    by_cases hlt : k < l.length
    · rcases ht.below hG with rfl | ⟨b, off, rfl, hbb, hcell⟩
      · simp at hlt
      have hki : (k : Int) < l.length := by omega
      obtain ⟨c0, c1⟩ := hcell k hlt
      have hpx := HP.out (l.getD k (0, 0)) (by simp [hlt])
      have hfs := wrongsOf_succ north east svs (natP l) k
      have hco := cost_le north east svs k ((natP l).getD k (0, 0))
      rw [natP_get hlt] at hfs hco
      generalize l.getD k (0, 0) = p at *
      obtain ⟨x, y⟩ := p
      have hy0 : 0 ≤ y ∧ 0 ≤ x := by simp [isPlaceB, isInB] at hpx; omega
      obtain ⟨q, rfl⟩ := Int.eq_ofNat_of_zero_le hy0.1
      obtain ⟨xn, rfl⟩ := Int.eq_ofNat_of_zero_le hy0.2
      have hc : cost north east svs k (xn, q) = wrongN north east svs k xn q := rfl
      simp only [Int.toNat_natCast] at hfs hco
      rw [hc] at hfs hco
      have hH2 := fun (W : World) (hW : G w W) => HH.out W hW k xn q hpx
      generalize wrongN north east svs k xn q = cc at *
      have HH2 := Lib.hid hH2
      have HF := Lib.hid hfs
      clear hH2 HH hpx hcell ht k0 hc hfs
      have m0 := j0.gw 0 rfl
      have m1 := j0.gw 1 rfl
      have m2 := j0.gw 2 rfl
      have m3 := j0.gw 3 rfl
      have m4 := j0.gw 4 rfl
      have m5 := j0.gw 5 rfl
      replace c0 := GW.cell c0 hbb
      replace c1 := GW.cell c1 hbb
      have l0 := j0.lt
      have x1 : IntKind.i64.wrap ((wrongsOf north east svs (natP l) k : Int) + cc) = (wrongsOf north east svs (natP l) k : Int) + cc := IntWalk.i64_in _ (by omega)
      clear j0
      go_wp2
      refine wp_region_quiet_G (by kernel_rfl) (by kernel_rfl) ?_
      repeat (quiet_step (first | (go_at_call 85; exact Calls.gq (HH2.out _ (hG.t (GW.g _))))))
      refine wpQuiet_nil ?_
      intro _ hw'
      obtain ⟨y, rfl⟩ := hw'
      clear m0 m1 m2 m3 m4 m5 c0 c1
      go_wp2
      go_roundw
      case rel => exact ⟨k + 1, by omega, by go_num, by rw [HF.out]; go_num, hb0.t y.g⟩
      case measure => simp [intOf]; omega
    · obtain rfl : k = l.length := by omega
      have hki : ¬ ((l.length : Nat) : Int) < l.length := by omega
      go_wp2
      go_ret
      exact ⟨rfl, hG⟩

/-- IsTruth's answer -/
def truthB (north cols lofts wrong : Int) (east : List Int) (svs : List Sv) (l : List (Int × Int)) : Bool :=
  l.all (fun p => isPlaceB cols east.length p.1 p.2) && ((l.length : Int) == lofts && decide ((wrongsOf north east svs (natP l) l.length : Int) ≤ wrong))
set_option maxHeartbeats 4000000 in
theorem rIsTruth_any (he : IntsAt w ea east) (hs : SvsAt w sa svs) (ht : ZAt w ta l) (hk : checkE north cols east lofts svs wrong = 0) (hll : l.length ≤ 9223372036854775807) :
    Calls Try.prog 20 #[.agg #[.int .i64 north, .int .i64 cols, .slice ea east.length ec, .int .i64 lofts, .slice sa svs.length sc, .int .i64 wrong], .slice ta l.length tc] w fun e w' =>
    e = .returned (.bool (truthB north cols lofts wrong east svs l)) ∧ G w w' := by
  obtain ⟨hv, hl2, hso⟩ := checkE_zero hk
  have hvb := vm_bounds hv
  have hcb : 0 ≤ cols ∧ cols ≤ 9223372036854775807 := by omega
  have helb : east.length ≤ 9223372036854775807 := by omega
  have hH := fun (W : World) (hW : G w W) (hlen : l.length ≤ 8) (hp : ∀ p ∈ l, isPlaceB cols east.length p.1 p.2 = true) => rWrongs_any north cols lofts wrong east svs l ea sa ta ec sc tc W (he.below hW) (hs.below hW) (ht.below hW) hl2 hv hso hlen hp
  have HH := Lib.hid hH
  have hlo8 : lofts ≤ 8 := by omega
  clear hH hv hso he hs hvb hk
  have hG0 : G w (w.alloc (.cells #[.int .i64 north, .int .i64 cols, .slice ea east.length ec, .int .i64 lofts, .slice sa svs.length sc, .int .i64 wrong] 25)) := (G.rf _).a _
  have k0 := Blk.new w 25 #[.int .i64 north, .int .i64 cols, .slice ea east.length ec, .int .i64 lofts, .slice sa svs.length sc, .int .i64 wrong]
  have HT : Hid (truthB north cols lofts wrong east svs l = (l.all (fun p => isPlaceB cols east.length p.1 p.2) && ((l.length : Int) == lofts && decide ((wrongsOf north east svs (natP l) l.length : Int) ≤ wrong)))) := rfl
  obtain ⟨pl, hpl⟩ : ∃ pl : Int × Int → Bool, pl = fun p => isPlaceB cols east.length p.1 p.2 := ⟨_, rfl⟩
  have hpl' : ∀ x y, pl (x, y) = isPlaceB cols east.length x y := fun x y => by rw [hpl]
  rw [← hpl] at HT
  have HH' : Hid (∀ W, G w W → l.length ≤ 8 → (∀ p ∈ l, pl p = true) → Calls Try.prog 56 #[.agg #[.int .i64 north, .int .i64 cols, .slice ea east.length ec, .int .i64 lofts, .slice sa svs.length sc, .int .i64 wrong], .slice ta l.length tc] W fun e w' =>
    e = .returned (.int .i64 (wrongsOf north east svs (natP l) l.length)) ∧ G W w') := by rw [hpl]; exact HH.out
  clear HH hpl
  go_enter Try.func20, Try.ntmps20
  go_wp2_with fail
  obtain ⟨W0, hW0⟩ : ∃ W0, (w.alloc (.cells #[.int .i64 north, .int .i64 cols, .slice ea east.length ec, .int .i64 lofts, .slice sa svs.length sc, .int .i64 wrong] 25)) = W0 := ⟨_, rfl⟩
  rw [hW0] at hG0 k0 ⊢
  clear hW0
  go_loopw [5] (fun i wr => ∃ k : Nat, k ≤ l.length ∧ i = .int .i64 k ∧ Hid ((l.take k).all pl = true) ∧ G W0 wr) (fun i _ => l.length - (intOf i).toNat)
  case atStart => exact ⟨0, Nat.zero_le _, rfl, rfl, G.rf _⟩
  case round =>
    obtain ⟨k, hk, rfl, hall, hb0⟩ := hrel
    have hG := hG0.t hb0
    have j0 := k0.keep hb0
    have m0 := j0.gw 0 rfl
    have m1 := j0.gw 1 rfl
    have m2 := j0.gw 2 rfl
    have m3 := j0.gw 3 rfl
    have m4 := j0.gw 4 rfl
    have m5 := j0.gw 5 rfl
    have l0 := j0.lt
    by_cases hlt : k < l.length
    · rcases ht.below hG with rfl | ⟨b, off, rfl, hbb, hcell⟩
      · simp at hlt
      have hki : (k : Int) < l.length := by omega
      obtain ⟨c0, c1⟩ := hcell k hlt
      replace c0 := GW.cell c0 hbb
      replace c1 := GW.cell c1 hbb
      have hs1 : (l.take (k + 1)).all pl = ((l.take k).all pl && pl (l.getD k (0, 0))) := by
        rw [List.take_succ_eq_append_getElem hlt, List.all_append]
        simp [hlt]
      have hs2 : pl (l.getD k (0, 0)) = false → l.all pl = false := fun h => by
        rw [List.all_eq_false]
        exact ⟨l.getD k (0, 0), by simp [hlt], by rw [h]; simp⟩
      generalize l.getD k (0, 0) = p at *
      obtain ⟨x, y⟩ := p
      rw [hpl'] at hs1 hs2
      have H1 := Lib.hid hs1
      have H2 := Lib.hid hs2
      clear hs1 hs2 hcell ht k0 j0
      cases hb : isPlaceB cols east.length x y
      · have hf := H2.out hb
        have HB : Hid (truthB north cols lofts wrong east svs l = false) := by unfold Hid; rw [HT.out, hf]; rfl
        clear hf
        have HPl := Lib.hid (fun (W : World) => rPlace_any north cols lofts wrong x y ea east.length ec (.slice sa svs.length sc) W hcb helb)
        rw [hb] at HPl
        go_wp2
        refine wp_region_quiet_G (by kernel_rfl) (by kernel_rfl) ?_
        repeat (quiet_step (first | (go_at_call 15; exact Calls.gq (HPl.out _))))
        refine wpQuiet_nil ?_
        intro _ hw'
        obtain ⟨y, rfl⟩ := hw'
        clear m0 m1 m2 m3 m4 m5 c0 c1
        go_wp2
        go_ret
        exact ⟨by rw [HB.out]; rfl, hG.t y.g⟩
      · have HB := Lib.hid (show (l.take (k + 1)).all pl = true by rw [H1.out, hall.out, hb]; rfl)
        have HPl := Lib.hid (fun (W : World) => rPlace_any north cols lofts wrong x y ea east.length ec (.slice sa svs.length sc) W hcb helb)
        rw [hb] at HPl
        go_wp2
        refine wp_region_quiet_G (by kernel_rfl) (by kernel_rfl) ?_
        repeat (quiet_step (first | (go_at_call 15; exact Calls.gq (HPl.out _))))
        refine wpQuiet_nil ?_
        intro _ hw'
        obtain ⟨y, rfl⟩ := hw'
        clear m0 m1 m2 m3 m4 m5 c0 c1
        go_wp2
        go_roundw
        case rel => exact ⟨k + 1, by omega, by go_num, HB, hb0.t y.g⟩
        case measure => simp [intOf]; omega
    · have hki : ¬ (k : Int) < l.length := by omega
      have ha : l.all pl = true := by
        have := hall.out
        rwa [List.take_of_length_le (by omega)] at this
      have HA : Hid (truthB north cols lofts wrong east svs l = ((l.length : Int) == lofts && decide ((wrongsOf north east svs (natP l) l.length : Int) ≤ wrong))) := by unfold Hid; rw [HT.out, ha]; rfl
      have HC := Lib.hid (fun (W : World) (hW : G w W) (hlen : l.length ≤ 8) => HH'.out W hW hlen (List.all_eq_true.1 ha))
      clear ha hall ht j0 k0
      by_cases hle : (l.length : Int) = lofts
      · have hleb : ((l.length : Int) == lofts) = true := by simp [hle]
        have hl8 : l.length ≤ 8 := by omega
        rw [hleb] at HA
        clear hle
        generalize wrongsOf north east svs (natP l) l.length = N at *
        by_cases hN : (N : Int) ≤ wrong
        all_goals
          go_wp2
          refine wp_region_quiet_G (by kernel_rfl) (by kernel_rfl) ?_
          repeat (quiet_step (first | (go_at_call 56; exact Calls.gq (HC.out _ (hG.t (GW.g _)) hl8))))
          refine wpQuiet_nil ?_
          intro _ hw'
          obtain ⟨y, rfl⟩ := hw'
          clear m0 m1 m2 m3 m4 m5
          go_wp2
          go_ret
          exact ⟨by rw [HA.out]; simp [hN], hG.t y.g⟩
      · have hleb : ((l.length : Int) == lofts) = false := by simp [hle]
        rw [hleb] at HA
        clear hle
        go_wp2
        refine wp_region_quiet_G (by kernel_rfl) (by kernel_rfl) ?_
        repeat (quiet_step (first | (go_at_call 56; exact Calls.gq (HC.out _ (hG.t (GW.g _)) (by omega)))))
        refine wpQuiet_nil ?_
        intro _ hw'
        obtain ⟨y, rfl⟩ := hw'
        clear m0 m1 m2 m3 m4 m5
        go_wp2
        go_ret
        exact ⟨by rw [HA.out]; rfl, hG.t y.g⟩
end
end Go.Proofs.Ytpjfdfddcnocpaa
