import Derived.Test.YtpjfdfddcnocpaaGa
import Derived.Test.YtpjfdfddcnocpaaGb
set_option linter.unusedSimpArgs false
set_option linter.unusedVariables false
namespace Go.Proofs.Ytpjfdfddcnocpaa
open Go.RowKit
attribute [local go_sem] Oper.semAt_some

def anyQ (F : Nat × Nat → Nat × Nat → Int) (p : Nat × Nat) (Q : List (Nat × Nat)) (lo : Int) : Bool := Q.any fun q => F p q == lo
def anyF (F : Nat × Nat → Nat × Nat → Int) (P Q : List (Nat × Nat)) (lo : Int) : Bool := P.any fun p => anyQ F p Q lo
theorem anyQ_succ (F : Nat × Nat → Nat × Nat → Int) (p : Nat × Nat) (Q : List (Nat × Nat)) (lo : Int) (k : Nat) (h : k < Q.length) : anyQ F p (Q.take (k + 1)) lo = (anyQ F p (Q.take k) lo || F p (Q.getD k (0, 0)) == lo) := any_take_succ _ _ _ _ h
theorem anyF_succ (F : Nat × Nat → Nat × Nat → Int) (P Q : List (Nat × Nat)) (lo : Int) (k : Nat) (h : k < P.length) : anyF F (P.take (k + 1)) Q lo = (anyF F (P.take k) Q lo || anyQ F (P.getD k (0, 0)) Q lo) := any_take_succ _ _ _ _ h
section
variable (north wrong f r rc px py qx qy : Int) (cn ln an bn : Nat) (east : List Int) (svs : List Sv) (ea sa : Option Addr) (ec sc : Nat) (w : World)
set_option maxRecDepth 100000 in
set_option maxHeartbeats 4000000 in
theorem ends_ok (he : IntsAt w ea east) (hs : SvsAt w sa svs) (hl : east.length ≤ 9223372036854775807) (hl2 : svs.length ≤ 9223372036854775807) (hv : validB north cn east ln svs wrong = true) (hk : checkE north cn east ln svs wrong = 0) (ha : an < ln) (hb : bn < ln) (h3 : ((an : Int) == bn) = false) (h4 : 0 ≤ r ∧ r ≤ 2) (hw : ¬ wrong < fewSum north cn east svs ln) :
    EndsGoal north cn ln wrong f an bn r rc px py qx qy east svs ea sa ec sc w := by
  have hvb := vm_bounds (checkE_ok hk)
  have h20 : east.length * cn ≤ 20 := by
    unfold validB farB at hv
    rw [if_neg (by omega), if_neg (by have := (checkE_zero hk).2.1; omega), hk] at hv
    simp at hv
    have := hv.1
    rw [Int.mul_comm] at this
    omega
  obtain ⟨g0, b0, b1⟩ := w2_spec w #[.int .i64 north, .int .i64 cn, .slice ea east.length ec, .int .i64 ln, .slice sa svs.length sc, .int .i64 wrong] #[.int .i64 f, .int .i64 an, .int .i64 bn, .int .i64 r, .int .i64 rc, .int .i64 px, .int .i64 py, .int .i64 qx, .int .i64 qy] 25 38
  have hV := fun (W : World) (hW : G w W) => valid_any north cn ln wrong east svs ea sa ec sc W (he.below hW) (hs.below hW) hl hl2
  rw [hv] at hV
  have HV := Lib.hid hV
  have hPl : ∀ l, (truthsOf (spotsOf north cn east svs) [l] (wrong - fewSum north cn east svs ln)).length ≤ 20 := fun l => by
    refine Nat.le_trans truths_one_len ?_
    unfold spotsOf
    rw [List.length_map, allP_len]
    exact h20
  have HDi := Lib.hid (fun (W : World) (hW : G w W) => Distance_ok north wrong cn ln an bn east svs ea sa ec sc r W (he.below hW) (hs.below hW) hk h4 ha hb hw (truths_ne hk hw))
  have HPa := Lib.hid (fun (W : World) (hW : G w W) => Places_ok north wrong cn ln an east svs ea sa ec sc W (he.below hW) (hs.below hW) hk ha hw (Nat.le_trans (hPl an) (by omega)))
  have HPb := Lib.hid (fun (W : World) (hW : G w W) => Places_ok north wrong cn ln bn east svs ea sa ec sc W (he.below hW) (hs.below hW) hk hb hw (Nat.le_trans (hPl bn) (by omega)))
  have hgood : ∀ l, ∀ p ∈ (truthsOf (spotsOf north cn east svs) [l] (wrong - fewSum north cn east svs ln)).map fun g => g l, isPlaceB cn east.length p.1 p.2 = true := fun l p hp => by
    obtain ⟨g, hg, rfl⟩ := List.mem_map.1 hp
    obtain ⟨s, hs, _, e⟩ := settleL_more _ _ _ _ g hg l (namesOf_mem' (by simp))
    obtain ⟨e1, e2⟩ := spotsOf_mem hs
    rw [e]
    simp [isPlaceB, isInB]
    omega
  have hne := fun l => truths_ne (ls := [l]) hk hw
  obtain ⟨hE1, hE2, hE3⟩ := end_reached (r := r) (a := an) (b := bn) hk hw
  have HL := Lib.hid (fun (W : World) (hW : G w W) (p q : Nat × Nat) (hp : isPlaceB cn east.length p.1 p.2 = true) (hq : isPlaceB cn east.length q.1 q.2 = true) => Length_ok (north := north) (cols := cn) (lofts := ln) (wrong := wrong) (ax := p.1) (bx := q.1) (east := east) (svs := svs) (ea := ea) (sa := sa) (ec := ec) (sc := sc) (w := W) r p.2 q.2 (he.below hW) (hs.below hW) hl hl2 hk h4 hp hq)
  unfold PlacesPost at HPa HPb
  have hpa := hPl an
  have hpb := hPl bn
  have hga := hgood an
  have hgb := hgood bn
  have hna := hne an
  have hnb := hne bn
  generalize loQ north east an bn (truthsOf (spotsOf north cn east svs) [an, bn] (wrong - fewSum north cn east svs ln)) = lq at *
  generalize hiQ north east an bn (truthsOf (spotsOf north cn east svs) [an, bn] (wrong - fewSum north cn east svs ln)) = hq at *
  generalize (wrong - fewSum north cn east svs ln : Int) = sp at *
  generalize truthsOf (spotsOf north cn east svs) [an] sp = LA at *
  generalize truthsOf (spotsOf north cn east svs) [bn] sp = LB at *
  generalize hlo : rnd r lq.toNat = lo at *
  generalize hhi : rnd r hq.toNat = hi at *
  obtain ⟨F, hF⟩ : ∃ F : Nat × Nat → Nat × Nat → Int, F = fun p q => (lenPQ north east r p q : Int) := ⟨_, rfl⟩
  have HF : ∀ p q : Nat × Nat, ((rnd r (sqI north east p.1 p.2 q.1 q.2).toNat : Nat) : Int) = F p q := fun p q => by rw [hF]; rfl
  have hA1 : anyF F (LA.map fun g => g an) (LB.map fun g => g bn) lo = true := by rw [hF]; exact hE1
  have hA2 : anyF F (LA.map fun g => g an) (LB.map fun g => g bn) hi = true := by rw [hF]; exact hE2
  simp only [HF] at HL
  have HA1 := Lib.hid hA1
  have HA2 := Lib.hid hA2
  have q1 : (decide (0 ≤ (an : Int)) && decide ((an : Int) < ln)) = true := by simp; omega
  have q2 : (decide (0 ≤ (bn : Int)) && decide ((bn : Int) < ln)) = true := by simp; omega
  obtain ⟨r1, r2⟩ := h4
  have r1' : ¬ r < 0 := by omega
  have r2' : ¬ 2 < r := by omega
  have hlh : ¬ hi < lo := by omega
  clear hV hk hw hv hlo hhi hE1 hE2 hA1 hA2 hF HF hE3 hgood hne hPl h20 hvb
  unfold EndsGoal
  go_enter Try.func5, Try.ntmps5
  go_wp2_with (first | (go_at_call 19; refine (HV.out _ g0).mono ?_; rintro e w1 ⟨rfl, hG1⟩; replace b0 := b0.keep hG1; replace b1 := b1.keep hG1; have m0 := b0.cell 0; have m1 := b0.cell 1; have m2 := b0.cell 2; have m3 := b0.cell 3; have m4 := b0.cell 4; have m5 := b0.cell 5; have a1 := b1.cell 1; have a2 := b1.cell 2; have a3 := b1.cell 3; have lM := b0.lt; have lN := b1.lt; replace g0 := g0.t hG1; clear hG1) | (go_at_call 21; refine (lawLoft_any _ _ _ _ _ _ _ _).mono ?_; rintro e w1 ⟨rfl, hG1⟩; clear m0 m1 m2 m3 m4 m5 a1 a2 a3 lM lN; replace b0 := b0.keep hG1; replace b1 := b1.keep hG1; have m0 := b0.cell 0; have m1 := b0.cell 1; have m2 := b0.cell 2; have m3 := b0.cell 3; have m4 := b0.cell 4; have m5 := b0.cell 5; have a1 := b1.cell 1; have a2 := b1.cell 2; have a3 := b1.cell 3; have lM := b0.lt; have lN := b1.lt; replace g0 := g0.t hG1; clear hG1))
  refine (HDi.out _ g0).mono ?_
  rintro e w3 ⟨rfl, hG1⟩
  clear m0 m1 m2 m3 m4 m5 a1 a2 a3 lM lN; replace b0 := b0.keep hG1; replace b1 := b1.keep hG1; have m0 := b0.cell 0; have m1 := b0.cell 1; have m2 := b0.cell 2; have m3 := b0.cell 3; have m4 := b0.cell 4; have m5 := b0.cell 5; have a1 := b1.cell 1; have a2 := b1.cell 2; have a3 := b1.cell 3; have lM := b0.lt; have lN := b1.lt; replace g0 := g0.t hG1; clear hG1
  go_wp2_with fail
  have b2 := Blk.new w3 46 #[.int .i64 lo, .int .i64 hi]
  refine (HPa.out _ (g0.a _)).mono ?_
  rintro e w4 ⟨vP, rfl, hPo, hG1⟩
  replace b2 := b2.keep hG1
  replace hG1 := ((G.rf w3).a (.cells #[.int .i64 lo, .int .i64 hi] 46)).t hG1
  clear m0 m1 m2 m3 m4 m5 a1 a2 a3 lM lN; replace b0 := b0.keep hG1; replace b1 := b1.keep hG1; have m0 := b0.cell 0; have m1 := b0.cell 1; have m2 := b0.cell 2; have m3 := b0.cell 3; have m4 := b0.cell 4; have m5 := b0.cell 5; have a1 := b1.cell 1; have a2 := b1.cell 2; have a3 := b1.cell 3; have lM := b0.lt; have lN := b1.lt; replace g0 := g0.t hG1; clear hG1
  obtain ⟨gP, cP, rfl, lP, hPA⟩ := pts_of hna hPo
  go_wp2_with fail
  refine (HPb.out _ g0).mono ?_
  rintro e w5 ⟨vQ, rfl, hQo, hG1⟩
  obtain ⟨gQ, cQ, rfl, lQ, hPB⟩ := pts_of hnb hQo
  replace b2 := b2.keep hG1
  replace hPA := hPA.keep lP hG1
  have lP := Nat.lt_of_lt_of_le lP hG1.size
  clear m0 m1 m2 m3 m4 m5 a1 a2 a3 lM lN; replace b0 := b0.keep hG1; replace b1 := b1.keep hG1; have m0 := b0.cell 0; have m1 := b0.cell 1; have m2 := b0.cell 2; have m3 := b0.cell 3; have m4 := b0.cell 4; have m5 := b0.cell 5; have a1 := b1.cell 1; have a2 := b1.cell 2; have a3 := b1.cell 3; have lM := b0.lt; have lN := b1.lt; replace g0 := g0.t hG1; clear hG1
  have s0 := b2.cell 0
  have s1 := b2.cell 1
  have lS := b2.lt
  have eP : LA.length = (LA.map fun g => g an).length := by simp
  have eQ : LB.length = (LB.map fun g => g bn).length := by simp
  rw [eP, eQ]
  rw [eP] at hpa
  rw [eQ] at hpb
  generalize (LA.map fun g => g an) = P at *
  generalize (LB.map fun g => g bn) = Q at *
  have hpa' : ¬ (20 : Int) < P.length := by omega
  have hpb' : ¬ (20 : Int) < Q.length := by omega
  clear hPo hQo eP eQ hna hnb HPa HPb HDi HV
  go_wp2_with fail
  go_loopw [11, 12, 13] (fun lv hv' i wr => ∃ k : Nat, k ≤ P.length ∧ i = .int .i64 k ∧ lv = .bool (anyF F (P.take k) Q lo) ∧ hv' = .bool (anyF F (P.take k) Q hi) ∧ G w5 wr) (fun _ _ i _ => P.length - (intOf i).toNat)
  case atStart => exact ⟨0, Nat.zero_le _, rfl, rfl, rfl, G.rf _⟩
  case round =>
    obtain ⟨k, hkP, rfl, rfl, rfl, hGr⟩ := hrel
    by_cases hlt : k < P.length
    · have hgP : isPlaceB cn east.length (P.getD k (0, 0)).1 (P.getD k (0, 0)).2 = true := hga _ (by simp [hlt])
      have hS1 := anyF_succ F P Q lo k hlt
      have hS2 := anyF_succ F P Q hi k hlt
      obtain ⟨pp, hpp⟩ : ∃ pp, pp = P.getD k (0, 0) := ⟨_, rfl⟩
      rw [← hpp] at hgP hS1 hS2
      have Hpp := Lib.hid hpp
      clear hpp
      have HS1 := Lib.hid hS1
      have HS2 := Lib.hid hS2
      clear hS1 hS2
      generalize anyF F (P.take k) Q lo = A at *
      generalize anyF F (P.take k) Q hi = B at *
      have HGr := Lib.hid hGr
      clear hGr
      go_wp2_with fail
      go_loopw [11, 12, 14] (fun lv hv' i wx => ∃ j : Nat, j ≤ Q.length ∧ i = .int .i64 j ∧ lv = .bool (A || anyQ F pp (Q.take j) lo) ∧ hv' = .bool (B || anyQ F pp (Q.take j) hi) ∧ G w5 wx) (fun _ _ i _ => Q.length - (intOf i).toNat)
      case atStart => exact ⟨0, Nat.zero_le _, rfl, by simp [anyQ], by simp [anyQ], HGr.out⟩
      case round =>
        obtain ⟨j, hjQ, rfl, rfl, rfl, hGx⟩ := hrel
        by_cases hlt2 : j < Q.length
        · have hgQ : isPlaceB cn east.length (Q.getD j (0, 0)).1 (Q.getD j (0, 0)).2 = true := hgb _ (by simp [hlt2])
          have hT1 := anyQ_succ F pp Q lo j hlt2
          have hT2 := anyQ_succ F pp Q hi j hlt2
          have cQ0 := hPB.keep lQ hGx j hlt2
          have cP0 := hPA.keep lP hGx k hlt
          obtain ⟨qq, hqq⟩ : ∃ qq, qq = Q.getD j (0, 0) := ⟨_, rfl⟩
          rw [← hqq] at hgQ cQ0
          rw [← Hpp.out] at cP0
          have HT1' : Hid (anyQ F pp (Q.take (j + 1)) lo = (anyQ F pp (Q.take j) lo || F pp qq == lo)) := by rw [hqq]; exact hT1
          have HT2' : Hid (anyQ F pp (Q.take (j + 1)) hi = (anyQ F pp (Q.take j) hi || F pp qq == hi)) := by rw [hqq]; exact hT2
          have HO : Hid (∀ v : Bool, (A || (anyQ F pp (Q.take j) lo)) = v → (A || anyQ F pp (Q.take (j + 1)) lo) = (v || F pp qq == lo)) := fun v hv => by rw [HT1'.out, ← hv, Bool.or_assoc]
          have HP : Hid (∀ v : Bool, (B || (anyQ F pp (Q.take j) hi)) = v → (B || anyQ F pp (Q.take (j + 1)) hi) = (v || F pp qq == hi)) := fun v hv => by rw [HT2'.out, ← hv, Bool.or_assoc]
          clear hT1 hT2 hqq HT1' HT2'
          have cp1 : ∀ x : GW wr, x.w.cell? ⟨gP, k * 2, none⟩ = some (.int .i64 pp.1) := fun x => ((bcellB x.g).1 _ _ (Nat.lt_of_lt_of_le lP hGx.size)).trans cP0.1
          have cp2 : ∀ x : GW wr, x.w.cell? ⟨gP, k * 2 + 1, none⟩ = some (.int .i64 pp.2) := fun x => ((bcellB x.g).1 _ _ (Nat.lt_of_lt_of_le lP hGx.size)).trans cP0.2
          have cq1 : ∀ x : GW wr, x.w.cell? ⟨gQ, j * 2, none⟩ = some (.int .i64 qq.1) := fun x => ((bcellB x.g).1 _ _ (Nat.lt_of_lt_of_le lQ hGx.size)).trans cQ0.1
          have cq2 : ∀ x : GW wr, x.w.cell? ⟨gQ, j * 2 + 1, none⟩ = some (.int .i64 qq.2) := fun x => ((bcellB x.g).1 _ _ (Nat.lt_of_lt_of_le lQ hGx.size)).trans cQ0.2
          have k0 := b0.keep hGx
          have k1 := b1.keep hGx
          have k2 := b2.keep hGx
          have n0 := k0.gw 0 rfl
          have n1 := k0.gw 1 rfl
          have n2 := k0.gw 2 rfl
          have n3 := k0.gw 3 rfl
          have n4 := k0.gw 4 rfl
          have n5 := k0.gw 5 rfl
          have n6 := k1.gw 3 rfl
          have gx := g0.t hGx
          clear cP0 cQ0
          generalize (A || anyQ F pp (Q.take j) lo) = x1 at *
          generalize (B || anyQ F pp (Q.take j) hi) = x2 at *
          go_wp2_with fail
          refine wp_region_quiet_G (by kernel_rfl) (by kernel_rfl) ?_
          repeat (quiet_step (first | (go_at_call 17; exact Calls.gq (HL.out _ (gx.t (GW.g _)) pp qq hgP hgQ))))
          refine wpQuiet_nil ?_
          intro _ hw'
          obtain ⟨y, rfl⟩ := hw'
          clear n0 n1 n2 n3 n4 n5 n6 cp1 cp2 cq1 cq2
          have gy := y.g
          have v0 := (k2.keep gy).cell 0
          have v1 := (k2.keep gy).cell 1
          generalize F pp qq = n at *
          have HY := Lib.hid (hGx.t gy)
          clear gy hGx k0 k1 k2
          cases x1 <;> cases x2
          all_goals
            go_wp2
            go_quiet (fail)
            go_wp2
            go_roundw
            case rel => exact ⟨j + 1, by omega, by go_num, by rw [HO.out _ rfl]; simp, by rw [HP.out _ rfl]; simp, HY.out.dn _⟩
            case measure => simp [intOf]; omega
        · obtain rfl : j = Q.length := by omega
          have HT1 : Hid ((A || anyQ F pp (Q.take Q.length) lo) = anyF F (P.take (k + 1)) Q lo) := by unfold Hid; rw [HS1.out, List.take_length]
          have HT2 : Hid ((B || anyQ F pp (Q.take Q.length) hi) = anyF F (P.take (k + 1)) Q hi) := by unfold Hid; rw [HS2.out, List.take_length]
          generalize (A || anyQ F pp (Q.take Q.length) lo) = x1 at *
          generalize (B || anyQ F pp (Q.take Q.length) hi) = x2 at *
          have HY := Lib.hid hGx
          clear hGx
          go_wp2
          go_roundw
          case rel => exact ⟨k + 1, by omega, by go_num, by rw [← HT1.out], by rw [← HT2.out], HY.out⟩
          case measure => simp [intOf]; omega
    · obtain rfl : k = P.length := by omega
      have e1 := HA1.out
      have e2 := HA2.out
      rw [List.take_length, e1, e2]
      have HY := Lib.hid hGr
      clear hGr e1 e2
      go_wp2_with (go_at_call 16; refine (works_any _).mono ?_; rintro e w6 ⟨rfl, hG6⟩)
      go_ret
      exact ⟨rfl, (g0.t HY.out).t hG6⟩
end
end Go.Proofs.Ytpjfdfddcnocpaa
