import Derived.Test.YtpjfdfddcnocpaaDb
import Derived.Test.YtpjfdfddcnocpaaQc
set_option linter.unusedSimpArgs false
set_option linter.unusedVariables false
namespace Go.Proofs.Ytpjfdfddcnocpaa
open Go.RowKit
attribute [local go_sem] Oper.semAt_some

/-- the error of a question of the program -/
def qE (north cols lofts wrong : Int) (east : List Int) (svs : List Sv) (d : Bool) (ls : List Int) : Int :=
  if checkE north cols east lofts svs wrong = 0 then
    if (d && ls.all fun n => isInB n 0 (lofts - 1)) = true then (if wrong < fewSum north cols.toNat east svs lofts.toNat then 3 else 0) else 1
  else checkE north cols east lofts svs wrong
section
variable (north cols lofts wrong : Int) (east : List Int) (svs : List Sv) (ea sa : Option Addr) (ec sc : Nat)
theorem question_E (d : Bool) (ls : List Int) (la : Option Addr) (lc : Nat) (w : World) (he : IntsAt w ea east) (hs : SvsAt w sa svs) (hl : east.length ≤ 9223372036854775807) (hl2 : svs.length ≤ 9223372036854775807) (hls : IntsAt w la ls) (hll : ls.length ≤ 9223372036854775807)
    (hE : ¬ qE north cols lofts wrong east svs d ls = 0) :
    Calls Try.prog 57 #[.agg #[.int .i64 north, .int .i64 cols, .slice ea east.length ec, .int .i64 lofts, .slice sa svs.length sc, .int .i64 wrong], .bool d, .slice la ls.length lc] w fun e w' =>
      e = .returned (.tuple #[.pointer none, .int .i64 (qE north cols lofts wrong east svs d ls)]) ∧ G w w' := by
  by_cases hk : checkE north cols east lofts svs wrong = 0
  · have hvb := vm_bounds (checkE_ok hk)
    obtain ⟨cn, rfl⟩ := Int.eq_ofNat_of_zero_le (show 0 ≤ cols by omega)
    obtain ⟨ln, rfl⟩ := Int.eq_ofNat_of_zero_le (show 0 ≤ lofts by omega)
    refine (question_ok north wrong cn ln east svs ea sa ec sc d ls la lc w he hs hls hll hk).mono ?_
    rintro e w' ⟨hG, hp⟩
    refine ⟨?_, hG⟩
    unfold qE at hE ⊢
    rw [if_pos hk] at hE ⊢
    cases hD : (d && ls.all fun n => isInB n 0 ((ln : Int) - 1))
    · rw [hD] at hp
      rw [if_pos rfl] at hp
      rw [if_neg (by simp), hp]
    · rw [hD] at hp hE
      rw [if_neg (by simp)] at hp
      rw [if_pos rfl] at hE
      rw [if_pos rfl]
      by_cases hw : wrong < fewSum north cn east svs ln
      · rw [if_pos hw] at hp
        rw [hp, if_pos (by simpa using hw)]
      · rw [if_neg (by simpa using hw)] at hE
        exact absurd rfl hE
  · have h := question_err north cols lofts wrong east svs ea sa ec sc d (.slice la ls.length lc) w he hs hl hl2 hk
    have e : qE north cols lofts wrong east svs d ls = checkE north cols east lofts svs wrong := by unfold qE; rw [if_neg hk]
    rw [e]
    exact h
theorem rounding_any (rule : Int) (w : World) : Calls Try.prog 53 #[.int .i64 rule] w fun e w' => ∃ f, e = .returned (.tuple #[f, .bool (isInB rule 0 2)]) ∧ G w w' := by
  by_cases h : 0 ≤ rule ∧ rule ≤ 2
  · refine (rounding_ok rule w h).mono ?_
    rintro e w' ⟨f, rfl, hG, _⟩
    exact ⟨f, by rw [show isInB rule 0 2 = true by simp [isInB]; omega], hG⟩
  · refine (rounding_bad rule w (by omega)).mono ?_
    rintro e w' ⟨rfl, hG⟩
    exact ⟨_, by rw [show isInB rule 0 2 = false by simp [isInB]; omega], hG⟩
theorem ctE_q (a b rule : Int) : ctE north cols lofts wrong east svs a b rule = qE north cols lofts wrong east svs (isInB rule 0 2) [a, b] := by
  unfold ctE qE
  simp only [List.all_cons, List.all_nil, Bool.and_true]
  cases isInB a 0 (lofts - 1) <;> cases isInB b 0 (lofts - 1) <;> cases isInB rule 0 2 <;> rfl
set_option maxHeartbeats 4000000 in
theorem Distance_err (a b rule : Int) (w : World) (he : IntsAt w ea east) (hs : SvsAt w sa svs) (hl : east.length ≤ 9223372036854775807) (hl2 : svs.length ≤ 9223372036854775807) (hE : ¬ qE north cols lofts wrong east svs (isInB rule 0 2) [a, b] = 0) :
    Calls Try.prog 24 #[.agg #[.int .i64 north, .int .i64 cols, .slice ea east.length ec, .int .i64 lofts, .slice sa svs.length sc, .int .i64 wrong], .int .i64 a, .int .i64 b, .int .i64 rule] w fun e w' =>
      e = .returned (.tuple #[.agg #[.int .i64 0, .int .i64 0], .int .i64 (qE north cols lofts wrong east svs (isInB rule 0 2) [a, b])]) ∧ G w w' := by
  have HQ := Lib.hid (fun (W : World) (hW : G w W) (g : Nat) (hg : Blk W g 3 #[.int .i64 a, .int .i64 b]) => question_E north cols lofts wrong east svs ea sa ec sc (isInB rule 0 2) [a, b] (some ⟨g, 0, none⟩) 2 W (he.below hW) (hs.below hW) hl hl2
    (.inr ⟨g, 0, rfl, hg.lt, fun k hk2 => by
      rw [hg.cell]
      match k, hk2 with
      | 0, _ => rfl
      | 1, _ => rfl⟩) (by simp) hE)
  have HR := Lib.hid (rounding_any rule)
  generalize qE north cols lofts wrong east svs (isInB rule 0 2) [a, b] = E at *
  generalize isInB rule 0 2 = d at *
  have hEb : (E == 0) = false := by simp [hE]
  clear he hs hl hl2 hE
  obtain ⟨g0, b0, b8⟩ := w2_spec w #[.int .i64 north, .int .i64 cols, .slice ea east.length ec, .int .i64 lofts, .slice sa svs.length sc, .int .i64 wrong] #[.int .i64 0, .int .i64 0] 25 46
  go_enter Try.func24, Try.ntmps24
  go_wp2_with (first | (go_at_call 53; refine (HR.out _).mono ?_; rintro e w' ⟨f, rfl, hGx⟩; replace b0 := b0.keep hGx; replace b8 := b8.keep hGx; replace g0 := g0.t hGx; have m0 := b0.cell 0; have m1 := b0.cell 1; have m2 := b0.cell 2; have m3 := b0.cell 3; have m4 := b0.cell 4; have m5 := b0.cell 5; clear hGx))
  refine (HQ.out _ (g0.a _) w'.heap.size (Blk.new w' 3 _)).mono ?_
  rintro e w2 ⟨rfl, hG2⟩
  have hGa := ((G.rf w').a (.cells #[.int .i64 a, .int .i64 b] 3)).t hG2
  replace g0 := g0.t hGa
  replace b8 := b8.keep hGa
  have z8 := b8.lt
  have y0 := b8.cell 0
  have y1 := b8.cell 1
  have z0 := b8.frozen 0
  have z1 := b8.frozen 1
  clear m0 m1 m2 m3 m4 m5 b0 hGa hG2
  go_wp2
  have e3 := (b8.set_ 0 (.int .i64 0)).set_ 1 (.int .i64 0)
  refine bodyPost_ret (res24 _ _ (w.heap.size + 1) _ _ _ rfl rfl (e3.cell 0) (e3.cell 1)) rfl ?_
  exact ⟨rfl, (g0.s (by simp) _).s (by simp) _⟩
/-- the answer of Distance, as both have it -/
def dstV (a b rule : Int) : Value :=
  if qE north cols lofts wrong east svs (isInB rule 0 2) [a, b] = 0 then
    if a = b then .tuple #[.agg #[.int .i64 0, .int .i64 0], .int .i64 0]
    else .tuple #[.agg #[.int .i64 (rnd rule (loL (allD north wrong cols.toNat lofts.toNat east svs a.toNat b.toNat (allP cols.toNat east.length) (allP cols.toNat east.length))).toNat : Nat), .int .i64 (rnd rule (hiL (allD north wrong cols.toNat lofts.toNat east svs a.toNat b.toNat (allP cols.toNat east.length) (allP cols.toNat east.length))).toNat : Nat)], .int .i64 0]
  else .tuple #[.agg #[.int .i64 0, .int .i64 0], .int .i64 (qE north cols lofts wrong east svs (isInB rule 0 2) [a, b])]
theorem dstV_open (a b rule : Int) : ∃ x y z : Int, dstV north cols lofts wrong east svs a b rule = .tuple #[.agg #[.int .i64 x, .int .i64 y], .int .i64 z] := by
  unfold dstV
  split
  · split <;> exact ⟨_, _, _, rfl⟩
  · exact ⟨_, _, _, rfl⟩
/-- what is asked is described, and there is a truth -/
theorem qE_zero {d : Bool} {ls : List Int} (h : qE north cols lofts wrong east svs d ls = 0) : checkE north cols east lofts svs wrong = 0 ∧ d = true ∧ (∀ n ∈ ls, 0 ≤ n ∧ n < lofts) ∧ ¬ wrong < fewSum north cols.toNat east svs lofts.toNat := by
  unfold qE at h
  by_cases hk : checkE north cols east lofts svs wrong = 0
  · rw [if_pos hk] at h
    by_cases hD : (d && ls.all fun n => isInB n 0 (lofts - 1)) = true
    · rw [if_pos hD] at h
      rw [Bool.and_eq_true] at hD
      refine ⟨hk, hD.1, fun n hn => ?_, fun hw => ?_⟩
      · have := List.all_eq_true.1 hD.2 n hn
        simp [isInB] at this
        omega
      · rw [if_pos hw] at h; omega
    · rw [if_neg hD] at h; omega
  · rw [if_neg hk] at h; exact absurd h hk
theorem rDist_any (a b rule : Int) (w : World) (he : IntsAt w ea east) (hs : SvsAt w sa svs) (hl : east.length ≤ 9223372036854775807) (hl2 : svs.length ≤ 9223372036854775807) :
    Calls Try.prog 44 #[.agg #[.int .i64 north, .int .i64 cols, .slice ea east.length ec, .int .i64 lofts, .slice sa svs.length sc, .int .i64 wrong], .int .i64 a, .int .i64 b, .int .i64 rule] w fun e w' => e = .returned (dstV north cols lofts wrong east svs a b rule) ∧ G w w' := by
  unfold dstV
  by_cases hq : qE north cols lofts wrong east svs (isInB rule 0 2) [a, b] = 0
  · rw [if_pos hq]
    by_cases hab : a = b
    · subst hab
      rw [if_pos rfl]
      exact rDist_same north cols lofts wrong a rule east svs ea sa ec sc w he hs hl hl2 (by rw [ctE_q]; exact hq)
    · rw [if_neg hab]
      obtain ⟨hk, hr, hls, hw⟩ := qE_zero north cols lofts wrong east svs hq
      have hvb := vm_bounds (checkE_ok hk)
      have ha := hls a (by simp)
      have hb := hls b (by simp)
      obtain ⟨cn, rfl⟩ := Int.eq_ofNat_of_zero_le (show 0 ≤ cols by omega)
      obtain ⟨ln, rfl⟩ := Int.eq_ofNat_of_zero_le (show 0 ≤ lofts by omega)
      obtain ⟨an, rfl⟩ := Int.eq_ofNat_of_zero_le ha.1
      obtain ⟨bn, rfl⟩ := Int.eq_ofNat_of_zero_le hb.1
      exact rDist_ok north wrong rule cn ln an bn east svs ea sa ec sc w he hs hk (by simp [isInB] at hr; omega) (by omega) (by omega) (by omega) hw
  · rw [if_neg hq, ← ctE_q]
    exact rDist_err north cols lofts wrong a b rule east svs ea sa ec sc w he hs hl hl2 (by rw [ctE_q]; exact hq)
theorem rnd_zero (rule : Int) : rnd rule 0 = 0 := by
  unfold rnd
  split
  · decide +kernel
  · split <;> decide +kernel
theorem sq_self (x y : Int) : sqI north east x y x y = 0 := by
  unfold sqI
  simp
/-- the answer of Distance by the truths -/
theorem dst_val {north wrong rule : Int} {cols lofts a b : Nat} {east : List Int} {svs : List Sv} (hq : qE north cols lofts wrong east svs (isInB rule 0 2) [(a : Int), (b : Int)] = 0) :
    dstV north cols lofts wrong east svs a b rule = .tuple #[.agg #[.int .i64 (rnd rule (loQ north east a b (truthsOf (spotsOf north cols east svs) [a, b] (wrong - fewSum north cols east svs lofts))).toNat), .int .i64 (rnd rule (hiQ north east a b (truthsOf (spotsOf north cols east svs) [a, b] (wrong - fewSum north cols east svs lofts))).toNat)], .int .i64 0] := by
  unfold dstV
  rw [if_pos hq]
  obtain ⟨hk, hr, hls, hw⟩ := qE_zero north cols lofts wrong east svs hq
  have hv := checkE_ok hk
  have hvb := vm_bounds hv
  have ha := hls a (by simp)
  have hb := hls b (by simp)
  have hne := truths_ne (ls := [a, b]) hk hw
  by_cases hab : a = b
  · subst hab
    rw [if_pos rfl]
    obtain ⟨p1, p2, p3⟩ := loQ_spec north east a a (truthsOf (spotsOf north cols east svs) [a, a] (wrong - fewSum north cols east svs lofts)) 9223372036854775807
    obtain ⟨r1, r2, r3⟩ := hiQ_spec north east a a (truthsOf (spotsOf north cols east svs) [a, a] (wrong - fewSum north cols east svs lofts)) 0
    obtain ⟨f0, hf0⟩ := List.exists_mem_of_ne_nil _ hne
    have hz : ∀ f, q2 north east a a f = 0 := fun f => sq_self north east _ _
    have e1 : loQ north east a a (truthsOf (spotsOf north cols east svs) [a, a] (wrong - fewSum north cols east svs lofts)) = 0 := by
      unfold loQ
      have := p3 f0 hf0
      rw [hz] at this
      rcases p1 with p1 | ⟨f, hf, p1⟩
      · omega
      · rw [p1, hz]
    have e2 : hiQ north east a a (truthsOf (spotsOf north cols east svs) [a, a] (wrong - fewSum north cols east svs lofts)) = 0 := by
      unfold hiQ
      rcases r1 with r1 | ⟨f, hf, r1⟩
      · exact r1
      · rw [r1, hz]
    rw [e1, e2, show rnd rule (0 : Int).toNat = 0 from rnd_zero rule]
    rfl
  · rw [if_neg (by omega)]
    have hbd : ∀ x ∈ allD north wrong cols lofts east svs a b (allP cols east.length) (allP cols east.length), 0 ≤ x ∧ x ≤ 6400000160000000 := by
      intro x hx
      obtain ⟨p, hp, q, hq, _, rfl⟩ := (allD_mem north wrong cols lofts east svs a b _ _ x).1 hx
      have := sq_bd hv (allP_mem hp).2 (allP_mem hq).2 (ax := p.1) (bx := q.1) (by have := allP_mem hp; simp [isInB]; omega) (by have := allP_mem hq; simp [isInB]; omega)
      omega
    obtain ⟨e1, e2⟩ := ends_eq hne (pairs_iff north wrong cols lofts east svs hab (by omega) (by omega) hw) hbd
    rw [← e1, ← e2]
    rfl
theorem Distance_any (a b rule : Int) (w : World) (he : IntsAt w ea east) (hs : SvsAt w sa svs) (hl : east.length ≤ 9223372036854775807) (hl2 : svs.length ≤ 9223372036854775807) :
    Calls Try.prog 24 #[.agg #[.int .i64 north, .int .i64 cols, .slice ea east.length ec, .int .i64 lofts, .slice sa svs.length sc, .int .i64 wrong], .int .i64 a, .int .i64 b, .int .i64 rule] w fun e w' => e = .returned (dstV north cols lofts wrong east svs a b rule) ∧ G w w' := by
  by_cases hq : qE north cols lofts wrong east svs (isInB rule 0 2) [a, b] = 0
  · obtain ⟨hk, hr, hls, hw⟩ := qE_zero north cols lofts wrong east svs hq
    have hvb := vm_bounds (checkE_ok hk)
    have ha := hls a (by simp)
    have hb := hls b (by simp)
    obtain ⟨cn, rfl⟩ := Int.eq_ofNat_of_zero_le (show 0 ≤ cols by omega)
    obtain ⟨ln, rfl⟩ := Int.eq_ofNat_of_zero_le (show 0 ≤ lofts by omega)
    obtain ⟨an, rfl⟩ := Int.eq_ofNat_of_zero_le ha.1
    obtain ⟨bn, rfl⟩ := Int.eq_ofNat_of_zero_le hb.1
    rw [dst_val hq]
    exact Distance_ok north wrong cn ln an bn east svs ea sa ec sc rule w he hs hk (by simp [isInB] at hr; omega) (by omega) (by omega) hw (truths_ne (ls := [an, bn]) hk hw)
  · unfold dstV
    rw [if_neg hq]
    exact Distance_err north cols lofts wrong east svs ea sa ec sc a b rule w he hs hl hl2 hq
end
end Go.Proofs.Ytpjfdfddcnocpaa
