import Derived.Test.YtpjfdfddcnocpaaQb
import Derived.Test.YtpjfdfddcnocpaaNb
set_option linter.unusedSimpArgs false
set_option linter.unusedVariables false
namespace Go.Proofs.Ytpjfdfddcnocpaa
open Go.RowKit Go.Shelf
attribute [local go_sem] Oper.semAt_some

theorem Nearer_ok (north wrong : Int) (cols lofts o a b : Nat) (east : List Int) (svs : List Sv) (ea sa : Option Addr) (ec sc : Nat) (w : World)
    (he : IntsAt w ea east) (hs : SvsAt w sa svs) (hk : checkE north cols east lofts svs wrong = 0) (ho : o < lofts) (ha : a < lofts) (hb : b < lofts) (hw : ¬ wrong < fewSum north cols east svs lofts) (hLL : (truthsOf (spotsOf north cols east svs) [o, a, b] (wrong - fewSum north cols east svs lofts)).length ≤ 1000000) :
    Calls Try.prog 25 #[.agg #[.int .i64 north, .int .i64 cols, .slice ea east.length ec, .int .i64 lofts, .slice sa svs.length sc, .int .i64 wrong], .int .i64 o, .int .i64 a, .int .i64 b] w fun e w' => e = .returned (.tuple #[.int .i64 (nearV ((truthsOf (spotsOf north cols east svs) [o, a, b] (wrong - fewSum north cols east svs lofts)).map (cmpF north east o a b))), .int .i64 0]) ∧ G w w' :=
  callsIn_wide.1 (Nearer_in 4 (by omega) north wrong cols lofts o a b east svs ea sa ec sc w he hs hk ho ha hb hw hLL)
set_option maxHeartbeats 4000000 in
theorem Nearer_none (north wrong : Int) (cols lofts o a b : Nat) (east : List Int) (svs : List Sv) (ea sa : Option Addr) (ec sc : Nat) (w : World)
    (he : IntsAt w ea east) (hs : SvsAt w sa svs) (hk : checkE north cols east lofts svs wrong = 0) (ho : o < lofts) (ha : a < lofts) (hb : b < lofts) (hw : wrong < fewSum north cols east svs lofts) :
    Calls Try.prog 25 #[.agg #[.int .i64 north, .int .i64 cols, .slice ea east.length ec, .int .i64 lofts, .slice sa svs.length sc, .int .i64 wrong], .int .i64 o, .int .i64 a, .int .i64 b] w fun e w' => e = .returned (.tuple #[.int .i64 0, .int .i64 3]) ∧ G w w' := by
  have hvb := vm_bounds (checkE_ok hk)
  have hQ := fun (W : World) (hW : G w W) (g : Nat) (hg : Blk W g 3 #[.int .i64 o, .int .i64 a, .int .i64 b]) => question_ok north wrong cols lofts east svs ea sa ec sc true [(o : Int), (a : Int), (b : Int)] (some ⟨g, 0, none⟩) 3 W (he.below hW) (hs.below hW)
    (.inr ⟨g, 0, rfl, hg.lt, fun k hk2 => by
      rw [hg.cell]
      match k, hk2 with
      | 0, _ => rfl
      | 1, _ => rfl
      | 2, _ => rfl⟩) (by simp) hk
  have hD : (true && ([(o : Int), (a : Int), (b : Int)].all fun n => isInB n 0 (lofts - 1))) = true := by simp [isInB]; omega
  rw [hD] at hQ
  have HQ := Lib.hid hQ
  clear hQ hD hk hvb
  obtain ⟨n0, hn0⟩ : ∃ n0, n0 = w.heap.size := ⟨_, rfl⟩
  obtain ⟨g0, b0, b1, b2, b3, b4, b5, b6⟩ := w7a_spec w #[.int .i64 north, .int .i64 cols, .slice ea east.length ec, .int .i64 lofts, .slice sa svs.length sc, .int .i64 wrong] #[.int .i64 o] #[.int .i64 a] #[.int .i64 b] #[.int .i64 0] #[.int .i64 0] #[.int .i64 o, .int .i64 a, .int .i64 b] 25 3 3 3 3 28 3 n0 hn0 _ rfl
  go_enter Try.func25, Try.ntmps25
  go_wp2_with fail
  simp only [Nat.add_assoc, Nat.reduceAdd]
  rw [← hn0]
  refine (HQ.out _ g0 _ b6).mono ?_
  rintro e w1 ⟨hG1, hp⟩
  rw [if_neg (by simp), if_pos hw] at hp
  subst hp
  replace b4 := b4.keep hG1
  replace b5 := b5.keep hG1
  replace g0 := g0.t hG1
  have d4 := b4.cell 0
  have z4 := b4.frozen 0
  have l4 := b4.lt
  have d5 := b5.cell 0
  have z5 := b5.frozen 0
  have l5 := b5.lt
  have HN0 := Lib.hid hn0
  clear b0 b1 b2 b3 b6 hG1 hn0
  go_wp2
  have eA := (b4.set_ 0 (.int .i64 0)).far (p := ⟨n0 + 5, 0, none⟩) (by simp) (.int .i64 3)
  have eB := (b5.far (p := ⟨n0 + 4, 0, none⟩) (by simp) (.int .i64 0)).set_ 0 (.int .i64 3)
  have hwn : w.heap.size ≤ n0 := by have := HN0.out; omega
  refine bodyPost_ret (res25 _ _ (n0 + 4) (n0 + 5) _ _ rfl rfl (eA.cell 0) (eB.cell 0)) rfl ⟨rfl, (g0.s (by simp; omega) _).s (by simp; omega) _⟩

section
variable (north wrong r rc px py qx qy : Int) (cols lofts o a b : Nat) (east : List Int) (svs1 svs2 : List Sv) (ea1 sa1 ea2 sa2 : Option Addr) (ec1 sc1 ec2 sc2 : Nat) (w : World)
abbrev AlikeGoal : Prop := Calls Try.prog 30 #[.agg #[.int .i64 north, .int .i64 cols, .slice ea1 east.length ec1, .int .i64 lofts, .slice sa1 svs1.length sc1, .int .i64 wrong], .agg #[.int .i64 north, .int .i64 cols, .slice ea2 east.length ec2, .int .i64 lofts, .slice sa2 svs2.length sc2, .int .i64 wrong], .agg #[.int .i64 o, .int .i64 a, .int .i64 b, .int .i64 r, .int .i64 rc, .int .i64 px, .int .i64 py, .int .i64 qx, .int .i64 qy]] w fun e w' => e = .returned (.bool true) ∧ G w w'
set_option maxRecDepth 100000 in
set_option maxHeartbeats 8000000 in
theorem alike_core (v e1 g lo hi nv : Int) (nP : Nat)
    (hM1 : ∀ W, G w W → Calls Try.prog 36 #[.agg #[.int .i64 north, .int .i64 cols, .slice ea1 east.length ec1, .int .i64 lofts, .slice sa1 svs1.length sc1, .int .i64 wrong]] W fun e w' => e = .returned (.tuple #[.int .i64 v, .int .i64 e1]) ∧ G W w')
    (hM2 : ∀ W, G w W → Calls Try.prog 36 #[.agg #[.int .i64 north, .int .i64 cols, .slice ea2 east.length ec2, .int .i64 lofts, .slice sa2 svs2.length sc2, .int .i64 wrong]] W fun e w' => e = .returned (.tuple #[.int .i64 v, .int .i64 e1]) ∧ G W w')
    (hP1 : ∀ W, G w W → Calls Try.prog 22 #[.agg #[.int .i64 north, .int .i64 cols, .slice ea1 east.length ec1, .int .i64 lofts, .slice sa1 svs1.length sc1, .int .i64 wrong], .int .i64 a] W fun e w' => (∃ A c, e = .returned (.tuple #[.slice A nP c, .int .i64 g])) ∧ G W w')
    (hP2 : ∀ W, G w W → Calls Try.prog 22 #[.agg #[.int .i64 north, .int .i64 cols, .slice ea2 east.length ec2, .int .i64 lofts, .slice sa2 svs2.length sc2, .int .i64 wrong], .int .i64 a] W fun e w' => (∃ A c, e = .returned (.tuple #[.slice A nP c, .int .i64 g])) ∧ G W w')
    (hD1 : ∀ W, G w W → Calls Try.prog 24 #[.agg #[.int .i64 north, .int .i64 cols, .slice ea1 east.length ec1, .int .i64 lofts, .slice sa1 svs1.length sc1, .int .i64 wrong], .int .i64 a, .int .i64 b, .int .i64 2] W fun e w' => e = .returned (.tuple #[.agg #[.int .i64 lo, .int .i64 hi], .int .i64 g]) ∧ G W w')
    (hD2 : ∀ W, G w W → Calls Try.prog 24 #[.agg #[.int .i64 north, .int .i64 cols, .slice ea2 east.length ec2, .int .i64 lofts, .slice sa2 svs2.length sc2, .int .i64 wrong], .int .i64 a, .int .i64 b, .int .i64 2] W fun e w' => e = .returned (.tuple #[.agg #[.int .i64 lo, .int .i64 hi], .int .i64 g]) ∧ G W w')
    (hN1 : ∀ W, G w W → Calls Try.prog 25 #[.agg #[.int .i64 north, .int .i64 cols, .slice ea1 east.length ec1, .int .i64 lofts, .slice sa1 svs1.length sc1, .int .i64 wrong], .int .i64 o, .int .i64 a, .int .i64 b] W fun e w' => e = .returned (.tuple #[.int .i64 nv, .int .i64 g]) ∧ G W w')
    (hN2 : ∀ W, G w W → Calls Try.prog 25 #[.agg #[.int .i64 north, .int .i64 cols, .slice ea2 east.length ec2, .int .i64 lofts, .slice sa2 svs2.length sc2, .int .i64 wrong], .int .i64 o, .int .i64 a, .int .i64 b] W fun e w' => e = .returned (.tuple #[.int .i64 nv, .int .i64 g]) ∧ G W w')
    (hnP : nP ≤ 1000000) : AlikeGoal north wrong r rc px py qx qy cols lofts o a b east svs1 svs2 ea1 sa1 ea2 sa2 ec1 sc1 ec2 sc2 w := by
  obtain ⟨g0, b0, b1, b2⟩ := w3k_spec w #[.int .i64 north, .int .i64 cols, .slice ea1 east.length ec1, .int .i64 lofts, .slice sa1 svs1.length sc1, .int .i64 wrong] #[.int .i64 north, .int .i64 cols, .slice ea2 east.length ec2, .int .i64 lofts, .slice sa2 svs2.length sc2, .int .i64 wrong] #[.int .i64 o, .int .i64 a, .int .i64 b, .int .i64 r, .int .i64 rc, .int .i64 px, .int .i64 py, .int .i64 qx, .int .i64 qy] 25 25 38
  have HM1 := Lib.hid hM1
  have HM2 := Lib.hid hM2
  have HP1 := Lib.hid hP1
  have HP2 := Lib.hid hP2
  have HD1 := Lib.hid hD1
  have HD2 := Lib.hid hD2
  have HN1 := Lib.hid hN1
  have HN2 := Lib.hid hN2
  have q46 := eq46
  clear hM1 hM2 hP1 hP2 hD1 hD2 hN1 hN2
  unfold AlikeGoal
  go_enter Try.func30, Try.ntmps30
  go_wp2_with fail
  refine (HM1.out _ g0).mono ?_
  rintro e w1 ⟨rfl, hG1⟩
  replace b0 := b0.keep hG1; replace b1 := b1.keep hG1; replace b2 := b2.keep hG1; replace g0 := g0.t hG1; clear hG1; have m0 := b0.cell 0; have m1 := b0.cell 1; have m2 := b0.cell 2; have m3 := b0.cell 3; have m4 := b0.cell 4; have m5 := b0.cell 5; have n0 := b1.cell 0; have n1 := b1.cell 1; have n2 := b1.cell 2; have n3 := b1.cell 3; have n4 := b1.cell 4; have n5 := b1.cell 5; have a0 := b2.cell 0; have a1 := b2.cell 1; have a2 := b2.cell 2; have lM := b0.lt; have lN := b1.lt; have lA := b2.lt
  go_wp2_with fail
  refine (HM2.out _ g0).mono ?_
  rintro e w2 ⟨rfl, hG1⟩
  clear m0 m1 m2 m3 m4 m5 n0 n1 n2 n3 n4 n5 a0 a1 a2 lM lN lA; replace b0 := b0.keep hG1; replace b1 := b1.keep hG1; replace b2 := b2.keep hG1; replace g0 := g0.t hG1; clear hG1; have m0 := b0.cell 0; have m1 := b0.cell 1; have m2 := b0.cell 2; have m3 := b0.cell 3; have m4 := b0.cell 4; have m5 := b0.cell 5; have n0 := b1.cell 0; have n1 := b1.cell 1; have n2 := b1.cell 2; have n3 := b1.cell 3; have n4 := b1.cell 4; have n5 := b1.cell 5; have a0 := b2.cell 0; have a1 := b2.cell 1; have a2 := b2.cell 2; have lM := b0.lt; have lN := b1.lt; have lA := b2.lt
  go_wp2_with fail
  refine (HP1.out _ g0).mono ?_
  rintro e w3 ⟨⟨A1, c1, rfl⟩, hG1⟩
  clear m0 m1 m2 m3 m4 m5 n0 n1 n2 n3 n4 n5 a0 a1 a2 lM lN lA; replace b0 := b0.keep hG1; replace b1 := b1.keep hG1; replace b2 := b2.keep hG1; replace g0 := g0.t hG1; clear hG1; have m0 := b0.cell 0; have m1 := b0.cell 1; have m2 := b0.cell 2; have m3 := b0.cell 3; have m4 := b0.cell 4; have m5 := b0.cell 5; have n0 := b1.cell 0; have n1 := b1.cell 1; have n2 := b1.cell 2; have n3 := b1.cell 3; have n4 := b1.cell 4; have n5 := b1.cell 5; have a0 := b2.cell 0; have a1 := b2.cell 1; have a2 := b2.cell 2; have lM := b0.lt; have lN := b1.lt; have lA := b2.lt
  go_wp2_with fail
  refine (HP2.out _ g0).mono ?_
  rintro e w4 ⟨⟨A2, c2, rfl⟩, hG1⟩
  clear m0 m1 m2 m3 m4 m5 n0 n1 n2 n3 n4 n5 a0 a1 a2 lM lN lA; replace b0 := b0.keep hG1; replace b1 := b1.keep hG1; replace b2 := b2.keep hG1; replace g0 := g0.t hG1; clear hG1; have m0 := b0.cell 0; have m1 := b0.cell 1; have m2 := b0.cell 2; have m3 := b0.cell 3; have m4 := b0.cell 4; have m5 := b0.cell 5; have n0 := b1.cell 0; have n1 := b1.cell 1; have n2 := b1.cell 2; have n3 := b1.cell 3; have n4 := b1.cell 4; have n5 := b1.cell 5; have a0 := b2.cell 0; have a1 := b2.cell 1; have a2 := b2.cell 2; have lM := b0.lt; have lN := b1.lt; have lA := b2.lt
  go_wp2_with fail
  refine (HD1.out _ g0).mono ?_
  rintro e w5 ⟨rfl, hG1⟩
  clear m0 m1 m2 m3 m4 m5 n0 n1 n2 n3 n4 n5 a0 a1 a2 lM lN lA; replace b0 := b0.keep hG1; replace b1 := b1.keep hG1; replace b2 := b2.keep hG1; replace g0 := g0.t hG1; clear hG1; have m0 := b0.cell 0; have m1 := b0.cell 1; have m2 := b0.cell 2; have m3 := b0.cell 3; have m4 := b0.cell 4; have m5 := b0.cell 5; have n0 := b1.cell 0; have n1 := b1.cell 1; have n2 := b1.cell 2; have n3 := b1.cell 3; have n4 := b1.cell 4; have n5 := b1.cell 5; have a0 := b2.cell 0; have a1 := b2.cell 1; have a2 := b2.cell 2; have lM := b0.lt; have lN := b1.lt; have lA := b2.lt
  have b3 := Blk.new w5 46 #[.int .i64 lo, .int .i64 hi]
  go_wp2_with fail
  refine (HD2.out _ (g0.a _)).mono ?_
  rintro e w6 ⟨rfl, hG1⟩
  replace b3 := b3.keep hG1
  replace hG1 := ((G.rf w5).a (.cells #[.int .i64 lo, .int .i64 hi] 46)).t hG1
  clear m0 m1 m2 m3 m4 m5 n0 n1 n2 n3 n4 n5 a0 a1 a2 lM lN lA; replace b0 := b0.keep hG1; replace b1 := b1.keep hG1; replace b2 := b2.keep hG1; replace g0 := g0.t hG1; clear hG1; have m0 := b0.cell 0; have m1 := b0.cell 1; have m2 := b0.cell 2; have m3 := b0.cell 3; have m4 := b0.cell 4; have m5 := b0.cell 5; have n0 := b1.cell 0; have n1 := b1.cell 1; have n2 := b1.cell 2; have n3 := b1.cell 3; have n4 := b1.cell 4; have n5 := b1.cell 5; have a0 := b2.cell 0; have a1 := b2.cell 1; have a2 := b2.cell 2; have lM := b0.lt; have lN := b1.lt; have lA := b2.lt
  have b4 := Blk.new w6 46 #[.int .i64 lo, .int .i64 hi]
  go_wp2_with fail
  refine (HN1.out _ (g0.a _)).mono ?_
  rintro e w7 ⟨rfl, hG1⟩
  replace b4 := b4.keep hG1
  replace hG1 := ((G.rf w6).a (.cells #[.int .i64 lo, .int .i64 hi] 46)).t hG1
  replace b3 := b3.keep hG1
  clear m0 m1 m2 m3 m4 m5 n0 n1 n2 n3 n4 n5 a0 a1 a2 lM lN lA; replace b0 := b0.keep hG1; replace b1 := b1.keep hG1; replace b2 := b2.keep hG1; replace g0 := g0.t hG1; clear hG1; have m0 := b0.cell 0; have m1 := b0.cell 1; have m2 := b0.cell 2; have m3 := b0.cell 3; have m4 := b0.cell 4; have m5 := b0.cell 5; have n0 := b1.cell 0; have n1 := b1.cell 1; have n2 := b1.cell 2; have n3 := b1.cell 3; have n4 := b1.cell 4; have n5 := b1.cell 5; have a0 := b2.cell 0; have a1 := b2.cell 1; have a2 := b2.cell 2; have lM := b0.lt; have lN := b1.lt; have lA := b2.lt
  go_wp2_with fail
  refine (HN2.out _ g0).mono ?_
  rintro e w8 ⟨rfl, hG1⟩
  clear m0 m1 m2 m3 m4 m5 n0 n1 n2 n3 n4 n5 a0 a1 a2 lM lN lA; replace b3 := b3.keep hG1; replace b4 := b4.keep hG1; replace b0 := b0.keep hG1; replace b1 := b1.keep hG1; replace b2 := b2.keep hG1; replace g0 := g0.t hG1; clear hG1; have m0 := b0.cell 0; have m1 := b0.cell 1; have m2 := b0.cell 2; have m3 := b0.cell 3; have m4 := b0.cell 4; have m5 := b0.cell 5; have n0 := b1.cell 0; have n1 := b1.cell 1; have n2 := b1.cell 2; have n3 := b1.cell 3; have n4 := b1.cell 4; have n5 := b1.cell 5; have a0 := b2.cell 0; have a1 := b2.cell 1; have a2 := b2.cell 2; have lM := b0.lt; have lN := b1.lt; have lA := b2.lt
  have s0 := b3.cell 0
  have s1 := b3.cell 1
  have t0 := b4.cell 0
  have t1 := b4.cell 1
  have lS := b3.lt
  have lT := b4.lt
  go_wp2
  go_ret
  exact ⟨by simp, g0⟩
end
end Go.Proofs.Ytpjfdfddcnocpaa
