import Derived.Test.YtpjfdfddcnocpaaNa
set_option linter.unusedSimpArgs false
set_option linter.unusedVariables false
namespace Go.Proofs.Ytpjfdfddcnocpaa
open Go.RowKit
attribute [local go_sem] Oper.semAt_some

theorem loQ_sub (north : Int) (east : List Int) (a b : Nat) {L L' : List At} (hL : L ≠ []) (h : ∀ f ∈ L, f ∈ L') (hq : ∀ f ∈ L', q2 north east a b f ≤ 2592000000000000) : loQ north east a b L' ≤ loQ north east a b L := by
  rcases loQ_end north east a b L 9223372036854775807 with ⟨f, hf, e⟩ | e
  · unfold loQ
    rw [e]
    exact loQ_le north east a b L' _ f (h f hf)
  · obtain ⟨f, hf⟩ := List.exists_mem_of_ne_nil _ hL
    have h1 := loQ_le north east a b L 9223372036854775807 f hf
    have h2 := hq f (h f hf)
    omega
theorem hiQ_sub (north : Int) (east : List Int) (a b : Nat) {L L' : List At} (h : ∀ f ∈ L, f ∈ L') : hiQ north east a b L ≤ hiQ north east a b L' := by
  unfold hiQ
  rcases hiQ_end north east a b L 0 with ⟨f, hf, e⟩ | e
  · rw [e]
    exact (hiQ_ge north east a b L' 0).2 f (h f hf)
  · rw [e]
    exact (hiQ_ge north east a b L' 0).1
theorem w3k_spec (w : World) (c0 c1 c2 : Array Value) (t0 t1 t2 : TypeId) : G w (((w.alloc (.cells c0 t0)).alloc (.cells c1 t1)).alloc (.cells c2 t2)) ∧ Blk (((w.alloc (.cells c0 t0)).alloc (.cells c1 t1)).alloc (.cells c2 t2)) w.heap.size t0 c0 ∧
    Blk (((w.alloc (.cells c0 t0)).alloc (.cells c1 t1)).alloc (.cells c2 t2)) (w.heap.size + 1) t1 c1 ∧ Blk (((w.alloc (.cells c0 t0)).alloc (.cells c1 t1)).alloc (.cells c2 t2)) (w.heap.size + 1 + 1) t2 c2 :=
  ⟨(((G.rf w).a _).a _).a _, ((Blk.new w _ _).alloc _).alloc _, (Blk.new1 w _ _ _).alloc _, Blk.new2 w _ _ _ _⟩

section
variable (north wrong1 wrong2 f r rc px py qx qy : Int) (cols lofts a b : Nat) (east : List Int) (svs1 svs2 : List Sv) (ea1 sa1 ea2 sa2 : Option Addr) (ec1 sc1 ec2 sc2 : Nat) (w : World)
abbrev InsideGoal : Prop := Calls Try.prog 29 #[.agg #[.int .i64 north, .int .i64 cols, .slice ea1 east.length ec1, .int .i64 lofts, .slice sa1 svs1.length sc1, .int .i64 wrong1], .agg #[.int .i64 north, .int .i64 cols, .slice ea2 east.length ec2, .int .i64 lofts, .slice sa2 svs2.length sc2, .int .i64 wrong2], .agg #[.int .i64 f, .int .i64 a, .int .i64 b, .int .i64 r, .int .i64 rc, .int .i64 px, .int .i64 py, .int .i64 qx, .int .i64 qy]] w fun e w' => e = .returned (.bool true) ∧ G w w'
variable (he1 : IntsAt w ea1 east) (hs1 : SvsAt w sa1 svs1) (he2 : IntsAt w ea2 east) (hs2 : SvsAt w sa2 svs2) (hk1 : checkE north cols east lofts svs1 wrong1 = 0) (hk2 : checkE north cols east lofts svs2 wrong2 = 0)
  (hco : ∀ l, ∀ p ∈ allP cols east.length, cost north east svs2 l p ≤ cost north east svs1 l p) (hww : wrong1 ≤ wrong2) (ha : a < lofts) (hb : b < lofts)
include he1 hs1 he2 hs2 hk1 hk2 hco hww in
theorem many_pair : ∃ v1 e1 v2 e2 : Int, ((e1 = 0 ∧ e2 = 0 ∧ v1 ≤ v2) ∨ (e1 = 0 ∧ e2 = 2) ∨ (e1 = 2 ∧ e2 = 2)) ∧
    (∀ W, G w W → Calls Try.prog 36 #[.agg #[.int .i64 north, .int .i64 cols, .slice ea1 east.length ec1, .int .i64 lofts, .slice sa1 svs1.length sc1, .int .i64 wrong1]] W fun e w' => e = .returned (.tuple #[.int .i64 v1, .int .i64 e1]) ∧ G W w') ∧
    (∀ W, G w W → Calls Try.prog 36 #[.agg #[.int .i64 north, .int .i64 cols, .slice ea2 east.length ec2, .int .i64 lofts, .slice sa2 svs2.length sc2, .int .i64 wrong2]] W fun e w' => e = .returned (.tuple #[.int .i64 v2, .int .i64 e2]) ∧ G W w') := by
  obtain ⟨hv1, hl1, hso1⟩ := checkE_zero hk1
  obtain ⟨hv2, hl2, hso2⟩ := checkE_zero hk2
  have v1 := vm_bounds hv1
  have v2 := vm_bounds hv2
  have hm := many_mono (lofts := lofts) (wrong := wrong1) (wrong' := wrong2) hco (by omega) (by omega) hww (by omega)
  refine ⟨_, _, _, _, ?_, fun W hW => Many_ok north wrong1 cols lofts east svs1 ea1 sa1 ec1 sc1 W (he1.below hW) (hs1.below hW) hk1 hl1 hso1, fun W hW => Many_ok north wrong2 cols lofts east svs2 ea2 sa2 ec2 sc2 W (he2.below hW) (hs2.below hW) hk2 hl2 hso2⟩
  by_cases h2 : manyV north wrong2 cols lofts east svs2 ≤ 1000000
  · left
    rw [if_pos h2, if_pos h2, if_pos (by omega), if_pos (by omega)]
    exact ⟨rfl, rfl, by omega⟩
  · right
    by_cases h1 : manyV north wrong1 cols lofts east svs1 ≤ 1000000
    · left
      rw [if_neg h2, if_pos h1]
      exact ⟨rfl, rfl⟩
    · right
      rw [if_neg h2, if_neg h1]
      exact ⟨rfl, rfl⟩

set_option maxRecDepth 100000 in
set_option maxHeartbeats 4000000 in
include he1 hs1 he2 hs2 hk1 hk2 hco hww ha in
theorem inside_none (hw1 : wrong1 < fewSum north cols east svs1 lofts) (hP2 : ∃ v2' n2 c2 g : Nat, ∃ A2 : Option Addr, (g = 0 ∨ g = 3) ∧ ∀ W, G w W → Calls Try.prog 22 #[.agg #[.int .i64 north, .int .i64 cols, .slice ea2 east.length ec2, .int .i64 lofts, .slice sa2 svs2.length sc2, .int .i64 wrong2], .int .i64 a] W fun e w' => (∃ A n c, e = .returned (.tuple #[.slice A n c, .int .i64 g])) ∧ G W w') : InsideGoal north wrong1 wrong2 f r rc px py qx qy cols lofts a b east svs1 svs2 ea1 sa1 ea2 sa2 ec1 sc1 ec2 sc2 w := by
  obtain ⟨v1, e1, v2, e2, hcase, hM1, hM2⟩ := many_pair north wrong1 wrong2 cols lofts east svs1 svs2 ea1 sa1 ea2 sa2 ec1 sc1 ec2 sc2 w he1 hs1 he2 hs2 hk1 hk2 hco hww
  obtain ⟨g0, b0, b1, b2⟩ := w3k_spec w #[.int .i64 north, .int .i64 cols, .slice ea1 east.length ec1, .int .i64 lofts, .slice sa1 svs1.length sc1, .int .i64 wrong1] #[.int .i64 north, .int .i64 cols, .slice ea2 east.length ec2, .int .i64 lofts, .slice sa2 svs2.length sc2, .int .i64 wrong2] #[.int .i64 f, .int .i64 a, .int .i64 b, .int .i64 r, .int .i64 rc, .int .i64 px, .int .i64 py, .int .i64 qx, .int .i64 qy] 25 25 38
  have HM1 := Lib.hid hM1
  have HM2 := Lib.hid hM2
  obtain ⟨_, _, _, gv, _, hgv, hP2⟩ := hP2
  have HP1 := Lib.hid (fun (W : World) (hW : G w W) => Places_none north wrong1 cols lofts a east svs1 ea1 sa1 ec1 sc1 W (he1.below hW) (hs1.below hW) hk1 ha hw1)
  have HP2 := Lib.hid hP2
  clear hM1 hM2 hP2 hco hk1 hk2 hw1
  unfold InsideGoal
  rcases hgv with rfl | rfl
  all_goals rcases hcase with ⟨rfl, rfl, hvv⟩ | ⟨rfl, rfl⟩ | ⟨rfl, rfl⟩
  all_goals
    go_enter Try.func29, Try.ntmps29
    go_wp2_with fail
    refine (HM1.out _ g0).mono ?_
    rintro e w1 ⟨rfl, hG1⟩
    replace b0 := b0.keep hG1; replace b1 := b1.keep hG1; replace b2 := b2.keep hG1; replace g0 := g0.t hG1; clear hG1; have m0 := b0.cell 0; have m1 := b0.cell 1; have m2 := b0.cell 2; have m3 := b0.cell 3; have m4 := b0.cell 4; have m5 := b0.cell 5; have n0 := b1.cell 0; have n1 := b1.cell 1; have n2 := b1.cell 2; have n3 := b1.cell 3; have n4 := b1.cell 4; have n5 := b1.cell 5; have a1 := b2.cell 1; have a2 := b2.cell 2; have lM := b0.lt; have lN := b1.lt; have lA := b2.lt
    go_wp2_with fail
    refine (HM2.out _ g0).mono ?_
    rintro e w2 ⟨rfl, hG1⟩
    clear m0 m1 m2 m3 m4 m5 n0 n1 n2 n3 n4 n5 a1 a2 lM lN lA; replace b0 := b0.keep hG1; replace b1 := b1.keep hG1; replace b2 := b2.keep hG1; replace g0 := g0.t hG1; clear hG1; have m0 := b0.cell 0; have m1 := b0.cell 1; have m2 := b0.cell 2; have m3 := b0.cell 3; have m4 := b0.cell 4; have m5 := b0.cell 5; have n0 := b1.cell 0; have n1 := b1.cell 1; have n2 := b1.cell 2; have n3 := b1.cell 3; have n4 := b1.cell 4; have n5 := b1.cell 5; have a1 := b2.cell 1; have a2 := b2.cell 2; have lM := b0.lt; have lN := b1.lt; have lA := b2.lt
    go_wp2_with fail
    refine (HP1.out _ g0).mono ?_
    rintro e w3 ⟨rfl, hG1⟩
    clear m0 m1 m2 m3 m4 m5 n0 n1 n2 n3 n4 n5 a1 a2 lM lN lA; replace b0 := b0.keep hG1; replace b1 := b1.keep hG1; replace b2 := b2.keep hG1; replace g0 := g0.t hG1; clear hG1; have m0 := b0.cell 0; have m1 := b0.cell 1; have m2 := b0.cell 2; have m3 := b0.cell 3; have m4 := b0.cell 4; have m5 := b0.cell 5; have n0 := b1.cell 0; have n1 := b1.cell 1; have n2 := b1.cell 2; have n3 := b1.cell 3; have n4 := b1.cell 4; have n5 := b1.cell 5; have a1 := b2.cell 1; have a2 := b2.cell 2; have lM := b0.lt; have lN := b1.lt; have lA := b2.lt
    go_wp2_with fail
    refine (HP2.out _ g0).mono ?_
    rintro e w4 ⟨⟨A, nn, cc, rfl⟩, hG1⟩
    clear m0 m1 m2 m3 m4 m5 n0 n1 n2 n3 n4 n5 a1 a2 lM lN lA; replace b0 := b0.keep hG1; replace b1 := b1.keep hG1; replace b2 := b2.keep hG1; replace g0 := g0.t hG1; clear hG1; have m0 := b0.cell 0; have m1 := b0.cell 1; have m2 := b0.cell 2; have m3 := b0.cell 3; have m4 := b0.cell 4; have m5 := b0.cell 5; have n0 := b1.cell 0; have n1 := b1.cell 1; have n2 := b1.cell 2; have n3 := b1.cell 3; have n4 := b1.cell 4; have n5 := b1.cell 5; have a1 := b2.cell 1; have a2 := b2.cell 2; have lM := b0.lt; have lN := b1.lt; have lA := b2.lt
    go_wp2
    go_ret
    exact ⟨rfl, g0⟩

theorem places_sub {north wrong wrong' : Int} {cols lofts : Nat} {east : List Int} {svs svs' : List Sv} (h : ∀ l, ∀ p ∈ allP cols east.length, cost north east svs' l p ≤ cost north east svs l p) (hc : 1 ≤ cols) (hr : 1 ≤ east.length) (hww : wrong ≤ wrong') {l : Nat} (hl : l < lofts)
    (hw : ¬ wrong < fewSum north cols east svs lofts) :
    (∀ p ∈ (truthsOf (spotsOf north cols east svs) [l] (wrong - fewSum north cols east svs lofts)).map fun f => f l, p ∈ (truthsOf (spotsOf north cols east svs') [l] (wrong' - fewSum north cols east svs' lofts)).map fun f => f l) ∧
    ((truthsOf (spotsOf north cols east svs) [l] (wrong - fewSum north cols east svs lofts)).map fun f => f l).length ≤ ((truthsOf (spotsOf north cols east svs') [l] (wrong' - fewSum north cols east svs' lofts)).map fun f => f l).length := by
  have h1 : ∀ p ∈ (truthsOf (spotsOf north cols east svs) [l] (wrong - fewSum north cols east svs lofts)).map fun f => f l, p ∈ (truthsOf (spotsOf north cols east svs') [l] (wrong' - fewSum north cols east svs' lofts)).map fun f => f l := fun p hp => by
    obtain ⟨f, hf, rfl⟩ := List.mem_map.1 hp
    exact List.mem_map.2 ⟨f, truths_sub h hc hr hww (ls := [l]) (by simpa using hl) hw hf, rfl⟩
  refine ⟨h1, ?_⟩
  rw [places_eq, places_eq] at h1 ⊢
  rw [← List.countP_eq_length_filter, ← List.countP_eq_length_filter]
  exact List.countP_mono_left fun p hp hc => (List.mem_filter.1 (h1 p (List.mem_filter.2 ⟨hp, hc⟩))).2
set_option maxRecDepth 100000 in
set_option maxHeartbeats 4000000 in
include he1 hs1 he2 hs2 hk1 hk2 hco hww ha hb in
theorem inside_ok (hw1 : ¬ wrong1 < fewSum north cols east svs1 lofts) : InsideGoal north wrong1 wrong2 f r rc px py qx qy cols lofts a b east svs1 svs2 ea1 sa1 ea2 sa2 ec1 sc1 ec2 sc2 w := by
  obtain ⟨v1, e1, v2, e2, hcase, hM1, hM2⟩ := many_pair north wrong1 wrong2 cols lofts east svs1 svs2 ea1 sa1 ea2 sa2 ec1 sc1 ec2 sc2 w he1 hs1 he2 hs2 hk1 hk2 hco hww
  obtain ⟨g0, b0, b1, b2⟩ := w3k_spec w #[.int .i64 north, .int .i64 cols, .slice ea1 east.length ec1, .int .i64 lofts, .slice sa1 svs1.length sc1, .int .i64 wrong1] #[.int .i64 north, .int .i64 cols, .slice ea2 east.length ec2, .int .i64 lofts, .slice sa2 svs2.length sc2, .int .i64 wrong2] #[.int .i64 f, .int .i64 a, .int .i64 b, .int .i64 r, .int .i64 rc, .int .i64 px, .int .i64 py, .int .i64 qx, .int .i64 qy] 25 25 38
  have HM1 := Lib.hid hM1
  have HM2 := Lib.hid hM2
  have vb := vm_bounds (checkE_ok hk1)
  have hfe := few_le (lofts := lofts) hco (by omega) (by omega)
  have hw2 : ¬ wrong2 < fewSum north cols east svs2 lofts := by omega
  have hlen : ∀ (svs : List Sv) (sp : Int), (truthsOf (spotsOf north cols east svs) [a] sp).length ≤ 100 := fun svs sp => Nat.le_trans truths_one_len (spotsOf_len north cols east svs a (by omega) (by omega))
  have hsub : ∀ g ∈ truthsOf (spotsOf north cols east svs1) [a, b] (wrong1 - fewSum north cols east svs1 lofts), g ∈ truthsOf (spotsOf north cols east svs2) [a, b] (wrong2 - fewSum north cols east svs2 lofts) := fun g hg =>
    truths_sub (lofts := lofts) (wrong := wrong1) (wrong' := wrong2) hco (by omega) (by omega) hww (ls := [a, b]) (by simp [ha, hb]) hw1 hg
  obtain ⟨hp1, hp2⟩ := places_sub (lofts := lofts) (wrong := wrong1) (wrong' := wrong2) hco (by omega) (by omega) hww ha hw1
  have hne1 := truths_ne (ls := [a, b]) hk1 hw1
  have hne2 := truths_ne (ls := [a, b]) hk2 hw2
  have hna1 := truths_ne (ls := [a]) hk1 hw1
  have hna2 := truths_ne (ls := [a]) hk2 hw2
  have hq : ∀ f ∈ truthsOf (spotsOf north cols east svs2) [a, b] (wrong2 - fewSum north cols east svs2 lofts), 0 ≤ q2 north east a b f ∧ q2 north east a b f ≤ 2592000000000000 := fun f hf => by
    obtain ⟨⟨g1, g2⟩, ⟨g3, g4⟩⟩ := truths_good (rows := spotsOf north cols east svs2) (cols := cols) (er := east.length) (fun l _ s hs => spotsOf_mem hs) hf
    exact sq_bd (checkE_ok hk2) g2 g4 (by simp [isInB]; omega) (by simp [isInB]; omega)
  have hD1 := loQ_sub north east a b hne1 hsub (fun f hf => (hq f hf).2)
  have hD2 := hiQ_sub north east a b hsub
  obtain ⟨⟨f1, hf1, e1'⟩, ⟨f2, hf2, e2'⟩, _⟩ := ends north east a b _ 2592000000000000 (by omega) hne1 (fun f hf => hq f (hsub f hf))
  obtain ⟨⟨f3, hf3, e3'⟩, ⟨f4, hf4, e4'⟩, _⟩ := ends north east a b _ 2592000000000000 (by omega) hne2 hq
  have b1' := hq f1 (hsub f1 hf1)
  have b2' := hq f2 (hsub f2 hf2)
  have b3' := hq f3 hf3
  have b4' := hq f4 hf4
  have HP1 := Lib.hid (fun (W : World) (hW : G w W) => Places_ok north wrong1 cols lofts a east svs1 ea1 sa1 ec1 sc1 W (he1.below hW) (hs1.below hW) hk1 ha hw1 (Nat.le_trans (hlen _ _) (by omega)))
  have HP2 := Lib.hid (fun (W : World) (hW : G w W) => Places_ok north wrong2 cols lofts a east svs2 ea2 sa2 ec2 sc2 W (he2.below hW) (hs2.below hW) hk2 ha hw2 (Nat.le_trans (hlen _ _) (by omega)))
  have HDa := Lib.hid (fun (W : World) (hW : G w W) => Distance_ok north wrong1 cols lofts a b east svs1 ea1 sa1 ec1 sc1 1 W (he1.below hW) (hs1.below hW) hk1 (by omega) ha hb hw1 hne1)
  have HDb := Lib.hid (fun (W : World) (hW : G w W) => Distance_ok north wrong2 cols lofts a b east svs2 ea2 sa2 ec2 sc2 1 W (he2.below hW) (hs2.below hW) hk2 (by omega) ha hb hw2 hne2)
  unfold PlacesPost at HP1 HP2
  have hpl := hlen svs2 (wrong2 - fewSum north cols east svs2 lofts)
  generalize truthsOf (spotsOf north cols east svs1) [a, b] (wrong1 - fewSum north cols east svs1 lofts) = LA at *
  generalize truthsOf (spotsOf north cols east svs2) [a, b] (wrong2 - fewSum north cols east svs2 lofts) = LB at *
  generalize truthsOf (spotsOf north cols east svs1) [a] (wrong1 - fewSum north cols east svs1 lofts) = LP at *
  generalize truthsOf (spotsOf north cols east svs2) [a] (wrong2 - fewSum north cols east svs2 lofts) = LQ at *
  have hr1 : rnd 1 (loQ north east a b LB).toNat ≤ rnd 1 (loQ north east a b LA).toNat := rnd_mono 1 (by omega) (by omega)
  have hr2 : rnd 1 (hiQ north east a b LA).toNat ≤ rnd 1 (hiQ north east a b LB).toNat := rnd_mono 1 (by omega) (by omega)
  generalize rnd 1 (loQ north east a b LA).toNat = d1 at *
  generalize rnd 1 (loQ north east a b LB).toNat = d2 at *
  generalize rnd 1 (hiQ north east a b LA).toNat = h1 at *
  generalize rnd 1 (hiQ north east a b LB).toNat = h2 at *
  clear hM1 hM2 hco hk1 hk2 hw1 hw2 hlen hsub hne1 hne2 hq hD1 hD2 e1' e2' e3' e4' hf1 hf2 hf3 hf4 b1' b2' b3' b4' vb hfe
  unfold InsideGoal
  rcases hcase with ⟨rfl, rfl, hvv⟩ | ⟨rfl, rfl⟩ | ⟨rfl, rfl⟩
  all_goals
    go_enter Try.func29, Try.ntmps29
    go_wp2_with fail
    refine (HM1.out _ g0).mono ?_
    rintro e w1 ⟨rfl, hG1⟩
    replace b0 := b0.keep hG1; replace b1 := b1.keep hG1; replace b2 := b2.keep hG1; replace g0 := g0.t hG1; clear hG1; have m0 := b0.cell 0; have m1 := b0.cell 1; have m2 := b0.cell 2; have m3 := b0.cell 3; have m4 := b0.cell 4; have m5 := b0.cell 5; have n0 := b1.cell 0; have n1 := b1.cell 1; have n2 := b1.cell 2; have n3 := b1.cell 3; have n4 := b1.cell 4; have n5 := b1.cell 5; have a1 := b2.cell 1; have a2 := b2.cell 2; have lM := b0.lt; have lN := b1.lt; have lA := b2.lt
    go_wp2_with fail
    refine (HM2.out _ g0).mono ?_
    rintro e w2 ⟨rfl, hG1⟩
    clear m0 m1 m2 m3 m4 m5 n0 n1 n2 n3 n4 n5 a1 a2 lM lN lA; replace b0 := b0.keep hG1; replace b1 := b1.keep hG1; replace b2 := b2.keep hG1; replace g0 := g0.t hG1; clear hG1; have m0 := b0.cell 0; have m1 := b0.cell 1; have m2 := b0.cell 2; have m3 := b0.cell 3; have m4 := b0.cell 4; have m5 := b0.cell 5; have n0 := b1.cell 0; have n1 := b1.cell 1; have n2 := b1.cell 2; have n3 := b1.cell 3; have n4 := b1.cell 4; have n5 := b1.cell 5; have a1 := b2.cell 1; have a2 := b2.cell 2; have lM := b0.lt; have lN := b1.lt; have lA := b2.lt
    go_wp2_with fail
    refine (HP1.out _ g0).mono ?_
    rintro e w3 ⟨v3, rfl, hPo, hG1⟩
    clear m0 m1 m2 m3 m4 m5 n0 n1 n2 n3 n4 n5 a1 a2 lM lN lA; replace b0 := b0.keep hG1; replace b1 := b1.keep hG1; replace b2 := b2.keep hG1; replace g0 := g0.t hG1; clear hG1; have m0 := b0.cell 0; have m1 := b0.cell 1; have m2 := b0.cell 2; have m3 := b0.cell 3; have m4 := b0.cell 4; have m5 := b0.cell 5; have n0 := b1.cell 0; have n1 := b1.cell 1; have n2 := b1.cell 2; have n3 := b1.cell 3; have n4 := b1.cell 4; have n5 := b1.cell 5; have a1 := b2.cell 1; have a2 := b2.cell 2; have lM := b0.lt; have lN := b1.lt; have lA := b2.lt
    obtain ⟨gP, cP, rfl, lP, hPA⟩ := pts_of hna1 hPo
    go_wp2_with fail
    refine (HP2.out _ g0).mono ?_
    rintro e w4 ⟨v4, rfl, hQo, hG1⟩
    clear m0 m1 m2 m3 m4 m5 n0 n1 n2 n3 n4 n5 a1 a2 lM lN lA; replace b0 := b0.keep hG1; replace b1 := b1.keep hG1; replace b2 := b2.keep hG1; replace g0 := g0.t hG1; replace hPA := hPA.keep lP hG1; replace lP := Nat.lt_of_lt_of_le lP hG1.size; clear hG1; have m0 := b0.cell 0; have m1 := b0.cell 1; have m2 := b0.cell 2; have m3 := b0.cell 3; have m4 := b0.cell 4; have m5 := b0.cell 5; have n0 := b1.cell 0; have n1 := b1.cell 1; have n2 := b1.cell 2; have n3 := b1.cell 3; have n4 := b1.cell 4; have n5 := b1.cell 5; have a1 := b2.cell 1; have a2 := b2.cell 2; have lM := b0.lt; have lN := b1.lt; have lA := b2.lt
    obtain ⟨gQ, cQ, rfl, lQ, hQA⟩ := pts_of hna2 hQo
    have eP : LP.length = (LP.map fun g => g a).length := by simp
    have eQ : LQ.length = (LQ.map fun g => g a).length := by simp
    rw [eP, eQ]
    rw [eQ] at hpl
    generalize (LP.map fun g => g a) = P at *
    generalize (LQ.map fun g => g a) = Q at *
    have hpq : ¬ Q.length < P.length := by omega
    have HPS := Lib.hid hp1
    clear hPo hQo eP eQ hna1 hna2 HP1 HP2 hp1
    go_wp2_with fail
    go_loopw [15] (fun i wr => ∃ k : Nat, k ≤ P.length ∧ i = .int .i64 k ∧ G w4 wr) (fun i _ => P.length - (intOf i).toNat)
    case atStart => exact ⟨0, Nat.zero_le _, rfl, G.rf _⟩
    case round =>
      obtain ⟨k, hk, rfl, hGr⟩ := hrel
      by_cases hlt : k < P.length
      · obtain ⟨c1, c2⟩ := hPA.keep lP hGr k hlt
        have hin := HPS.out (P.getD k (0, 0)) (by simp [hlt])
        generalize P.getD k (0, 0) = p at *
        have hany : Q.any (isP p.1 p.2) = true := List.any_eq_true.2 ⟨p, hin, by simp [isP]⟩
        have hHas := has_any gQ cQ Q p.1 p.2 wr (Nat.lt_of_lt_of_le lQ hGr.size) (hQA.keep lQ hGr) (by omega)
        rw [hany] at hHas
        have HHas := Lib.hid hHas
        have HGr := Lib.hid hGr
        clear hGr hHas hany hin
        go_wp2_with (go_at_call 23; refine HHas.out.mono ?_; rintro e w5 ⟨rfl, hG5⟩)
        go_roundw
        case rel => exact ⟨k + 1, by omega, by go_num, HGr.out.t hG5⟩
        case measure => simp [intOf]; omega
      · obtain rfl : k = P.length := by omega
        clear m0 m1 m2 m3 m4 m5 n0 n1 n2 n3 n4 n5 a1 a2 lM lN lA; replace b0 := b0.keep hGr; replace b1 := b1.keep hGr; replace b2 := b2.keep hGr; replace g0 := g0.t hGr; clear hGr hPA hQA lP lQ; have m0 := b0.cell 0; have m1 := b0.cell 1; have m2 := b0.cell 2; have m3 := b0.cell 3; have m4 := b0.cell 4; have m5 := b0.cell 5; have n0 := b1.cell 0; have n1 := b1.cell 1; have n2 := b1.cell 2; have n3 := b1.cell 3; have n4 := b1.cell 4; have n5 := b1.cell 5; have a1 := b2.cell 1; have a2 := b2.cell 2; have lM := b0.lt; have lN := b1.lt; have lA := b2.lt
        go_wp2_with fail
        refine (HDa.out _ g0).mono ?_
        rintro e w6 ⟨rfl, hG1⟩
        clear m0 m1 m2 m3 m4 m5 n0 n1 n2 n3 n4 n5 a1 a2 lM lN lA; replace b0 := b0.keep hG1; replace b1 := b1.keep hG1; replace b2 := b2.keep hG1; replace g0 := g0.t hG1; clear hG1; have m0 := b0.cell 0; have m1 := b0.cell 1; have m2 := b0.cell 2; have m3 := b0.cell 3; have m4 := b0.cell 4; have m5 := b0.cell 5; have n0 := b1.cell 0; have n1 := b1.cell 1; have n2 := b1.cell 2; have n3 := b1.cell 3; have n4 := b1.cell 4; have n5 := b1.cell 5; have a1 := b2.cell 1; have a2 := b2.cell 2; have lM := b0.lt; have lN := b1.lt; have lA := b2.lt
        have b3 := Blk.new w6 46 #[.int .i64 d1, .int .i64 h1]
        go_wp2_with fail
        refine (HDb.out _ (g0.a _)).mono ?_
        rintro e w7 ⟨rfl, hG1⟩
        replace b3 := b3.keep hG1
        replace hG1 := ((G.rf w6).a (.cells #[.int .i64 d1, .int .i64 h1] 46)).t hG1
        clear m0 m1 m2 m3 m4 m5 n0 n1 n2 n3 n4 n5 a1 a2 lM lN lA; replace b0 := b0.keep hG1; replace b1 := b1.keep hG1; replace b2 := b2.keep hG1; replace g0 := g0.t hG1; clear hG1; have m0 := b0.cell 0; have m1 := b0.cell 1; have m2 := b0.cell 2; have m3 := b0.cell 3; have m4 := b0.cell 4; have m5 := b0.cell 5; have n0 := b1.cell 0; have n1 := b1.cell 1; have n2 := b1.cell 2; have n3 := b1.cell 3; have n4 := b1.cell 4; have n5 := b1.cell 5; have a1 := b2.cell 1; have a2 := b2.cell 2; have lM := b0.lt; have lN := b1.lt; have lA := b2.lt
        have s0 := b3.cell 0
        have s1 := b3.cell 1
        have lS := b3.lt
        go_wp2
        go_ret
        exact ⟨by first | (simp; done) | (simp; omega), g0.a _⟩

end
end Go.Proofs.Ytpjfdfddcnocpaa
