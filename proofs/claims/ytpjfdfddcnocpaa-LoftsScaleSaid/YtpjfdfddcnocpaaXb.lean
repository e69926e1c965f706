import Derived.Test.YtpjfdfddcnocpaaXa
import Derived.Test.YtpjfdfddcnocpaaXm
set_option linter.unusedSimpArgs false
set_option linter.unusedVariables false
namespace Go.Proofs.Ytpjfdfddcnocpaa
open Go.RowKit
attribute [local go_sem] Oper.semAt_some

theorem sqI_scale (north t : Int) (east : List Int) (ax ay bx bY : Int) : sqI (north * t) (east.map (· * t)) ax ay bx bY = t * t * sqI north east ax ay bx bY := by
  unfold sqI
  rw [getD_scale, getD_scale]
  generalize east.getD ay.toNat 0 = x
  generalize east.getD bY.toNat 0 = y
  have e1 : 2 * (north * t) * (ay - bY) = (2 * north * (ay - bY)) * t := by rw [← Int.mul_assoc, Int.mul_right_comm]
  have e2 : (x * t + y * t) * (ax - bx) = ((x + y) * (ax - bx)) * t := by rw [← Int.add_mul, Int.mul_right_comm]
  rw [e1, e2, sq_scale (2 * north * (ay - bY)) t, sq_scale ((x + y) * (ax - bx)) t, Int.mul_add]

section
variable (north cols lofts wrong t f a b r rc px py qx qy : Int) (east : List Int) (svs : List Sv) (ea sa : Option Addr) (ec sc : Nat) (w : World)
abbrev ScaleGoal : Prop := Calls Try.prog 10 #[.agg #[.int .i64 north, .int .i64 cols, .slice ea east.length ec, .int .i64 lofts, .slice sa svs.length sc, .int .i64 wrong], .int .i64 t, .agg #[.int .i64 f, .int .i64 a, .int .i64 b, .int .i64 r, .int .i64 rc, .int .i64 px, .int .i64 py, .int .i64 qx, .int .i64 qy]] w fun e w' => e = .returned (.bool true) ∧ G w w'
theorem w2_spec (w : World) (c0 c1 : Array Value) (t0 t1 : TypeId) :
    G w ((w.alloc (.cells c0 t0)).alloc (.cells c1 t1)) ∧ Blk ((w.alloc (.cells c0 t0)).alloc (.cells c1 t1)) w.heap.size t0 c0 ∧ Blk ((w.alloc (.cells c0 t0)).alloc (.cells c1 t1)) (w.heap.size + 1) t1 c1 :=
  ⟨((G.rf w).a _).a _, (Blk.new w t0 c0).alloc _, Blk.new1 w _ t1 c1⟩
variable (he : IntsAt w ea east) (hs : SvsAt w sa svs) (hl : east.length ≤ 9223372036854775807) (hl2 : svs.length ≤ 9223372036854775807)
set_option maxHeartbeats 4000000 in
include hl in
theorem scale_1 (h : 40 < east.length) : ScaleGoal north cols lofts wrong t f a b r rc px py qx qy east svs ea sa ec sc w := by
  obtain ⟨g0, b0, b1⟩ := w2_spec w #[.int .i64 north, .int .i64 cols, .slice ea east.length ec, .int .i64 lofts, .slice sa svs.length sc, .int .i64 wrong] #[.int .i64 f, .int .i64 a, .int .i64 b, .int .i64 r, .int .i64 rc, .int .i64 px, .int .i64 py, .int .i64 qx, .int .i64 qy] 25 38
  have h' : (40 : Int) < east.length := by omega
  unfold ScaleGoal
  go_enter Try.func10, Try.ntmps10
  go_wp2_with (first | (go_at_call 16; refine (works_any _).mono ?_; rintro e w2 ⟨rfl, hG2⟩))
  go_ret
  exact ⟨rfl, g0.t hG2⟩
set_option maxHeartbeats 4000000 in
include hl2 in
theorem scale_2 (h : ¬ 40 < east.length) (h2 : 60 < svs.length) : ScaleGoal north cols lofts wrong t f a b r rc px py qx qy east svs ea sa ec sc w := by
  obtain ⟨g0, b0, b1⟩ := w2_spec w #[.int .i64 north, .int .i64 cols, .slice ea east.length ec, .int .i64 lofts, .slice sa svs.length sc, .int .i64 wrong] #[.int .i64 f, .int .i64 a, .int .i64 b, .int .i64 r, .int .i64 rc, .int .i64 px, .int .i64 py, .int .i64 qx, .int .i64 qy] 25 38
  have h' : ¬ (40 : Int) < east.length := by omega
  have h2' : (60 : Int) < svs.length := by omega
  unfold ScaleGoal
  go_enter Try.func10, Try.ntmps10
  go_wp2_with (first | (go_at_call 16; refine (works_any _).mono ?_; rintro e w2 ⟨rfl, hG2⟩))
  go_ret
  exact ⟨rfl, g0.t hG2⟩
set_option maxHeartbeats 4000000 in
theorem scale_3 (h : ¬ 40 < east.length) (h2 : ¬ 60 < svs.length) (h3 : t < 1) : ScaleGoal north cols lofts wrong t f a b r rc px py qx qy east svs ea sa ec sc w := by
  obtain ⟨g0, b0, b1⟩ := w2_spec w #[.int .i64 north, .int .i64 cols, .slice ea east.length ec, .int .i64 lofts, .slice sa svs.length sc, .int .i64 wrong] #[.int .i64 f, .int .i64 a, .int .i64 b, .int .i64 r, .int .i64 rc, .int .i64 px, .int .i64 py, .int .i64 qx, .int .i64 qy] 25 38
  have h' : ¬ (40 : Int) < east.length := by omega
  have h2' : ¬ (60 : Int) < svs.length := by omega
  unfold ScaleGoal
  go_enter Try.func10, Try.ntmps10
  go_wp2_with (first | (go_at_call 16; refine (works_any _).mono ?_; rintro e w2 ⟨rfl, hG2⟩))
  go_ret
  exact ⟨rfl, g0.t hG2⟩
set_option maxHeartbeats 4000000 in
theorem scale_4 (h : ¬ 40 < east.length) (h2 : ¬ 60 < svs.length) (h3 : ¬ t < 1) (h4 : 1000 < t) : ScaleGoal north cols lofts wrong t f a b r rc px py qx qy east svs ea sa ec sc w := by
  obtain ⟨g0, b0, b1⟩ := w2_spec w #[.int .i64 north, .int .i64 cols, .slice ea east.length ec, .int .i64 lofts, .slice sa svs.length sc, .int .i64 wrong] #[.int .i64 f, .int .i64 a, .int .i64 b, .int .i64 r, .int .i64 rc, .int .i64 px, .int .i64 py, .int .i64 qx, .int .i64 qy] 25 38
  have h' : ¬ (40 : Int) < east.length := by omega
  have h2' : ¬ (60 : Int) < svs.length := by omega
  unfold ScaleGoal
  go_enter Try.func10, Try.ntmps10
  go_wp2_with (first | (go_at_call 16; refine (works_any _).mono ?_; rintro e w2 ⟨rfl, hG2⟩))
  go_ret
  exact ⟨rfl, g0.t hG2⟩
set_option maxHeartbeats 4000000 in
include he hs hl hl2 in
theorem scale_5 (h : ¬ 40 < east.length) (h2 : ¬ 60 < svs.length) (h3 : ¬ t < 1) (h4 : ¬ 1000 < t) (hk : (checkE north cols east lofts svs wrong == 0) = false) : ScaleGoal north cols lofts wrong t f a b r rc px py qx qy east svs ea sa ec sc w := by
  obtain ⟨g0, b0, b1⟩ := w2_spec w #[.int .i64 north, .int .i64 cols, .slice ea east.length ec, .int .i64 lofts, .slice sa svs.length sc, .int .i64 wrong] #[.int .i64 f, .int .i64 a, .int .i64 b, .int .i64 r, .int .i64 rc, .int .i64 px, .int .i64 py, .int .i64 qx, .int .i64 qy] 25 38
  have hC := fun (W : World) (hW : G w W) => rCheck_any north cols lofts wrong east svs ea sa ec sc W (he.below hW) (hs.below hW) hl hl2
  have h' : ¬ (40 : Int) < east.length := by omega
  have h2' : ¬ (60 : Int) < svs.length := by omega
  have hk2 : (checkE north cols east lofts svs wrong != 0) = true := by simp [bne, hk]
  generalize checkE north cols east lofts svs wrong = E at *
  have HC := Lib.hid hC
  clear hC
  unfold ScaleGoal
  go_enter Try.func10, Try.ntmps10
  go_wp2_with (first | (go_at_call 16; refine (works_any _).mono ?_; rintro e w2 ⟨rfl, hG2⟩) | (go_at_call 14; refine (HC.out _ g0).mono ?_; rintro e w1 ⟨rfl, hG1⟩; replace b0 := b0.keep hG1; replace b1 := b1.keep hG1; have m0 := b0.cell 0; have m1 := b0.cell 1; have m2 := b0.cell 2; have m3 := b0.cell 3; have m4 := b0.cell 4; have m5 := b0.cell 5; have p0 := b1.cell 5; have p1 := b1.cell 6; have q0 := b1.cell 7; have q1 := b1.cell 8; replace g0 := g0.t hG1; clear hG1))
  go_ret
  exact ⟨rfl, g0.t hG2⟩
set_option maxHeartbeats 4000000 in
include he hs hl hl2 in
theorem scale_6 (h : ¬ 40 < east.length) (h2 : ¬ 60 < svs.length) (h3 : ¬ t < 1) (h4 : ¬ 1000 < t) (hk : checkE north cols east lofts svs wrong = 0) (hp : isPlaceB cols east.length px py = false) : ScaleGoal north cols lofts wrong t f a b r rc px py qx qy east svs ea sa ec sc w := by
  obtain ⟨g0, b0, b1⟩ := w2_spec w #[.int .i64 north, .int .i64 cols, .slice ea east.length ec, .int .i64 lofts, .slice sa svs.length sc, .int .i64 wrong] #[.int .i64 f, .int .i64 a, .int .i64 b, .int .i64 r, .int .i64 rc, .int .i64 px, .int .i64 py, .int .i64 qx, .int .i64 qy] 25 38
  have hC := fun (W : World) (hW : G w W) => rCheck_any north cols lofts wrong east svs ea sa ec sc W (he.below hW) (hs.below hW) hl hl2
  have h' : ¬ (40 : Int) < east.length := by omega
  have h2' : ¬ (60 : Int) < svs.length := by omega
  rw [hk] at hC
  have hvb := vm_bounds (checkE_ok hk)
  have hcb : 0 ≤ cols ∧ cols ≤ 9223372036854775807 := by omega
  clear hvb hk
  have HC := Lib.hid hC
  clear hC
  unfold ScaleGoal
  go_enter Try.func10, Try.ntmps10
  go_wp2_with (first | (go_at_call 16; refine (works_any _).mono ?_; rintro e w2 ⟨rfl, hG2⟩) | (go_at_call 14; refine (HC.out _ g0).mono ?_; rintro e w1 ⟨rfl, hG1⟩; replace b0 := b0.keep hG1; replace b1 := b1.keep hG1; have m0 := b0.cell 0; have m1 := b0.cell 1; have m2 := b0.cell 2; have m3 := b0.cell 3; have m4 := b0.cell 4; have m5 := b0.cell 5; have p0 := b1.cell 5; have p1 := b1.cell 6; have q0 := b1.cell 7; have q1 := b1.cell 8; replace g0 := g0.t hG1; clear hG1) | (go_at_call 15; refine (rPlace_any _ _ _ _ _ _ _ _ _ _ _ hcb hl).mono ?_; rintro e w1 ⟨rfl, hG1⟩; clear m0 m1 m2 m3 m4 m5 p0 p1 q0 q1; replace b0 := b0.keep hG1; replace b1 := b1.keep hG1; have m0 := b0.cell 0; have m1 := b0.cell 1; have m2 := b0.cell 2; have m3 := b0.cell 3; have m4 := b0.cell 4; have m5 := b0.cell 5; have p0 := b1.cell 5; have p1 := b1.cell 6; have q0 := b1.cell 7; have q1 := b1.cell 8; replace g0 := g0.t hG1; clear hG1))
  go_ret
  exact ⟨rfl, g0.t hG2⟩
set_option maxHeartbeats 4000000 in
include he hs hl hl2 in
theorem scale_7 (h : ¬ 40 < east.length) (h2 : ¬ 60 < svs.length) (h3 : ¬ t < 1) (h4 : ¬ 1000 < t) (hk : checkE north cols east lofts svs wrong = 0) (hp : isPlaceB cols east.length px py = true) (hq : isPlaceB cols east.length qx qy = false) : ScaleGoal north cols lofts wrong t f a b r rc px py qx qy east svs ea sa ec sc w := by
  obtain ⟨g0, b0, b1⟩ := w2_spec w #[.int .i64 north, .int .i64 cols, .slice ea east.length ec, .int .i64 lofts, .slice sa svs.length sc, .int .i64 wrong] #[.int .i64 f, .int .i64 a, .int .i64 b, .int .i64 r, .int .i64 rc, .int .i64 px, .int .i64 py, .int .i64 qx, .int .i64 qy] 25 38
  have hC := fun (W : World) (hW : G w W) => rCheck_any north cols lofts wrong east svs ea sa ec sc W (he.below hW) (hs.below hW) hl hl2
  have h' : ¬ (40 : Int) < east.length := by omega
  have h2' : ¬ (60 : Int) < svs.length := by omega
  rw [hk] at hC
  have hvb := vm_bounds (checkE_ok hk)
  have hcb : 0 ≤ cols ∧ cols ≤ 9223372036854775807 := by omega
  clear hvb hk
  have HC := Lib.hid hC
  clear hC
  unfold ScaleGoal
  go_enter Try.func10, Try.ntmps10
  go_wp2_with (first | (go_at_call 16; refine (works_any _).mono ?_; rintro e w2 ⟨rfl, hG2⟩) | (go_at_call 14; refine (HC.out _ g0).mono ?_; rintro e w1 ⟨rfl, hG1⟩; replace b0 := b0.keep hG1; replace b1 := b1.keep hG1; have m0 := b0.cell 0; have m1 := b0.cell 1; have m2 := b0.cell 2; have m3 := b0.cell 3; have m4 := b0.cell 4; have m5 := b0.cell 5; have p0 := b1.cell 5; have p1 := b1.cell 6; have q0 := b1.cell 7; have q1 := b1.cell 8; replace g0 := g0.t hG1; clear hG1) | (go_at_call 15; refine (rPlace_any _ _ _ _ _ _ _ _ _ _ _ hcb hl).mono ?_; rintro e w1 ⟨rfl, hG1⟩; clear m0 m1 m2 m3 m4 m5 p0 p1 q0 q1; replace b0 := b0.keep hG1; replace b1 := b1.keep hG1; have m0 := b0.cell 0; have m1 := b0.cell 1; have m2 := b0.cell 2; have m3 := b0.cell 3; have m4 := b0.cell 4; have m5 := b0.cell 5; have p0 := b1.cell 5; have p1 := b1.cell 6; have q0 := b1.cell 7; have q1 := b1.cell 8; replace g0 := g0.t hG1; clear hG1))
  go_ret
  exact ⟨rfl, g0.t hG2⟩
end
end Go.Proofs.Ytpjfdfddcnocpaa
