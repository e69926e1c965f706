import Derived.Test.YtpjfdfddcnocpaaWc
set_option linter.unusedSimpArgs false
set_option linter.unusedVariables false
namespace Go.Proofs.Ytpjfdfddcnocpaa
open Go.RowKit
attribute [local go_sem] Oper.semAt_some

section
variable (north cols lofts wrong px qx : Int) (p q : Nat) (east : List Int) (svs : List Sv) (ea sa : Option Addr) (ec sc : Nat) (w : World)
/-- the contracts that the rest of the law runs over, at numbers d, nr, up, n -/
def RC (north cols lofts wrong px qx : Int) (p q : Nat) (east : List Int) (svs : List Sv) (ea sa : Option Addr) (ec sc : Nat) (w : World) (r : Int) (x y : Int) (i j : Nat) (v : Int) : Prop :=
  ∀ W, G w W → Calls Try.prog 17 #[.agg #[.int .i64 north, .int .i64 cols, .slice ea east.length ec, .int .i64 lofts, .slice sa svs.length sc, .int .i64 wrong], .agg #[.int .i64 x, .int .i64 i], .agg #[.int .i64 y, .int .i64 j], .int .i64 r] W fun e w' =>
    e = .returned (.tuple #[.int .i64 v, .int .i64 0]) ∧ G W w'

set_option maxHeartbeats 4000000 in
set_option maxRecDepth 100000 in
theorem rounded_core (d n nr up : Int) (hC : ∀ W, G w W → Calls Try.prog 14 #[.agg #[.int .i64 north, .int .i64 cols, .slice ea east.length ec, .int .i64 lofts, .slice sa svs.length sc, .int .i64 wrong]] W fun e w' => e = .returned (.int .i64 0) ∧ G W w')
    (hl : east.length ≤ 9223372036854775807) (hcb : 0 ≤ cols ∧ cols ≤ 9223372036854775807) (h : ¬ 40 < east.length) (h2 : ¬ 60 < svs.length) (hp : isPlaceB cols east.length px p = true) (hq : isPlaceB cols east.length qx q = true)
    (h0 : RC north cols lofts wrong px qx p q east svs ea sa ec sc w 0 px qx p q d) (h1 : RC north cols lofts wrong px qx p q east svs ea sa ec sc w 1 px qx p q nr) (h3 : RC north cols lofts wrong px qx p q east svs ea sa ec sc w 2 px qx p q up) (h4 : RC north cols lofts wrong px qx p q east svs ea sa ec sc w 1 qx px q p nr)
    (hS : ∀ W, G w W → Calls Try.prog 18 #[.agg #[.int .i64 north, .int .i64 cols, .slice ea east.length ec, .int .i64 lofts, .slice sa svs.length sc, .int .i64 wrong], .agg #[.int .i64 px, .int .i64 p], .agg #[.int .i64 qx, .int .i64 q]] W fun e w' => e = .returned (.int .i64 n) ∧ G W w')
    (hd : 0 ≤ d ∧ d ≤ 100000000) (t1 : ¬ n < 4 * d * d) (t2 : ¬ 4 * (d + 1) * (d + 1) ≤ n) (hb : 4 * (d + 1) * (d + 1) ≤ 9223372036854775807 ∧ 0 ≤ 4 * d * d)
    (t3 : (4 * d * d < n ∧ up = d + 1) ∨ (¬ 4 * d * d < n ∧ up = d)) (t4 : ((2 * d + 1) * (2 * d + 1) ≤ n ∧ nr = d + 1) ∨ (¬ (2 * d + 1) * (2 * d + 1) ≤ n ∧ nr = d)) :
    RoundedGoal north cols lofts wrong px p qx q east svs ea sa ec sc w := by
  have h' : ¬ (40 : Int) < east.length := by omega
  have h2' : ¬ (60 : Int) < svs.length := by omega
  unfold RC at h0 h1 h3 h4
  obtain ⟨g0, b0, b1, b2⟩ := w3_spec w #[.int .i64 north, .int .i64 cols, .slice ea east.length ec, .int .i64 lofts, .slice sa svs.length sc, .int .i64 wrong] #[.int .i64 px, .int .i64 p] #[.int .i64 qx, .int .i64 q] 25 27 27
  have e1 : (2 * d + 1) * (2 * d + 1) = 4 * d * d + 4 * d + 1 := by rw [Int.add_mul, Int.mul_add, show 2 * d * (2 * d) = 4 * d * d by rw [Int.mul_assoc, Int.mul_left_comm d 2 d, ← Int.mul_assoc, ← Int.mul_assoc]; rfl]; omega
  have e2 : 4 * (d + 1) * (d + 1) = 4 * d * d + 8 * d + 4 := by
    have : (d + 1) * (d + 1) = d * d + 2 * d + 1 := by rw [Int.add_mul, Int.mul_add]; omega
    rw [Int.mul_assoc, this, Int.mul_assoc]; omega
  have x1 : IntKind.i64.wrap (4 * d) = 4 * d := IntWalk.i64_in _ (by omega)
  have x2 : IntKind.i64.wrap (4 * d * d) = 4 * d * d := IntWalk.i64_in _ (by omega)
  have x3 : IntKind.i64.wrap (d + 1) = d + 1 := IntWalk.i64_in _ (by omega)
  have x4 : IntKind.i64.wrap (4 * (d + 1)) = 4 * (d + 1) := IntWalk.i64_in _ (by omega)
  have x5 : IntKind.i64.wrap (4 * (d + 1) * (d + 1)) = 4 * (d + 1) * (d + 1) := IntWalk.i64_in _ (by omega)
  have x6 : IntKind.i64.wrap (2 * d) = 2 * d := IntWalk.i64_in _ (by omega)
  have x7 : IntKind.i64.wrap (2 * d + 1) = 2 * d + 1 := IntWalk.i64_in _ (by omega)
  have x8 : IntKind.i64.wrap ((2 * d + 1) * (2 * d + 1)) = (2 * d + 1) * (2 * d + 1) := IntWalk.i64_in _ (by omega)
  have x9 : IntKind.i64.wrap d = d := IntWalk.i64_in _ (by omega)
  have HC := Lib.hid hC
  have H0 := Lib.hid h0
  have H1 := Lib.hid h1
  have H3 := Lib.hid h3
  have H4 := Lib.hid h4
  have HS := Lib.hid hS
  clear hC h0 h1 h3 h4 hS e1 e2 hb
  unfold RoundedGoal
  rcases t3 with ⟨t3, rfl⟩ | ⟨t3, rfl⟩
  · rcases t4 with ⟨t4, rfl⟩ | ⟨t4, rfl⟩
    · go_enter Try.func3, Try.ntmps3
      go_wp2_with (first | (go_at_call 14; refine (HC.out _ g0).mono ?_; rintro e w1 ⟨rfl, hG1⟩; replace b0 := b0.keep hG1; replace b1 := b1.keep hG1; replace b2 := b2.keep hG1; have m0 := b0.cell 0; have m1 := b0.cell 1; have m2 := b0.cell 2; have m3 := b0.cell 3; have m4 := b0.cell 4; have m5 := b0.cell 5; have p0 := b1.cell 0; have p1 := b1.cell 1; have q0 := b2.cell 0; have q1 := b2.cell 1; replace g0 := g0.t hG1; clear hG1) | (go_at_call 15; refine (rPlace_any _ _ _ _ _ _ _ _ _ _ _ hcb hl).mono ?_; rintro e w1 ⟨rfl, hG1⟩; clear m0 m1 m2 m3 m4 m5 p0 p1 q0 q1; replace b0 := b0.keep hG1; replace b1 := b1.keep hG1; replace b2 := b2.keep hG1; have m0 := b0.cell 0; have m1 := b0.cell 1; have m2 := b0.cell 2; have m3 := b0.cell 3; have m4 := b0.cell 4; have m5 := b0.cell 5; have p0 := b1.cell 0; have p1 := b1.cell 1; have q0 := b2.cell 0; have q1 := b2.cell 1; replace g0 := g0.t hG1; clear hG1))
      refine (H0.out _ g0).mono ?_
      rintro e w1 ⟨rfl, hG1⟩
      clear m0 m1 m2 m3 m4 m5 p0 p1 q0 q1; replace b0 := b0.keep hG1; replace b1 := b1.keep hG1; replace b2 := b2.keep hG1; have m0 := b0.cell 0; have m1 := b0.cell 1; have m2 := b0.cell 2; have m3 := b0.cell 3; have m4 := b0.cell 4; have m5 := b0.cell 5; have p0 := b1.cell 0; have p1 := b1.cell 1; have q0 := b2.cell 0; have q1 := b2.cell 1; replace g0 := g0.t hG1; clear hG1
      go_wp2_with fail
      refine (H1.out _ g0).mono ?_
      rintro e w1 ⟨rfl, hG1⟩
      clear m0 m1 m2 m3 m4 m5 p0 p1 q0 q1; replace b0 := b0.keep hG1; replace b1 := b1.keep hG1; replace b2 := b2.keep hG1; have m0 := b0.cell 0; have m1 := b0.cell 1; have m2 := b0.cell 2; have m3 := b0.cell 3; have m4 := b0.cell 4; have m5 := b0.cell 5; have p0 := b1.cell 0; have p1 := b1.cell 1; have q0 := b2.cell 0; have q1 := b2.cell 1; replace g0 := g0.t hG1; clear hG1
      go_wp2_with fail
      refine (H3.out _ g0).mono ?_
      rintro e w1 ⟨rfl, hG1⟩
      clear m0 m1 m2 m3 m4 m5 p0 p1 q0 q1; replace b0 := b0.keep hG1; replace b1 := b1.keep hG1; replace b2 := b2.keep hG1; have m0 := b0.cell 0; have m1 := b0.cell 1; have m2 := b0.cell 2; have m3 := b0.cell 3; have m4 := b0.cell 4; have m5 := b0.cell 5; have p0 := b1.cell 0; have p1 := b1.cell 1; have q0 := b2.cell 0; have q1 := b2.cell 1; replace g0 := g0.t hG1; clear hG1
      go_wp2_with fail
      refine (H4.out _ g0).mono ?_
      rintro e w1 ⟨rfl, hG1⟩
      clear m0 m1 m2 m3 m4 m5 p0 p1 q0 q1; replace b0 := b0.keep hG1; replace b1 := b1.keep hG1; replace b2 := b2.keep hG1; have m0 := b0.cell 0; have m1 := b0.cell 1; have m2 := b0.cell 2; have m3 := b0.cell 3; have m4 := b0.cell 4; have m5 := b0.cell 5; have p0 := b1.cell 0; have p1 := b1.cell 1; have q0 := b2.cell 0; have q1 := b2.cell 1; replace g0 := g0.t hG1; clear hG1
      go_wp2_with fail
      refine (HS.out _ g0).mono ?_
      rintro e w1 ⟨rfl, hG1⟩
      clear m0 m1 m2 m3 m4 m5 p0 p1 q0 q1; replace b0 := b0.keep hG1; replace b1 := b1.keep hG1; replace b2 := b2.keep hG1; have m0 := b0.cell 0; have m1 := b0.cell 1; have m2 := b0.cell 2; have m3 := b0.cell 3; have m4 := b0.cell 4; have m5 := b0.cell 5; have p0 := b1.cell 0; have p1 := b1.cell 1; have q0 := b2.cell 0; have q1 := b2.cell 1; replace g0 := g0.t hG1; clear hG1
      go_wp2_with fail
      refine (works_any _).mono ?_
      rintro e w2 ⟨rfl, hG2⟩
      go_wp2
      go_ret
      exact ⟨rfl, g0.t hG2⟩
    · go_enter Try.func3, Try.ntmps3
      go_wp2_with (first | (go_at_call 14; refine (HC.out _ g0).mono ?_; rintro e w1 ⟨rfl, hG1⟩; replace b0 := b0.keep hG1; replace b1 := b1.keep hG1; replace b2 := b2.keep hG1; have m0 := b0.cell 0; have m1 := b0.cell 1; have m2 := b0.cell 2; have m3 := b0.cell 3; have m4 := b0.cell 4; have m5 := b0.cell 5; have p0 := b1.cell 0; have p1 := b1.cell 1; have q0 := b2.cell 0; have q1 := b2.cell 1; replace g0 := g0.t hG1; clear hG1) | (go_at_call 15; refine (rPlace_any _ _ _ _ _ _ _ _ _ _ _ hcb hl).mono ?_; rintro e w1 ⟨rfl, hG1⟩; clear m0 m1 m2 m3 m4 m5 p0 p1 q0 q1; replace b0 := b0.keep hG1; replace b1 := b1.keep hG1; replace b2 := b2.keep hG1; have m0 := b0.cell 0; have m1 := b0.cell 1; have m2 := b0.cell 2; have m3 := b0.cell 3; have m4 := b0.cell 4; have m5 := b0.cell 5; have p0 := b1.cell 0; have p1 := b1.cell 1; have q0 := b2.cell 0; have q1 := b2.cell 1; replace g0 := g0.t hG1; clear hG1))
      refine (H0.out _ g0).mono ?_
      rintro e w1 ⟨rfl, hG1⟩
      clear m0 m1 m2 m3 m4 m5 p0 p1 q0 q1; replace b0 := b0.keep hG1; replace b1 := b1.keep hG1; replace b2 := b2.keep hG1; have m0 := b0.cell 0; have m1 := b0.cell 1; have m2 := b0.cell 2; have m3 := b0.cell 3; have m4 := b0.cell 4; have m5 := b0.cell 5; have p0 := b1.cell 0; have p1 := b1.cell 1; have q0 := b2.cell 0; have q1 := b2.cell 1; replace g0 := g0.t hG1; clear hG1
      go_wp2_with fail
      refine (H1.out _ g0).mono ?_
      rintro e w1 ⟨rfl, hG1⟩
      clear m0 m1 m2 m3 m4 m5 p0 p1 q0 q1; replace b0 := b0.keep hG1; replace b1 := b1.keep hG1; replace b2 := b2.keep hG1; have m0 := b0.cell 0; have m1 := b0.cell 1; have m2 := b0.cell 2; have m3 := b0.cell 3; have m4 := b0.cell 4; have m5 := b0.cell 5; have p0 := b1.cell 0; have p1 := b1.cell 1; have q0 := b2.cell 0; have q1 := b2.cell 1; replace g0 := g0.t hG1; clear hG1
      go_wp2_with fail
      refine (H3.out _ g0).mono ?_
      rintro e w1 ⟨rfl, hG1⟩
      clear m0 m1 m2 m3 m4 m5 p0 p1 q0 q1; replace b0 := b0.keep hG1; replace b1 := b1.keep hG1; replace b2 := b2.keep hG1; have m0 := b0.cell 0; have m1 := b0.cell 1; have m2 := b0.cell 2; have m3 := b0.cell 3; have m4 := b0.cell 4; have m5 := b0.cell 5; have p0 := b1.cell 0; have p1 := b1.cell 1; have q0 := b2.cell 0; have q1 := b2.cell 1; replace g0 := g0.t hG1; clear hG1
      go_wp2_with fail
      refine (H4.out _ g0).mono ?_
      rintro e w1 ⟨rfl, hG1⟩
      clear m0 m1 m2 m3 m4 m5 p0 p1 q0 q1; replace b0 := b0.keep hG1; replace b1 := b1.keep hG1; replace b2 := b2.keep hG1; have m0 := b0.cell 0; have m1 := b0.cell 1; have m2 := b0.cell 2; have m3 := b0.cell 3; have m4 := b0.cell 4; have m5 := b0.cell 5; have p0 := b1.cell 0; have p1 := b1.cell 1; have q0 := b2.cell 0; have q1 := b2.cell 1; replace g0 := g0.t hG1; clear hG1
      go_wp2_with fail
      refine (HS.out _ g0).mono ?_
      rintro e w1 ⟨rfl, hG1⟩
      clear m0 m1 m2 m3 m4 m5 p0 p1 q0 q1; replace b0 := b0.keep hG1; replace b1 := b1.keep hG1; replace b2 := b2.keep hG1; have m0 := b0.cell 0; have m1 := b0.cell 1; have m2 := b0.cell 2; have m3 := b0.cell 3; have m4 := b0.cell 4; have m5 := b0.cell 5; have p0 := b1.cell 0; have p1 := b1.cell 1; have q0 := b2.cell 0; have q1 := b2.cell 1; replace g0 := g0.t hG1; clear hG1
      go_wp2_with fail
      refine (works_any _).mono ?_
      rintro e w2 ⟨rfl, hG2⟩
      go_wp2
      go_ret
      exact ⟨rfl, g0.t hG2⟩
  · rcases t4 with ⟨t4, rfl⟩ | ⟨t4, rfl⟩
    · go_enter Try.func3, Try.ntmps3
      go_wp2_with (first | (go_at_call 14; refine (HC.out _ g0).mono ?_; rintro e w1 ⟨rfl, hG1⟩; replace b0 := b0.keep hG1; replace b1 := b1.keep hG1; replace b2 := b2.keep hG1; have m0 := b0.cell 0; have m1 := b0.cell 1; have m2 := b0.cell 2; have m3 := b0.cell 3; have m4 := b0.cell 4; have m5 := b0.cell 5; have p0 := b1.cell 0; have p1 := b1.cell 1; have q0 := b2.cell 0; have q1 := b2.cell 1; replace g0 := g0.t hG1; clear hG1) | (go_at_call 15; refine (rPlace_any _ _ _ _ _ _ _ _ _ _ _ hcb hl).mono ?_; rintro e w1 ⟨rfl, hG1⟩; clear m0 m1 m2 m3 m4 m5 p0 p1 q0 q1; replace b0 := b0.keep hG1; replace b1 := b1.keep hG1; replace b2 := b2.keep hG1; have m0 := b0.cell 0; have m1 := b0.cell 1; have m2 := b0.cell 2; have m3 := b0.cell 3; have m4 := b0.cell 4; have m5 := b0.cell 5; have p0 := b1.cell 0; have p1 := b1.cell 1; have q0 := b2.cell 0; have q1 := b2.cell 1; replace g0 := g0.t hG1; clear hG1))
      refine (H0.out _ g0).mono ?_
      rintro e w1 ⟨rfl, hG1⟩
      clear m0 m1 m2 m3 m4 m5 p0 p1 q0 q1; replace b0 := b0.keep hG1; replace b1 := b1.keep hG1; replace b2 := b2.keep hG1; have m0 := b0.cell 0; have m1 := b0.cell 1; have m2 := b0.cell 2; have m3 := b0.cell 3; have m4 := b0.cell 4; have m5 := b0.cell 5; have p0 := b1.cell 0; have p1 := b1.cell 1; have q0 := b2.cell 0; have q1 := b2.cell 1; replace g0 := g0.t hG1; clear hG1
      go_wp2_with fail
      refine (H1.out _ g0).mono ?_
      rintro e w1 ⟨rfl, hG1⟩
      clear m0 m1 m2 m3 m4 m5 p0 p1 q0 q1; replace b0 := b0.keep hG1; replace b1 := b1.keep hG1; replace b2 := b2.keep hG1; have m0 := b0.cell 0; have m1 := b0.cell 1; have m2 := b0.cell 2; have m3 := b0.cell 3; have m4 := b0.cell 4; have m5 := b0.cell 5; have p0 := b1.cell 0; have p1 := b1.cell 1; have q0 := b2.cell 0; have q1 := b2.cell 1; replace g0 := g0.t hG1; clear hG1
      go_wp2_with fail
      refine (H3.out _ g0).mono ?_
      rintro e w1 ⟨rfl, hG1⟩
      clear m0 m1 m2 m3 m4 m5 p0 p1 q0 q1; replace b0 := b0.keep hG1; replace b1 := b1.keep hG1; replace b2 := b2.keep hG1; have m0 := b0.cell 0; have m1 := b0.cell 1; have m2 := b0.cell 2; have m3 := b0.cell 3; have m4 := b0.cell 4; have m5 := b0.cell 5; have p0 := b1.cell 0; have p1 := b1.cell 1; have q0 := b2.cell 0; have q1 := b2.cell 1; replace g0 := g0.t hG1; clear hG1
      go_wp2_with fail
      refine (H4.out _ g0).mono ?_
      rintro e w1 ⟨rfl, hG1⟩
      clear m0 m1 m2 m3 m4 m5 p0 p1 q0 q1; replace b0 := b0.keep hG1; replace b1 := b1.keep hG1; replace b2 := b2.keep hG1; have m0 := b0.cell 0; have m1 := b0.cell 1; have m2 := b0.cell 2; have m3 := b0.cell 3; have m4 := b0.cell 4; have m5 := b0.cell 5; have p0 := b1.cell 0; have p1 := b1.cell 1; have q0 := b2.cell 0; have q1 := b2.cell 1; replace g0 := g0.t hG1; clear hG1
      go_wp2_with fail
      refine (HS.out _ g0).mono ?_
      rintro e w1 ⟨rfl, hG1⟩
      clear m0 m1 m2 m3 m4 m5 p0 p1 q0 q1; replace b0 := b0.keep hG1; replace b1 := b1.keep hG1; replace b2 := b2.keep hG1; have m0 := b0.cell 0; have m1 := b0.cell 1; have m2 := b0.cell 2; have m3 := b0.cell 3; have m4 := b0.cell 4; have m5 := b0.cell 5; have p0 := b1.cell 0; have p1 := b1.cell 1; have q0 := b2.cell 0; have q1 := b2.cell 1; replace g0 := g0.t hG1; clear hG1
      go_wp2_with fail
      refine (works_any _).mono ?_
      rintro e w2 ⟨rfl, hG2⟩
      go_wp2
      go_ret
      exact ⟨rfl, g0.t hG2⟩
    · go_enter Try.func3, Try.ntmps3
      go_wp2_with (first | (go_at_call 14; refine (HC.out _ g0).mono ?_; rintro e w1 ⟨rfl, hG1⟩; replace b0 := b0.keep hG1; replace b1 := b1.keep hG1; replace b2 := b2.keep hG1; have m0 := b0.cell 0; have m1 := b0.cell 1; have m2 := b0.cell 2; have m3 := b0.cell 3; have m4 := b0.cell 4; have m5 := b0.cell 5; have p0 := b1.cell 0; have p1 := b1.cell 1; have q0 := b2.cell 0; have q1 := b2.cell 1; replace g0 := g0.t hG1; clear hG1) | (go_at_call 15; refine (rPlace_any _ _ _ _ _ _ _ _ _ _ _ hcb hl).mono ?_; rintro e w1 ⟨rfl, hG1⟩; clear m0 m1 m2 m3 m4 m5 p0 p1 q0 q1; replace b0 := b0.keep hG1; replace b1 := b1.keep hG1; replace b2 := b2.keep hG1; have m0 := b0.cell 0; have m1 := b0.cell 1; have m2 := b0.cell 2; have m3 := b0.cell 3; have m4 := b0.cell 4; have m5 := b0.cell 5; have p0 := b1.cell 0; have p1 := b1.cell 1; have q0 := b2.cell 0; have q1 := b2.cell 1; replace g0 := g0.t hG1; clear hG1))
      refine (H0.out _ g0).mono ?_
      rintro e w1 ⟨rfl, hG1⟩
      clear m0 m1 m2 m3 m4 m5 p0 p1 q0 q1; replace b0 := b0.keep hG1; replace b1 := b1.keep hG1; replace b2 := b2.keep hG1; have m0 := b0.cell 0; have m1 := b0.cell 1; have m2 := b0.cell 2; have m3 := b0.cell 3; have m4 := b0.cell 4; have m5 := b0.cell 5; have p0 := b1.cell 0; have p1 := b1.cell 1; have q0 := b2.cell 0; have q1 := b2.cell 1; replace g0 := g0.t hG1; clear hG1
      go_wp2_with fail
      refine (H1.out _ g0).mono ?_
      rintro e w1 ⟨rfl, hG1⟩
      clear m0 m1 m2 m3 m4 m5 p0 p1 q0 q1; replace b0 := b0.keep hG1; replace b1 := b1.keep hG1; replace b2 := b2.keep hG1; have m0 := b0.cell 0; have m1 := b0.cell 1; have m2 := b0.cell 2; have m3 := b0.cell 3; have m4 := b0.cell 4; have m5 := b0.cell 5; have p0 := b1.cell 0; have p1 := b1.cell 1; have q0 := b2.cell 0; have q1 := b2.cell 1; replace g0 := g0.t hG1; clear hG1
      go_wp2_with fail
      refine (H3.out _ g0).mono ?_
      rintro e w1 ⟨rfl, hG1⟩
      clear m0 m1 m2 m3 m4 m5 p0 p1 q0 q1; replace b0 := b0.keep hG1; replace b1 := b1.keep hG1; replace b2 := b2.keep hG1; have m0 := b0.cell 0; have m1 := b0.cell 1; have m2 := b0.cell 2; have m3 := b0.cell 3; have m4 := b0.cell 4; have m5 := b0.cell 5; have p0 := b1.cell 0; have p1 := b1.cell 1; have q0 := b2.cell 0; have q1 := b2.cell 1; replace g0 := g0.t hG1; clear hG1
      go_wp2_with fail
      refine (H4.out _ g0).mono ?_
      rintro e w1 ⟨rfl, hG1⟩
      clear m0 m1 m2 m3 m4 m5 p0 p1 q0 q1; replace b0 := b0.keep hG1; replace b1 := b1.keep hG1; replace b2 := b2.keep hG1; have m0 := b0.cell 0; have m1 := b0.cell 1; have m2 := b0.cell 2; have m3 := b0.cell 3; have m4 := b0.cell 4; have m5 := b0.cell 5; have p0 := b1.cell 0; have p1 := b1.cell 1; have q0 := b2.cell 0; have q1 := b2.cell 1; replace g0 := g0.t hG1; clear hG1
      go_wp2_with fail
      refine (HS.out _ g0).mono ?_
      rintro e w1 ⟨rfl, hG1⟩
      clear m0 m1 m2 m3 m4 m5 p0 p1 q0 q1; replace b0 := b0.keep hG1; replace b1 := b1.keep hG1; replace b2 := b2.keep hG1; have m0 := b0.cell 0; have m1 := b0.cell 1; have m2 := b0.cell 2; have m3 := b0.cell 3; have m4 := b0.cell 4; have m5 := b0.cell 5; have p0 := b1.cell 0; have p1 := b1.cell 1; have q0 := b2.cell 0; have q1 := b2.cell 1; replace g0 := g0.t hG1; clear hG1
      go_wp2_with fail
      refine (works_any _).mono ?_
      rintro e w2 ⟨rfl, hG2⟩
      go_wp2
      go_ret
      exact ⟨rfl, g0.t hG2⟩
end
end Go.Proofs.Ytpjfdfddcnocpaa
