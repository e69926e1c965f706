import Derived.Test.YtpjfdfddcnocpaaWb
set_option linter.unusedSimpArgs false
set_option linter.unusedVariables false
namespace Go.Proofs.Ytpjfdfddcnocpaa
open Go.RowKit
attribute [local go_sem] Oper.semAt_some

theorem sq_neg (x y : Int) : (x - y) * (x - y) = (y - x) * (y - x) := by
  have : x - y = -(y - x) := by omega
  rw [this, Int.neg_mul_neg]
theorem sqI_comm (north : Int) (east : List Int) (ax ay bx bY : Int) : sqI north east ax ay bx bY = sqI north east bx bY ax ay := by
  unfold sqI
  have e1 : 2 * north * (ay - bY) = -(2 * north * (bY - ay)) := by rw [← Int.mul_neg]; congr 1; omega
  have e2 : (east.getD ay.toNat 0 + east.getD bY.toNat 0) * (ax - bx) = -((east.getD bY.toNat 0 + east.getD ay.toNat 0) * (bx - ax)) := by
    rw [← Int.mul_neg, Int.add_comm]; congr 1; omega
  rw [e1, e2, Int.neg_mul_neg, Int.neg_mul_neg]

/-- the roundings of the root of n -/
theorem rnd_facts (n : Nat) (hn : n ≤ 2592000000000000) : ∃ (d half more : Nat), rnd 0 n = d ∧ rnd 1 n = d + half ∧ rnd 2 n = d + more ∧ d ≤ 100000000 ∧ 4 * d * d ≤ n ∧ n < 4 * (d + 1) * (d + 1) ∧
    ((half = 1 ∧ (2 * d + 1) * (2 * d + 1) ≤ n) ∨ (half = 0 ∧ n < (2 * d + 1) * (2 * d + 1))) ∧ ((more = 1 ∧ 4 * d * d < n) ∨ (more = 0 ∧ 4 * d * d = n)) := by
  obtain ⟨h1, h2⟩ := rt_spec n (by omega)
  have hle := rt_le n 60000000 (by omega) (by omega)
  obtain ⟨d, hd⟩ : ∃ d, d = rt n / 2 := ⟨_, rfl⟩
  obtain ⟨S, hS⟩ : ∃ S, S = d * d := ⟨_, rfl⟩
  have e1 : (2 * d) * (2 * d) = 4 * S := by rw [hS]; exact Nat.mul_mul_mul_comm 2 d 2 d
  have e2 : (2 * d + 1) * (2 * d + 1) = 4 * S + 4 * d + 1 := by rw [Nat.add_mul, Nat.mul_add, e1]; omega
  have e3 : (2 * d + 1 + 1) * (2 * d + 1 + 1) = 4 * S + 8 * d + 4 := by rw [Nat.add_mul, Nat.mul_add, e2]; omega
  have e4 : 4 * d * d = 4 * S := by rw [hS, Nat.mul_assoc]
  have e5 : 4 * (d + 1) * (d + 1) = 4 * S + 8 * d + 4 := by
    have : (d + 1) * (d + 1) = S + 2 * d + 1 := by rw [Nat.add_mul, Nat.mul_add, ← hS]; omega
    rw [Nat.mul_assoc, this]; omega
  have h0 : rnd 0 n = d := by unfold rnd; rw [if_pos rfl, hd]
  have hn1 : rnd 1 n = (rt n + 1) / 2 := by unfold rnd; rw [if_neg (by omega), if_pos rfl]
  have hn2 : rnd 2 n = (rtUp n + 1) / 2 := by unfold rnd; rw [if_neg (by omega), if_neg (by omega)]
  have hr : rt n = 2 * d ∨ rt n = 2 * d + 1 := by omega
  rcases hr with hr | hr
  · rw [hr] at h1 h2
    rw [e1] at h1
    rw [e2] at h2
    by_cases he : 4 * S = n
    · refine ⟨d, 0, 0, h0, by rw [hn1, hr]; omega, by rw [hn2]; unfold rtUp; rw [if_neg (by rw [hr, e1]; omega), hr]; omega, by omega, by omega, by omega, .inr ⟨rfl, by omega⟩, .inr ⟨rfl, by omega⟩⟩
    · refine ⟨d, 0, 1, h0, by rw [hn1, hr]; omega, by rw [hn2]; unfold rtUp; rw [if_pos (by rw [hr, e1]; omega), hr]; omega, by omega, by omega, by omega, .inr ⟨rfl, by omega⟩, .inl ⟨rfl, by omega⟩⟩
  · rw [hr] at h1 h2
    rw [e2] at h1
    rw [e3] at h2
    refine ⟨d, 1, 1, h0, by rw [hn1, hr]; omega, by rw [hn2]; unfold rtUp; split <;> rw [hr] <;> omega, by omega, by omega, by omega, .inl ⟨rfl, by omega⟩, .inl ⟨rfl, by omega⟩⟩

/-- what the law says, for a map of the document's kind at places of it -/
def mapA (north cols : Int) (ea : Option Addr) (el ec : Nat) (lofts : Int) (sa : Option Addr) (sl sc : Nat) (wrong : Int) : Array Value := #[.int .i64 north, .int .i64 cols, .slice ea el ec, .int .i64 lofts, .slice sa sl sc, .int .i64 wrong]

section
variable (north cols lofts wrong px py qx qy : Int) (east : List Int) (svs : List Sv) (ea sa : Option Addr) (ec sc : Nat) (w : World)
abbrev RoundedGoal : Prop := Calls Try.prog 3 #[.agg #[.int .i64 north, .int .i64 cols, .slice ea east.length ec, .int .i64 lofts, .slice sa svs.length sc, .int .i64 wrong], .agg #[.int .i64 px, .int .i64 py], .agg #[.int .i64 qx, .int .i64 qy]] w fun e w' => e = .returned (.bool true) ∧ G w w'
variable (he : IntsAt w ea east) (hs : SvsAt w sa svs) (hl : east.length ≤ 9223372036854775807) (hl2 : svs.length ≤ 9223372036854775807)

theorem w3_spec (w : World) (c0 c1 c2 : Array Value) (t0 t1 t2 : TypeId) :
    G w (((w.alloc (.cells c0 t0)).alloc (.cells c1 t1)).alloc (.cells c2 t2)) ∧ Blk (((w.alloc (.cells c0 t0)).alloc (.cells c1 t1)).alloc (.cells c2 t2)) w.heap.size t0 c0 ∧ Blk (((w.alloc (.cells c0 t0)).alloc (.cells c1 t1)).alloc (.cells c2 t2)) (w.heap.size + 1) t1 c1 ∧ Blk (((w.alloc (.cells c0 t0)).alloc (.cells c1 t1)).alloc (.cells c2 t2)) (w.heap.size + 1 + 1) t2 c2 :=
  ⟨(((G.rf w).a _).a _).a _, ((Blk.new w t0 c0).alloc _).alloc _, (Blk.new1 w _ t1 c1).alloc _, Blk.new2 w _ _ t2 c2⟩

set_option maxHeartbeats 4000000 in
theorem rounded_long (h : 40 < east.length) (hl : east.length ≤ 9223372036854775807) : RoundedGoal north cols lofts wrong px py qx qy east svs ea sa ec sc w := by
  have h' : (40 : Int) < east.length := by omega
  obtain ⟨g0, b0, b1, b2⟩ := w3_spec w #[.int .i64 north, .int .i64 cols, .slice ea east.length ec, .int .i64 lofts, .slice sa svs.length sc, .int .i64 wrong] #[.int .i64 px, .int .i64 py] #[.int .i64 qx, .int .i64 qy] 25 27 27
  unfold RoundedGoal
  go_enter Try.func3, Try.ntmps3
  go_wp2_with (go_at_call 16; refine (works_any _).mono ?_; rintro e w1 ⟨rfl, hG1⟩)
  go_ret
  exact ⟨rfl, g0.t hG1⟩
set_option maxHeartbeats 4000000 in
theorem rounded_many (h : ¬ 40 < east.length) (h2 : 60 < svs.length) (hl2 : svs.length ≤ 9223372036854775807) : RoundedGoal north cols lofts wrong px py qx qy east svs ea sa ec sc w := by
  have h' : ¬ (40 : Int) < east.length := by omega
  have h2' : (60 : Int) < svs.length := by omega
  obtain ⟨g0, b0, b1, b2⟩ := w3_spec w #[.int .i64 north, .int .i64 cols, .slice ea east.length ec, .int .i64 lofts, .slice sa svs.length sc, .int .i64 wrong] #[.int .i64 px, .int .i64 py] #[.int .i64 qx, .int .i64 qy] 25 27 27
  unfold RoundedGoal
  go_enter Try.func3, Try.ntmps3
  go_wp2_with (go_at_call 16; refine (works_any _).mono ?_; rintro e w1 ⟨rfl, hG1⟩)
  go_ret
  exact ⟨rfl, g0.t hG1⟩
set_option maxHeartbeats 4000000 in
include he hs hl hl2 in
theorem rounded_check (h : ¬ 40 < east.length) (h2 : ¬ 60 < svs.length) (hk : (checkE north cols east lofts svs wrong == 0) = false) : RoundedGoal north cols lofts wrong px py qx qy east svs ea sa ec sc w := by
  have h' : ¬ (40 : Int) < east.length := by omega
  have h2' : ¬ (60 : Int) < svs.length := by omega
  obtain ⟨g0, b0, b1, b2⟩ := w3_spec w #[.int .i64 north, .int .i64 cols, .slice ea east.length ec, .int .i64 lofts, .slice sa svs.length sc, .int .i64 wrong] #[.int .i64 px, .int .i64 py] #[.int .i64 qx, .int .i64 qy] 25 27 27
  have hC := fun (W : World) (hW : G w W) => rCheck_any north cols lofts wrong east svs ea sa ec sc W (he.below hW) (hs.below hW) hl hl2
  have hk2 : (checkE north cols east lofts svs wrong != 0) = true := by simp [bne, hk]
  generalize checkE north cols east lofts svs wrong = E at *
  have HC := Lib.hid hC
  clear hC
  unfold RoundedGoal
  go_enter Try.func3, Try.ntmps3
  go_wp2_with (first | (go_at_call 16; refine (works_any _).mono ?_; rintro e w2 ⟨rfl, hG2⟩) | (go_at_call 14; refine (HC.out _ g0).mono ?_; rintro e w1 ⟨rfl, hG1⟩; have b0 := b0.keep hG1; have b1 := b1.keep hG1; have b2 := b2.keep hG1; have m0 := b0.cell 0; have m1 := b0.cell 1; have m2 := b0.cell 2; have m3 := b0.cell 3; have m4 := b0.cell 4; have m5 := b0.cell 5; have p0 := b1.cell 0; have p1 := b1.cell 1; have q0 := b2.cell 0; have q1 := b2.cell 1; have g0 := g0.t hG1; clear hG1))
  go_ret
  exact ⟨rfl, g0.t hG2⟩
set_option maxHeartbeats 4000000 in
include he hs hl hl2 in
theorem rounded_p (h : ¬ 40 < east.length) (h2 : ¬ 60 < svs.length) (hk : checkE north cols east lofts svs wrong = 0) (hp : isPlaceB cols east.length px py = false) : RoundedGoal north cols lofts wrong px py qx qy east svs ea sa ec sc w := by
  have h' : ¬ (40 : Int) < east.length := by omega
  have h2' : ¬ (60 : Int) < svs.length := by omega
  obtain ⟨g0, b0, b1, b2⟩ := w3_spec w #[.int .i64 north, .int .i64 cols, .slice ea east.length ec, .int .i64 lofts, .slice sa svs.length sc, .int .i64 wrong] #[.int .i64 px, .int .i64 py] #[.int .i64 qx, .int .i64 qy] 25 27 27
  have hC := fun (W : World) (hW : G w W) => rCheck_any north cols lofts wrong east svs ea sa ec sc W (he.below hW) (hs.below hW) hl hl2
  rw [hk] at hC
  have hvb := vm_bounds (checkE_ok hk)
  have hcb : 0 ≤ cols ∧ cols ≤ 9223372036854775807 := by omega
  clear hvb hk
  have HC := Lib.hid hC
  clear hC
  unfold RoundedGoal
  go_enter Try.func3, Try.ntmps3
  go_wp2_with (first | (go_at_call 16; refine (works_any _).mono ?_; rintro e w2 ⟨rfl, hG2⟩) | (go_at_call 14; refine (HC.out _ g0).mono ?_; rintro e w1 ⟨rfl, hG1⟩; have b0 := b0.keep hG1; have b1 := b1.keep hG1; have b2 := b2.keep hG1; have m0 := b0.cell 0; have m1 := b0.cell 1; have m2 := b0.cell 2; have m3 := b0.cell 3; have m4 := b0.cell 4; have m5 := b0.cell 5; have p0 := b1.cell 0; have p1 := b1.cell 1; have q0 := b2.cell 0; have q1 := b2.cell 1; have g0 := g0.t hG1; clear hG1) | (go_at_call 15; refine (rPlace_any _ _ _ _ _ _ _ _ _ _ _ hcb hl).mono ?_; rintro e w1 ⟨rfl, hG1⟩; have b0 := b0.keep hG1; have b1 := b1.keep hG1; have b2 := b2.keep hG1; have m0 := b0.cell 0; have m1 := b0.cell 1; have m2 := b0.cell 2; have m3 := b0.cell 3; have m4 := b0.cell 4; have m5 := b0.cell 5; have p0 := b1.cell 0; have p1 := b1.cell 1; have q0 := b2.cell 0; have q1 := b2.cell 1; have g0 := g0.t hG1; clear hG1))
  go_ret
  exact ⟨rfl, g0.t hG2⟩
set_option maxHeartbeats 4000000 in
include he hs hl hl2 in
theorem rounded_q (h : ¬ 40 < east.length) (h2 : ¬ 60 < svs.length) (hk : checkE north cols east lofts svs wrong = 0) (hp : isPlaceB cols east.length px py = true) (hq : isPlaceB cols east.length qx qy = false) : RoundedGoal north cols lofts wrong px py qx qy east svs ea sa ec sc w := by
  have h' : ¬ (40 : Int) < east.length := by omega
  have h2' : ¬ (60 : Int) < svs.length := by omega
  obtain ⟨g0, b0, b1, b2⟩ := w3_spec w #[.int .i64 north, .int .i64 cols, .slice ea east.length ec, .int .i64 lofts, .slice sa svs.length sc, .int .i64 wrong] #[.int .i64 px, .int .i64 py] #[.int .i64 qx, .int .i64 qy] 25 27 27
  have hC := fun (W : World) (hW : G w W) => rCheck_any north cols lofts wrong east svs ea sa ec sc W (he.below hW) (hs.below hW) hl hl2
  rw [hk] at hC
  have hvb := vm_bounds (checkE_ok hk)
  have hcb : 0 ≤ cols ∧ cols ≤ 9223372036854775807 := by omega
  clear hvb hk
  have HC := Lib.hid hC
  clear hC
  unfold RoundedGoal
  go_enter Try.func3, Try.ntmps3
  go_wp2_with (first | (go_at_call 16; refine (works_any _).mono ?_; rintro e w2 ⟨rfl, hG2⟩) | (go_at_call 14; refine (HC.out _ g0).mono ?_; rintro e w1 ⟨rfl, hG1⟩; have b0 := b0.keep hG1; have b1 := b1.keep hG1; have b2 := b2.keep hG1; have m0 := b0.cell 0; have m1 := b0.cell 1; have m2 := b0.cell 2; have m3 := b0.cell 3; have m4 := b0.cell 4; have m5 := b0.cell 5; have p0 := b1.cell 0; have p1 := b1.cell 1; have q0 := b2.cell 0; have q1 := b2.cell 1; have g0 := g0.t hG1; clear hG1) | (go_at_call 15; refine (rPlace_any _ _ _ _ _ _ _ _ _ _ _ hcb hl).mono ?_; rintro e w1 ⟨rfl, hG1⟩; have b0 := b0.keep hG1; have b1 := b1.keep hG1; have b2 := b2.keep hG1; have m0 := b0.cell 0; have m1 := b0.cell 1; have m2 := b0.cell 2; have m3 := b0.cell 3; have m4 := b0.cell 4; have m5 := b0.cell 5; have p0 := b1.cell 0; have p1 := b1.cell 1; have q0 := b2.cell 0; have q1 := b2.cell 1; have g0 := g0.t hG1; clear hG1))
  go_ret
  exact ⟨rfl, g0.t hG2⟩
end
end Go.Proofs.Ytpjfdfddcnocpaa
