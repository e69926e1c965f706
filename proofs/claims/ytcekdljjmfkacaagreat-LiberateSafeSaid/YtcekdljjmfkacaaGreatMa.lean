import Derived.Test.YtcekdljjmfkacaaGreatKa
import Derived.Test.YtcekdljjmfkacaaGreatLx
set_option linter.unusedSimpArgs false
set_option linter.unusedVariables false
namespace Go.Proofs.YtcekdljjmfkacaaGreat
open Go.RowKit
attribute [local go_sem] Oper.semAt_some

theorem lIn_any (n lo hi : Int) (w : World) : Calls Tryz.prog 70 #[.int .i64 n, .agg #[.int .i64 lo, .int .i64 hi]] w fun e w' =>
    e = .returned (.bool (isInB n lo hi)) ∧ G w w' := by
  by_cases h1 : lo ≤ n
  · go_enter Tryz.func70, Tryz.ntmps70
    go_wp2
    go_ret
    exact ⟨by simp [isInB, h1], (G.rf _).a _⟩
  · go_enter Tryz.func70, Tryz.ntmps70
    go_wp2
    go_ret
    exact ⟨by unfold isInB; rw [decide_eq_false (by omega)]; rfl, (G.rf _).a _⟩
theorem lUpTo_any (n last : Int) (w : World) : Calls Tryz.prog 50 #[.int .i64 n, .int .i64 last] w fun e w' => e = .returned (.bool (isInB n 0 last)) ∧ G w w' := by
  go_enter Tryz.func50, Tryz.ntmps50
  go_wp2_with (go_at_call 70; refine (lIn_any _ _ _ _).mono ?_; rintro e w' ⟨rfl, hG⟩)
  go_ret
  exact ⟨rfl, hG⟩
theorem lMinute_any (n : Int) (w : World) : Calls Tryz.prog 43 #[.int .i64 n] w fun e w' => e = .returned (.bool (isInB n 0 9999)) ∧ G w w' := by
  go_enter Tryz.func43, Tryz.ntmps43
  go_wp2_with (go_at_call 50; refine (lUpTo_any _ _ _).mono ?_; rintro e w' ⟨rfl, hG⟩)
  go_ret
  exact ⟨rfl, hG⟩
set_option maxHeartbeats 1000000 in
theorem lPlace_any (north cols lofts wrong x y : Int) (ea : Option Addr) (el ec : Nat) (s : Value) (w : World) (hc : 0 ≤ cols ∧ cols ≤ 9223372036854775807) (hel : el ≤ 9223372036854775807) :
    Calls Tryz.prog 49 #[.agg #[.int .i64 north, .int .i64 cols, .slice ea el ec, .int .i64 lofts, s, .int .i64 wrong], .agg #[.int .i64 x, .int .i64 y]] w fun e w' =>
    e = .returned (.bool (isPlaceB cols el x y)) ∧ G w w' := by
  have x1 : IntKind.i64.wrap (cols - 1) = cols - 1 := IntWalk.i64_in _ (by omega)
  have x2 : IntKind.i64.wrap ((el : Int) - 1) = el - 1 := IntWalk.i64_in _ (by omega)
  have g0 : G w ((w.alloc (.cells #[.int .i64 north, .int .i64 cols, .slice ea el ec, .int .i64 lofts, s, .int .i64 wrong] 25)).alloc (.cells #[.int .i64 x, .int .i64 y] 27)) := ((G.rf _).a _).a _
  have b0 : Blk ((w.alloc (.cells #[.int .i64 north, .int .i64 cols, .slice ea el ec, .int .i64 lofts, s, .int .i64 wrong] 25)).alloc (.cells #[.int .i64 x, .int .i64 y] 27)) w.heap.size 25 _ := (Blk.new w _ _).alloc _
  have b1 : Blk ((w.alloc (.cells #[.int .i64 north, .int .i64 cols, .slice ea el ec, .int .i64 lofts, s, .int .i64 wrong] 25)).alloc (.cells #[.int .i64 x, .int .i64 y] 27)) (w.heap.size + 1) 27 _ := Blk.new1 w _ _ _
  have HU := Lib.hid (fun (W : World) => lUpTo_any x (cols - 1) W)
  have HV := Lib.hid (fun (W : World) => lUpTo_any y ((el : Int) - 1) W)
  have he : isPlaceB cols el x y = (isInB x 0 (cols - 1) && isInB y 0 ((el : Int) - 1)) := rfl
  rw [he]
  clear he
  generalize isInB x 0 (cols - 1) = A at *
  generalize isInB y 0 ((el : Int) - 1) = B at *
  cases A
  all_goals
    go_enter Tryz.func49, Tryz.ntmps49
    go_wp2_with (first | (go_at_call 50; refine (HU.out _).mono ?_; rintro e w1 ⟨rfl, hG1⟩; clear HU; replace b0 := b0.keep hG1; replace b1 := b1.keep hG1; replace g0 := g0.t hG1; clear hG1; have m2 := b0.cell 2; have p1 := b1.cell 1; have l0 := b0.lt; have l1 := b1.lt) | (go_at_call 50; refine (HV.out _).mono ?_; rintro e w2 ⟨rfl, hG1⟩; replace g0 := g0.t hG1; clear hG1))
    go_ret
    exact ⟨rfl, g0⟩
def spanB (lo hi a b : Int) : Bool := decide (a ≤ lo) && (decide (lo ≤ hi) && decide (hi ≤ b))
theorem lSpan_any (lo hi a b : Int) (w : World) : Calls Tryz.prog 69 #[.agg #[.int .i64 lo, .int .i64 hi], .agg #[.int .i64 a, .int .i64 b]] w fun e w' => e = .returned (.bool (spanB lo hi a b)) ∧ G w w' := by
  by_cases h1 : a ≤ lo
  · by_cases h2 : lo ≤ hi
    · have HV : Hid (spanB lo hi a b = decide (hi ≤ b)) := by unfold spanB Hid; simp [h1, h2]
      go_enter Tryz.func69, Tryz.ntmps69
      go_wp2
      go_ret
      exact ⟨by rw [HV.out]; rfl, ((G.rf _).a _).a _⟩
    · have HV : Hid (spanB lo hi a b = false) := by unfold spanB Hid; simp [h2]
      go_enter Tryz.func69, Tryz.ntmps69
      go_wp2
      go_ret
      exact ⟨by rw [HV.out]; rfl, ((G.rf _).a _).a _⟩
  · have HV : Hid (spanB lo hi a b = false) := by unfold spanB Hid; simp [h1]
    go_enter Tryz.func69, Tryz.ntmps69
    go_wp2
    go_ret
    exact ⟨by rw [HV.out]; rfl, ((G.rf _).a _).a _⟩
theorem wrap_div (a b : Nat) (ha : a ≤ 9000000000000000000) : wrap64 ((a : Int) / b) = ((a / b : Nat) : Int) := by
  have h : a / b ≤ a := Nat.div_le_self _ _
  have e : (a : Int) / b = ((a / b : Nat) : Int) := by simp
  rw [e]
  generalize a / b = q at *
  exact IntWalk.wrap64_in _ (by omega)
theorem lRoundedUp_any (a b : Nat) (w : World) (ha : a ≤ 1000000000000) (hb : 1 ≤ b ∧ b ≤ 3000000) : Calls Tryz.prog 79 #[.int .i64 a, .int .i64 b] w fun e w' => e = .returned (.int .i64 ((a + b - 1) / b : Nat)) ∧ G w w' := by
  have x1 : IntKind.i64.wrap ((a : Int) + b) = a + b := IntWalk.i64_in _ (by omega)
  have x2 : IntKind.i64.wrap ((a : Int) + b - 1) = ((a + b - 1 : Nat) : Int) := by rw [IntWalk.i64_in _ (by omega)]; omega
  have x3 := wrap_div (a + b - 1) b (by omega)
  have hb0 : ((b : Int) == 0) = false := by simp; omega
  go_enter Tryz.func79, Tryz.ntmps79
  go_wp2
  go_ret
  exact ⟨by show Ending.returned (.int .i64 (wrap64 (((a + b - 1 : Nat) : Int) / b))) = _; rw [x3], G.rf _⟩
end Go.Proofs.YtcekdljjmfkacaaGreat
set_option linter.unusedSimpArgs false
set_option linter.unusedVariables false
namespace Go.Proofs.YtcekdljjmfkacaaGreat
open Go.RowKit
attribute [local go_sem] Oper.semAt_some

theorem wrap_tdiv (a b : Nat) (ha : a ≤ 9000000000000000000) : wrap64 ((a : Int).tdiv b) = ((a / b : Nat) : Int) := by
  have h : a / b ≤ a := Nat.div_le_self _ _
  have e : (a : Int).tdiv b = ((a / b : Nat) : Int) := rfl
  rw [e]
  generalize a / b = q at *
  exact IntWalk.wrap64_in _ (by omega)
/-- the number after k of n steps -/
def btw (f t k n : Nat) : Nat := (2 * (f * (n - k) + t * k) + n) / (2 * n)
set_option maxHeartbeats 1000000 in
theorem lBetween_any (f t k n : Nat) (w : World) (hf : f ≤ 100) (ht : t ≤ 100) (hk : k ≤ n) (hn : 1 ≤ n) (hn2 : n ≤ 100) : Calls Tryz.prog 75 #[.int .i64 f, .int .i64 t, .int .i64 k, .int .i64 n] w fun e w' => e = .returned (.int .i64 (btw f t k n : Nat)) ∧ G w w' := by
  have m1 : f * (n - k) ≤ 100 * 100 := Nat.mul_le_mul hf (by omega)
  have m2 : t * k ≤ 100 * 100 := Nat.mul_le_mul ht (by omega)
  obtain ⟨a, ha⟩ : ∃ a, a = f * (n - k) := ⟨_, rfl⟩
  obtain ⟨b, hb⟩ : ∃ b, b = t * k := ⟨_, rfl⟩
  have x0 : IntKind.i64.wrap ((n : Int) - k) = ((n - k : Nat) : Int) := by rw [IntWalk.i64_in _ (by omega)]; omega
  have x1 : IntKind.i64.wrap ((f : Int) * ((n - k : Nat) : Int)) = (a : Nat) := by rw [← Int.natCast_mul, ← ha]; exact IntWalk.i64_in _ (by omega)
  have x2 : IntKind.i64.wrap ((t : Int) * k) = (b : Nat) := by rw [← Int.natCast_mul, ← hb]; exact IntWalk.i64_in _ (by omega)
  have x3 : IntKind.i64.wrap ((a : Int) + b) = (a : Int) + b := IntWalk.i64_in _ (by omega)
  have x4 : IntKind.i64.wrap (2 * ((a : Int) + b)) = 2 * ((a : Int) + b) := IntWalk.i64_in _ (by omega)
  have x5 : IntKind.i64.wrap (2 * ((a : Int) + b) + n) = 2 * ((a : Int) + b) + n := IntWalk.i64_in _ (by omega)
  have x6 : IntKind.i64.wrap (2 * (n : Int)) = 2 * (n : Int) := IntWalk.i64_in _ (by omega)
  have x7 : wrap64 ((2 * ((a : Int) + b) + n).tdiv (2 * n)) = (btw f t k n : Nat) := by
    have e1 : 2 * ((a : Int) + b) + n = ((2 * (a + b) + n : Nat) : Int) := by omega
    have e2 : 2 * (n : Int) = ((2 * n : Nat) : Int) := by omega
    rw [e1, e2, wrap_tdiv _ _ (by omega)]
    unfold btw
    rw [ha, hb]
  have hb0 : (2 * (n : Int) == 0) = false := by simp; omega
  have HX := Lib.hid x7
  clear x7 ha hb m1 m2
  go_enter Tryz.func75, Tryz.ntmps75
  go_wp2
  go_ret
  exact ⟨by rw [← HX.out]; rfl, G.rf _⟩
end Go.Proofs.YtcekdljjmfkacaaGreat
set_option linter.unusedSimpArgs false
set_option linter.unusedVariables false
namespace Go.Proofs.YtcekdljjmfkacaaGreat
open Go.RowKit
attribute [local go_sem] Oper.semAt_some

def dst (a b : Nat) : Nat := (a - b) + (b - a)
def stepsN (fx fy tx ty : Nat) : Nat := max (dst fx tx) (dst fy ty)
/-- the places of a way -/
def pbK (fx fy tx ty n k : Nat) : List (Nat × Nat) := (fx, fy) :: (List.range k).map fun j => (btw fx tx (j + 1) n, btw fy ty (j + 1) n)
theorem pbK_succ (fx fy tx ty n k : Nat) : pbK fx fy tx ty n (k + 1) = pbK fx fy tx ty n k ++ [(btw fx tx (k + 1) n, btw fy ty (k + 1) n)] := by
  unfold pbK
  rw [List.range_succ, List.map_append]
  rfl
theorem pbK_len (fx fy tx ty n k : Nat) : (pbK fx fy tx ty n k).length = k + 1 := by simp [pbK]
theorem own_pt {W : World} {g : Nat} {x y : Value} (b : Blk W g 27 #[x, y]) : W.ownsRow g 27 2 (.slice (some ⟨g, 0, none⟩) 1 1) 1 [x, y] :=
  ⟨by simp, .inr ⟨g, 1, #[x, y], rfl, Nat.le_refl _, b, Nat.le_refl _, by decide, by simp, by simp⟩⟩
theorem max4 (a b c d n : Int) (w : World) (h1 : a ≤ n) (h2 : b ≤ n) (h3 : c ≤ n) (h4 : d ≤ n) (h : n = a ∨ n = b ∨ n = c ∨ n = d) : (Builtin.max_ #[3, 3, 3, 3] 3 #[.int .i64 a, .int .i64 b, .int .i64 c, .int .i64 d]).run Tryz.prog w = .ok (.int .i64 n) w := by
  simp only [Builtin.max_, List.foldlM]
  simp [go_sem, Builtin.max2]
  repeat' split
  all_goals omega
theorem steps_max (fx fy tx ty : Nat) : (tx : Int) - fx ≤ stepsN fx fy tx ty ∧ -((tx : Int) - fx) ≤ stepsN fx fy tx ty ∧ (ty : Int) - fy ≤ stepsN fx fy tx ty ∧ -((ty : Int) - fy) ≤ stepsN fx fy tx ty ∧ ((stepsN fx fy tx ty : Int) = (tx : Int) - fx ∨ (stepsN fx fy tx ty : Int) = -((tx : Int) - fx) ∨ (stepsN fx fy tx ty : Int) = (ty : Int) - fy ∨ (stepsN fx fy tx ty : Int) = -((ty : Int) - fy)) := by
  unfold stepsN dst
  omega
def PbPost (w : World) (L : List (Nat × Nat)) (e : Ending) (w' : World) : Prop := ∃ v, e = .returned v ∧ w'.ownsRow w.heap.size 27 2 v L.length (ptsV L) ∧ G w w'
set_option maxRecDepth 100000 in
set_option maxHeartbeats 4000000 in
theorem lPlacesBetween_any (fx fy tx ty : Nat) (w : World) (h1 : fx ≤ 99) (h2 : fy ≤ 99) (h3 : tx ≤ 99) (h4 : ty ≤ 99) :
    Calls Tryz.prog 40 #[.agg #[.int .i64 fx, .int .i64 fy], .agg #[.int .i64 tx, .int .i64 ty]] w (PbPost w (pbK fx fy tx ty (stepsN fx fy tx ty) (stepsN fx fy tx ty))) := by
  have g0 : G w ((w.alloc (.cells #[.int .i64 fx, .int .i64 fy] 27)).alloc (.cells #[.int .i64 tx, .int .i64 ty] 27)) := ((G.rf _).a _).a _
  have b0 : Blk ((w.alloc (.cells #[.int .i64 fx, .int .i64 fy] 27)).alloc (.cells #[.int .i64 tx, .int .i64 ty] 27)) w.heap.size 27 #[.int .i64 fx, .int .i64 fy] := (Blk.new w _ _).alloc _
  have b1 : Blk ((w.alloc (.cells #[.int .i64 fx, .int .i64 fy] 27)).alloc (.cells #[.int .i64 tx, .int .i64 ty] 27)) (w.heap.size + 1) 27 #[.int .i64 tx, .int .i64 ty] := Blk.new1 w _ _ _
  have x1 : IntKind.i64.wrap ((tx : Int) - fx) = tx - fx := IntWalk.i64_in _ (by omega)
  have x2 : IntKind.i64.wrap ((ty : Int) - fy) = ty - fy := IntWalk.i64_in _ (by omega)
  have x3 : IntKind.i64.wrap (-((tx : Int) - fx)) = -((tx : Int) - fx) := IntWalk.i64_in _ (by omega)
  have x4 : IntKind.i64.wrap (-((ty : Int) - fy)) = -((ty : Int) - fy) := IntWalk.i64_in _ (by omega)
  obtain ⟨s1, s2, s3, s4, s5⟩ := steps_max fx fy tx ty
  have HM := Lib.hid (fun (W : World) => max4 _ _ _ _ _ W s1 s2 s3 s4 s5)
  have hn99 : stepsN fx fy tx ty ≤ 99 := by unfold stepsN dst; omega
  have HP : Hid (∀ w' v, w'.ownsRow w.heap.size 27 2 v (pbK fx fy tx ty (stepsN fx fy tx ty) (stepsN fx fy tx ty)).length (ptsV (pbK fx fy tx ty (stepsN fx fy tx ty) (stepsN fx fy tx ty))) → G w w' → PbPost w (pbK fx fy tx ty (stepsN fx fy tx ty) (stepsN fx fy tx ty)) (.returned v) w') := fun w' v a b => ⟨v, rfl, a, b⟩
  generalize PbPost w (pbK fx fy tx ty (stepsN fx fy tx ty) (stepsN fx fy tx ty)) = PP at *
  generalize stepsN fx fy tx ty = n at *
  clear s1 s2 s3 s4 s5
  go_enter Tryz.func40, Tryz.ntmps40
  go_wp2
  have c0 := b0.gw 0 rfl
  have c1 := b0.gw 1 rfl
  have d0 := b1.gw 0 rfl
  have d1 := b1.gw 1 rfl
  refine wp_region_quiet_G (by kernel_rfl) (by kernel_rfl) ?_
  repeat (quiet_step (fail))
  refine wpQuiet_nil ?_
  intro _ hw'
  obtain ⟨y, rfl⟩ := hw'
  clear c0 c1 d0 d1
  replace g0 := g0.t y.g
  replace b0 := b0.keep y.g
  replace b1 := b1.keep y.g
  generalize y.w = w1 at *
  clear y
  have c0 := b0.cell 0
  have c1 := b0.cell 1
  have l0 := b0.lt
  have HM1 := HM.out w1
  clear HM
  go_wp2
  clear HM1
  have b2 : Blk (w1.alloc (.cells #[.int .i64 (fx : Nat), .int .i64 (fy : Nat)] 27)) w1.heap.size 27 #[.int .i64 (fx : Nat), .int .i64 (fy : Nat)] := Blk.new _ _ _
  have hG1 : G w1 (w1.alloc (.cells #[.int .i64 (fx : Nat), .int .i64 (fy : Nat)] 27)) := (G.rf _).a _
  have hw1 := g0.size
  obtain ⟨n1, hn1⟩ : ∃ n1, n1 = w1.heap.size := ⟨_, rfl⟩
  rw [← hn1] at b2 hw1 ⊢
  clear c0 c1 l0
  generalize w1.alloc (.cells #[.int .i64 (fx : Nat), .int .i64 (fy : Nat)] 27) = W1 at *
  have hown : W1.ownsRow n1 27 2 (.slice (some ⟨n1, 0, none⟩) 1 1) (pbK fx fy tx ty n 0).length (ptsV (pbK fx fy tx ty n 0)) := own_pt b2
  have HN1 := Lib.hid hn1
  clear hn1
  have HOW := Lib.hid hown
  clear hown b2
  obtain ⟨i0, hi0, hz0, hz1, hz2⟩ := info_parts info27
  go_loopw [8, 30] (fun v i wr => ∃ k : Nat, k ≤ n ∧ i = .int .i64 k ∧ wr.ownsRow n1 27 2 v (pbK fx fy tx ty n k).length (ptsV (pbK fx fy tx ty n k)) ∧ G w1 wr) (fun _ i _ => n - (intOf i).toNat)
  case atStart => exact ⟨0, Nat.zero_le _, rfl, HOW.out, hG1⟩
  case round =>
    obtain ⟨k, hk, rfl, ho, hGr⟩ := hrel
    obtain ⟨wo, rfl⟩ : ∃ wo, wo = wr := ⟨_, rfl⟩
    have HO := Lib.hid ho
    clear ho
    by_cases hlt : k < n
    · have hki : (k : Int) < n := by omega
      have hsu := pbK_succ fx fy tx ty n k
      have hlk := pbK_len fx fy tx ty n k
      have HSU := Lib.hid hsu
      have HLK := Lib.hid hlk
      clear hsu hlk
      have HB1 := Lib.hid (fun (W : World) => lBetween_any fx tx (k + 1) n W (by omega) (by omega) (by omega) (by omega) (by omega))
      have HB2 := Lib.hid (fun (W : World) => lBetween_any fy ty (k + 1) n W (by omega) (by omega) (by omega) (by omega) (by omega))
      have x5 : IntKind.i64.wrap ((k : Int) + 1) = ((k + 1 : Nat) : Int) := by rw [IntWalk.i64_in _ (by omega)]; rfl
      have gw := g0.t hGr
      have q0 := b0.keep hGr
      have q1 := b1.keep hGr
      have hSk : ∀ W', G wo W' → W'.cell? ⟨w.heap.size, 0, none⟩ = some (.int .i64 (fx : Nat)) ∧ W'.cell? ⟨w.heap.size, 1, none⟩ = some (.int .i64 (fy : Nat)) ∧ W'.cell? ⟨w.heap.size + 1, 0, none⟩ = some (.int .i64 (tx : Nat)) ∧ W'.cell? ⟨w.heap.size + 1, 1, none⟩ = some (.int .i64 (ty : Nat)) := fun W' hW => ⟨(q0.keep hW).cell 0, (q0.keep hW).cell 1, (q1.keep hW).cell 0, (q1.keep hW).cell 1⟩
      go_wp2
      refine wp_region_Y (S := fun W' => W'.cell? ⟨w.heap.size, 0, none⟩ = some (.int .i64 (fx : Nat)) ∧ W'.cell? ⟨w.heap.size, 1, none⟩ = some (.int .i64 (fy : Nat)) ∧ W'.cell? ⟨w.heap.size + 1, 0, none⟩ = some (.int .i64 (tx : Nat)) ∧ W'.cell? ⟨w.heap.size + 1, 1, none⟩ = some (.int .i64 (ty : Nat))) 19 21 rfl (by kernel_rfl) (hSk _ (G.rf _).d) (fun hS => ?_)
      refine wpAnyY_take (i := 0) (v := ?_) rfl (by kernel_rfl) (by kernel_rfl) (by kernel_rfl) (by kernel_rfl) (fun _ _ _ h => h) (Or.inl ⟨by kernel_rfl, ?_⟩) hS ?_
      rotate_left
      · intro w' hSw; go_simp; with_reducible rfl
      try simp only [Act.put, List.setIfInBounds_toArray, List.set_cons_zero, List.set_cons_succ]
      refine wpAnyY_take (i := 1) (v := ?_) rfl (by kernel_rfl) (by kernel_rfl) (by kernel_rfl) (by kernel_rfl) (fun _ _ _ h => h) (Or.inl ⟨by kernel_rfl, ?_⟩) hS ?_
      rotate_left
      · intro w' hSw; go_simp; with_reducible rfl
      try simp only [Act.put, List.setIfInBounds_toArray, List.set_cons_zero, List.set_cons_succ]
      refine wpAnyY_take (i := 2) (v := ?_) rfl (by kernel_rfl) (by kernel_rfl) (by kernel_rfl) (by kernel_rfl) (fun _ _ _ h => h) (Or.inl ⟨by kernel_rfl, ?_⟩) hS ?_
      rotate_left
      · intro w' hSw; obtain ⟨y0, y1, y2, y3⟩ := hSw; go_simp; with_reducible rfl
      try simp only [Act.put, List.setIfInBounds_toArray, List.set_cons_zero, List.set_cons_succ]
      refine wpAnyY_take (i := 3) (v := ?_) rfl (by kernel_rfl) (by kernel_rfl) (by kernel_rfl) (by kernel_rfl) (fun _ _ _ h => h) (Or.inl ⟨by kernel_rfl, ?_⟩) hS ?_
      rotate_left
      · intro w' hSw; go_simp; with_reducible rfl
      try simp only [Act.put, List.setIfInBounds_toArray, List.set_cons_zero, List.set_cons_succ]
      refine wpAnyY_take (i := 4) (v := ?_) rfl (by kernel_rfl) (by kernel_rfl) (by kernel_rfl) (by kernel_rfl) (fun _ _ _ h => h) (Or.inl ⟨by kernel_rfl, ?_⟩) hS ?_
      rotate_left
      · intro w' hSw; obtain ⟨y0, y1, y2, y3⟩ := hSw; go_simp; with_reducible rfl
      try simp only [Act.put, List.setIfInBounds_toArray, List.set_cons_zero, List.set_cons_succ]
      refine wpAnyY_take (i := 5) (v := ?_) rfl (by kernel_rfl) (by kernel_rfl) (by kernel_rfl) (by kernel_rfl) (fun _ _ _ h => h) (Or.inl ⟨by kernel_rfl, ?_⟩) hS ?_
      rotate_left
      · intro w' hSw; go_simp; with_reducible rfl
      try simp only [Act.put, List.setIfInBounds_toArray, List.set_cons_zero, List.set_cons_succ]
      refine wpAnyY_take (i := 6) (v := ?_) rfl (by kernel_rfl) (by kernel_rfl) (by kernel_rfl) (by kernel_rfl) (fun _ _ _ h => h) (Or.inl ⟨by kernel_rfl, ?_⟩) hS ?_
      rotate_left
      · intro w' hSw; go_simp; with_reducible rfl
      try simp only [Act.put, List.setIfInBounds_toArray, List.set_cons_zero, List.set_cons_succ]
      refine wpAnyY_take (i := 7) (v := ?_) rfl (by kernel_rfl) (by kernel_rfl) (by kernel_rfl) (by kernel_rfl) (fun _ _ _ h => h) (Or.inl ⟨by kernel_rfl, ?_⟩) hS ?_
      rotate_left
      · intro w' hSw; go_simp; with_reducible rfl
      try simp only [Act.put, List.setIfInBounds_toArray, List.set_cons_zero, List.set_cons_succ]
      refine wpAnyY_take (i := 9) (v := ?_) rfl (by kernel_rfl) (by kernel_rfl) (by kernel_rfl) (by kernel_rfl) (fun _ _ _ h => h) (Or.inl ⟨by kernel_rfl, ?_⟩) hS ?_
      rotate_left
      · intro w' hSw; go_simp; with_reducible rfl
      try simp only [Act.put, List.setIfInBounds_toArray, List.set_cons_zero, List.set_cons_succ]
      refine wpAnyY_take (i := 10) (v := ?_) rfl (by kernel_rfl) (by kernel_rfl) (by kernel_rfl) (by kernel_rfl) (fun _ _ _ h => h) (Or.inl ⟨by kernel_rfl, ?_⟩) hS ?_
      rotate_left
      · intro w' hSw; obtain ⟨y0, y1, y2, y3⟩ := hSw; go_simp; with_reducible rfl
      try simp only [Act.put, List.setIfInBounds_toArray, List.set_cons_zero, List.set_cons_succ]
      refine wpAnyY_take (i := 11) (v := ?_) rfl (by kernel_rfl) (by kernel_rfl) (by kernel_rfl) (by kernel_rfl) (fun _ _ _ h => h) (Or.inl ⟨by kernel_rfl, ?_⟩) hS ?_
      rotate_left
      · intro w' hSw; go_simp; with_reducible rfl
      try simp only [Act.put, List.setIfInBounds_toArray, List.set_cons_zero, List.set_cons_succ]
      refine wpAnyY_take (i := 12) (v := ?_) rfl (by kernel_rfl) (by kernel_rfl) (by kernel_rfl) (by kernel_rfl) (fun _ _ _ h => h) (Or.inl ⟨by kernel_rfl, ?_⟩) hS ?_
      rotate_left
      · intro w' hSw; obtain ⟨y0, y1, y2, y3⟩ := hSw; go_simp; with_reducible rfl
      try simp only [Act.put, List.setIfInBounds_toArray, List.set_cons_zero, List.set_cons_succ]
      refine wpAnyY_take (i := 13) (v := ?_) rfl (by kernel_rfl) (by kernel_rfl) (by kernel_rfl) (by kernel_rfl) (fun _ _ _ h => h) (Or.inl ⟨by kernel_rfl, ?_⟩) hS ?_
      rotate_left
      · intro w' hSw; go_simp; with_reducible rfl
      try simp only [Act.put, List.setIfInBounds_toArray, List.set_cons_zero, List.set_cons_succ]
      refine wpAnyY_take (i := 14) (v := ?_) rfl (by kernel_rfl) (by kernel_rfl) (by kernel_rfl) (by kernel_rfl) (fun _ _ _ h => h) (Or.inl ⟨by kernel_rfl, ?_⟩) hS ?_
      rotate_left
      · intro w' hSw; go_simp; with_reducible rfl
      try simp only [Act.put, List.setIfInBounds_toArray, List.set_cons_zero, List.set_cons_succ]
      refine wpAnyY_take (i := 15) (v := ?_) rfl (by kernel_rfl) (by kernel_rfl) (by kernel_rfl) (by kernel_rfl) (fun _ _ _ h => h) (Or.inl ⟨by kernel_rfl, ?_⟩) hS ?_
      rotate_left
      · intro w' hSw; go_simp; with_reducible rfl
      try simp only [Act.put, List.setIfInBounds_toArray, List.set_cons_zero, List.set_cons_succ]
      refine wpAnyY_oneSW (i := 8) (by kernel_rfl) rfl (by kernel_rfl) (fun K8 hK8 => ?_)
      go_simp
      refine (HB1.out _).mono ?_
      rintro e w3 ⟨rfl, hG3⟩
      have g3 : G wo w3 := (G.rf _).d.t hG3
      refine hK8.out _ _ (hSk _ g3) (fun hS => ?_)
      try simp only [Act.put, List.setIfInBounds_toArray, List.set_cons_zero, List.set_cons_succ]
      refine wpAnyY_oneSW (i := 16) (by kernel_rfl) rfl (by kernel_rfl) (fun K16 hK16 => ?_)
      go_simp
      refine (HB2.out _).mono ?_
      rintro e w4 ⟨rfl, hG4⟩
      have g4 : G wo w4 := g3.t hG4
      refine hK16.out _ _ (hSk _ g4) (fun hS => ?_)
      try simp only [Act.put, List.setIfInBounds_toArray, List.set_cons_zero, List.set_cons_succ]
      refine wpAnyY_take (i := 17) (v := ?_) rfl (by kernel_rfl) (by kernel_rfl) (by kernel_rfl) (by kernel_rfl) (fun _ _ _ h => h) (Or.inl ⟨by kernel_rfl, ?_⟩) hS ?_
      rotate_left
      · intro w' hSw; go_simp; with_reducible rfl
      try simp only [Act.put, List.setIfInBounds_toArray, List.set_cons_zero, List.set_cons_succ]
      refine wpAnyY_oneSW (i := 18) (by kernel_rfl) rfl (by kernel_rfl) (fun K18 hK18 => ?_)
      go_simp
      refine hK18.out _ _ (hSk _ (g4.a _)) (fun hS => ?_)
      try simp only [Act.put, List.setIfInBounds_toArray, List.set_cons_zero, List.set_cons_succ]
      have g5 : G wo (w4.alloc (.cells #[.int .i64 (btw fx tx (k + 1) n : Nat), .int .i64 (btw fy ty (k + 1) n : Nat)] 27)) := g4.a _
      refine wpAnyY_oneW (i := 19) (by kernel_rfl) rfl (by kernel_rfl) (by kernel_rfl) (fun K19 hK19 => ?_)
      refine wp_append_own _ _ _ 28 rfl n1 27 i0 _ 2 16 Tryz.underlying28 hi0 hz0 hz1 hz2 rfl (by decide) _ _ _ rfl (own_G HO.out g5) ⟨w4.heap.size, 0, none⟩ 1 1 [.int .i64 (btw fx tx (k + 1) n : Nat), .int .i64 (btw fy ty (k + 1) n : Nat)] rfl rfl (cells_two (Blk.new _ _ _)) (by simp [Value.oneCell']) (by rw [HLK.out]; unfold maxLen; omega) (by rw [HLK.out]; omega) (by rw [HN1.out]; exact (hGr.t g5).size) ?_
      intro v9 w9 hown9 hg9 _
      have gz : G w1 w9 := grow_own (hGr.t g5) (own_G HO.out g5) (Nat.le_of_eq HN1.out.symm) hg9
      have HN := Lib.hid hown9
      clear hown9 hg9 hS
      refine hK19.out _ _ ?_
      try simp only [Act.put, List.setIfInBounds_toArray, List.set_cons_zero, List.set_cons_succ]
      refine wpAnyY_oneW (i := 20) (by kernel_rfl) rfl (by kernel_rfl) (by kernel_rfl) (fun K20 hK20 => ?_)
      go_simp
      refine hK20.out _ _ ?_
      try simp only [Act.put, List.setIfInBounds_toArray, List.set_cons_zero, List.set_cons_succ]
      refine wpAnyY_done (by kernel_rfl) ?_ _
      clear hK8 hK16 hK18 hK19 hK20 hSk
      go_wp2
      go_roundw
      case rel => exact ⟨k + 1, by omega, by go_num, by rw [HSU.out, ptsV_snoc, List.length_append]; exact HN.out, gz⟩
      case measure => simp [intOf]; omega
    · have hki : ¬ (k : Int) < n := by omega
      obtain rfl : k = n := by omega
      have HF := Lib.hid (HP.out wo _ (own_weaken HO.out hw1) (g0.t hGr))
      go_wp2
      exact HF.out
end Go.Proofs.YtcekdljjmfkacaaGreat
set_option linter.unusedSimpArgs false
set_option linter.unusedVariables false
namespace Go.Proofs.YtcekdljjmfkacaaGreat
open Go.RowKit
attribute [local go_sem] Oper.semAt_some

theorem lWx_any (a b : Int) (w : World) : Calls Tryz.prog 73 #[.agg #[.int .i64 a, .int .i64 b]] w fun e w' => e = .returned (.bool (!spanB a b 0 999)) ∧ G w w' := by
  have g0 : G w (w.alloc (.cells #[.int .i64 a, .int .i64 b] 30)) := (G.rf _).a _
  go_enter Tryz.func73, Tryz.ntmps73
  go_wp2_with (go_at_call 69; refine (lSpan_any _ _ _ _ _).mono ?_; rintro e w' ⟨rfl, hG⟩)
  go_ret
  exact ⟨rfl, g0.t hG⟩
set_option maxHeartbeats 2000000 in
theorem IdxSpan_none (C : FuncId) (eg : ∀ args w, (callFunc C args).run Tryz.prog w = .ok (.enter C args) w) (lb : Array Value) (W : World) (a : Option Addr) (cap n : Nat) (c : Nat → Nat → Int) (hn : n ≤ 1000)
    (ha : n = 0 ∨ ∃ g off, a = some ⟨g, off, none⟩ ∧ g < W.heap.size ∧ ∀ i, i < n → ∀ r, r < 2 → W.cell? ⟨g, off + i * 2 + r, none⟩ = some (.int .i64 (c i r)))
    (hc : ∀ W', G W W' → ∀ i, i < n → Calls Tryz.prog C (#[.agg #[.int .i64 (c i 0), .int .i64 (c i 1)]] ++ lb) W' fun e w' => e = .returned (.bool false) ∧ G W' w') :
    Calls Tryz.prog 99 #[.slice a n cap, .func (.func C) #[] lb] W fun e w' => e = .returned (.int .i64 (-1)) ∧ G W w' := by
  have HC := Lib.hid hc
  clear hc
  go_enter Tryz.func99, Tryz.ntmps99
  go_wp2
  go_loopw [8] (fun i wr => ∃ k : Nat, k ≤ n ∧ i = .int .i64 k ∧ G W wr) (fun i _ => n - (intOf i).toNat)
  case atStart => exact ⟨0, Nat.zero_le _, rfl, G.rf _⟩
  case round =>
    obtain ⟨k, hk, rfl, hG⟩ := hrel
    by_cases hlt : k < n
    · have hki : (k : Int) < n := by omega
      rcases ha with h | ⟨g, off, rfl, hg, hcell⟩
      · omega
      have lg := Nat.lt_of_lt_of_le hg hG.size
      have hcl := fun r hr => ((bcellB hG).1 g _ hg).trans (hcell k hlt r hr)
      have q0 := hcl 0 (by omega)
      rw [Nat.add_zero] at q0
      have q1 := hcl 1 (by omega)
      have HC2 := Lib.hid (HC.out wr hG k hlt)
      clear hcl hcell HC
      go_wp2_with (go_at_fn C; refine (HC2.out).mono ?_; rintro e w1 ⟨rfl, hG1⟩)
      go_roundw
      case rel => exact ⟨k + 1, by omega, by go_num, hG.t hG1⟩
      case measure => simp [intOf]; omega
    · have hki : ¬ (k : Int) < n := by omega
      go_wp2
      go_ret
      exact ⟨rfl, hG⟩
theorem CtSpan_none (C : FuncId) (eg : ∀ args w, (callFunc C args).run Tryz.prog w = .ok (.enter C args) w) (lb : Array Value) (W : World) (a : Option Addr) (cap n : Nat) (c : Nat → Nat → Int) (hn : n ≤ 1000)
    (ha : n = 0 ∨ ∃ g off, a = some ⟨g, off, none⟩ ∧ g < W.heap.size ∧ ∀ i, i < n → ∀ r, r < 2 → W.cell? ⟨g, off + i * 2 + r, none⟩ = some (.int .i64 (c i r)))
    (hc : ∀ W', G W W' → ∀ i, i < n → Calls Tryz.prog C (#[.agg #[.int .i64 (c i 0), .int .i64 (c i 1)]] ++ lb) W' fun e w' => e = .returned (.bool false) ∧ G W' w') :
    Calls Tryz.prog 72 #[.slice a n cap, .func (.func C) #[] lb] W fun e w' => e = .returned (.bool false) ∧ G W w' := by
  have HI := Lib.hid (IdxSpan_none C eg lb W a cap n c hn ha hc)
  clear ha hc
  go_enter Tryz.func72, Tryz.ntmps72
  go_wp2_with (go_at_call 99; refine (HI.out).mono ?_; rintro e w1 ⟨rfl, hG1⟩)
  go_ret
  exact ⟨rfl, hG1⟩
set_option maxHeartbeats 2000000 in
theorem IdxPoint_none (C : FuncId) (eg : ∀ args w, (callFunc C args).run Tryz.prog w = .ok (.enter C args) w) (lb : Array Value) (W : World) (a : Option Addr) (cap n : Nat) (c : Nat → Nat → Int) (hn : n ≤ 1000)
    (ha : n = 0 ∨ ∃ g off, a = some ⟨g, off, none⟩ ∧ g < W.heap.size ∧ ∀ i, i < n → ∀ r, r < 2 → W.cell? ⟨g, off + i * 2 + r, none⟩ = some (.int .i64 (c i r)))
    (hc : ∀ W', G W W' → ∀ i, i < n → Calls Tryz.prog C (#[.agg #[.int .i64 (c i 0), .int .i64 (c i 1)]] ++ lb) W' fun e w' => e = .returned (.bool false) ∧ G W' w') :
    Calls Tryz.prog 98 #[.slice a n cap, .func (.func C) #[] lb] W fun e w' => e = .returned (.int .i64 (-1)) ∧ G W w' := by
  have HC := Lib.hid hc
  clear hc
  go_enter Tryz.func98, Tryz.ntmps98
  go_wp2
  go_loopw [8] (fun i wr => ∃ k : Nat, k ≤ n ∧ i = .int .i64 k ∧ G W wr) (fun i _ => n - (intOf i).toNat)
  case atStart => exact ⟨0, Nat.zero_le _, rfl, G.rf _⟩
  case round =>
    obtain ⟨k, hk, rfl, hG⟩ := hrel
    by_cases hlt : k < n
    · have hki : (k : Int) < n := by omega
      rcases ha with h | ⟨g, off, rfl, hg, hcell⟩
      · omega
      have lg := Nat.lt_of_lt_of_le hg hG.size
      have hcl := fun r hr => ((bcellB hG).1 g _ hg).trans (hcell k hlt r hr)
      have q0 := hcl 0 (by omega)
      rw [Nat.add_zero] at q0
      have q1 := hcl 1 (by omega)
      have HC2 := Lib.hid (HC.out wr hG k hlt)
      clear hcl hcell HC
      go_wp2_with (go_at_fn C; refine (HC2.out).mono ?_; rintro e w1 ⟨rfl, hG1⟩)
      go_roundw
      case rel => exact ⟨k + 1, by omega, by go_num, hG.t hG1⟩
      case measure => simp [intOf]; omega
    · have hki : ¬ (k : Int) < n := by omega
      go_wp2
      go_ret
      exact ⟨rfl, hG⟩
theorem CtPoint_none (C : FuncId) (eg : ∀ args w, (callFunc C args).run Tryz.prog w = .ok (.enter C args) w) (lb : Array Value) (W : World) (a : Option Addr) (cap n : Nat) (c : Nat → Nat → Int) (hn : n ≤ 1000)
    (ha : n = 0 ∨ ∃ g off, a = some ⟨g, off, none⟩ ∧ g < W.heap.size ∧ ∀ i, i < n → ∀ r, r < 2 → W.cell? ⟨g, off + i * 2 + r, none⟩ = some (.int .i64 (c i r)))
    (hc : ∀ W', G W W' → ∀ i, i < n → Calls Tryz.prog C (#[.agg #[.int .i64 (c i 0), .int .i64 (c i 1)]] ++ lb) W' fun e w' => e = .returned (.bool false) ∧ G W' w') :
    Calls Tryz.prog 67 #[.slice a n cap, .func (.func C) #[] lb] W fun e w' => e = .returned (.bool false) ∧ G W w' := by
  have HI := Lib.hid (IdxPoint_none C eg lb W a cap n c hn ha hc)
  clear ha hc
  go_enter Tryz.func67, Tryz.ntmps67
  go_wp2_with (go_at_call 98; refine (HI.out).mono ?_; rintro e w1 ⟨rfl, hG1⟩)
  go_ret
  exact ⟨rfl, hG1⟩
set_option maxHeartbeats 2000000 in
theorem IdxFront_none (C : FuncId) (eg : ∀ args w, (callFunc C args).run Tryz.prog w = .ok (.enter C args) w) (lb : Array Value) (W : World) (a : Option Addr) (cap n : Nat) (c : Nat → Nat → Int) (hn : n ≤ 1000)
    (ha : n = 0 ∨ ∃ g off, a = some ⟨g, off, none⟩ ∧ g < W.heap.size ∧ ∀ i, i < n → ∀ r, r < 12 → W.cell? ⟨g, off + i * 12 + r, none⟩ = some (.int .i64 (c i r)))
    (hc : ∀ W', G W W' → ∀ i, i < n → Calls Tryz.prog C (#[.agg #[.int .i64 (c i 0), .int .i64 (c i 1), .int .i64 (c i 2), .int .i64 (c i 3), .int .i64 (c i 4), .int .i64 (c i 5), .int .i64 (c i 6), .int .i64 (c i 7), .int .i64 (c i 8), .int .i64 (c i 9), .int .i64 (c i 10), .int .i64 (c i 11)]] ++ lb) W' fun e w' => e = .returned (.bool false) ∧ G W' w') :
    Calls Tryz.prog 71 #[.slice a n cap, .func (.func C) #[] lb] W fun e w' => e = .returned (.int .i64 (-1)) ∧ G W w' := by
  have HC := Lib.hid hc
  clear hc
  go_enter Tryz.func71, Tryz.ntmps71
  go_wp2
  go_loopw [8] (fun i wr => ∃ k : Nat, k ≤ n ∧ i = .int .i64 k ∧ G W wr) (fun i _ => n - (intOf i).toNat)
  case atStart => exact ⟨0, Nat.zero_le _, rfl, G.rf _⟩
  case round =>
    obtain ⟨k, hk, rfl, hG⟩ := hrel
    by_cases hlt : k < n
    · have hki : (k : Int) < n := by omega
      rcases ha with h | ⟨g, off, rfl, hg, hcell⟩
      · omega
      have lg := Nat.lt_of_lt_of_le hg hG.size
      have hcl := fun r hr => ((bcellB hG).1 g _ hg).trans (hcell k hlt r hr)
      have q0 := hcl 0 (by omega)
      rw [Nat.add_zero] at q0
      have q1 := hcl 1 (by omega)
      have q2 := hcl 2 (by omega)
      have q3 := hcl 3 (by omega)
      have q4 := hcl 4 (by omega)
      have q5 := hcl 5 (by omega)
      have q6 := hcl 6 (by omega)
      have q7 := hcl 7 (by omega)
      have q8 := hcl 8 (by omega)
      have q9 := hcl 9 (by omega)
      have q10 := hcl 10 (by omega)
      have q11 := hcl 11 (by omega)
      have HC2 := Lib.hid (HC.out wr hG k hlt)
      clear hcl hcell HC
      go_wp2_with (go_at_fn C; refine (HC2.out).mono ?_; rintro e w1 ⟨rfl, hG1⟩)
      go_roundw
      case rel => exact ⟨k + 1, by omega, by go_num, hG.t hG1⟩
      case measure => simp [intOf]; omega
    · have hki : ¬ (k : Int) < n := by omega
      go_wp2
      go_ret
      exact ⟨rfl, hG⟩
theorem CtFront_none (C : FuncId) (eg : ∀ args w, (callFunc C args).run Tryz.prog w = .ok (.enter C args) w) (lb : Array Value) (W : World) (a : Option Addr) (cap n : Nat) (c : Nat → Nat → Int) (hn : n ≤ 1000)
    (ha : n = 0 ∨ ∃ g off, a = some ⟨g, off, none⟩ ∧ g < W.heap.size ∧ ∀ i, i < n → ∀ r, r < 12 → W.cell? ⟨g, off + i * 12 + r, none⟩ = some (.int .i64 (c i r)))
    (hc : ∀ W', G W W' → ∀ i, i < n → Calls Tryz.prog C (#[.agg #[.int .i64 (c i 0), .int .i64 (c i 1), .int .i64 (c i 2), .int .i64 (c i 3), .int .i64 (c i 4), .int .i64 (c i 5), .int .i64 (c i 6), .int .i64 (c i 7), .int .i64 (c i 8), .int .i64 (c i 9), .int .i64 (c i 10), .int .i64 (c i 11)]] ++ lb) W' fun e w' => e = .returned (.bool false) ∧ G W' w') :
    Calls Tryz.prog 32 #[.slice a n cap, .func (.func C) #[] lb] W fun e w' => e = .returned (.bool false) ∧ G W w' := by
  have HI := Lib.hid (IdxFront_none C eg lb W a cap n c hn ha hc)
  clear ha hc
  go_enter Tryz.func32, Tryz.ntmps32
  go_wp2_with (go_at_call 71; refine (HI.out).mono ?_; rintro e w1 ⟨rfl, hG1⟩)
  go_ret
  exact ⟨rfl, hG1⟩
end Go.Proofs.YtcekdljjmfkacaaGreat
set_option linter.unusedSimpArgs false
set_option linter.unusedVariables false
namespace Go.Proofs.YtcekdljjmfkacaaGreat
open Go.RowKit
attribute [local go_sem] Oper.semAt_some

section
variable (north cols lofts wrong bx bY sl sh lw lg lh hours dark : Int) (ea : Option Addr) (el ec : Nat) (sv hv fv : Value)
theorem clos76_any (B : Nat) (x y : Int) (W : World) (hB : Blk W B 35 #[.int .i64 north, .int .i64 cols, .slice ea el ec, .int .i64 lofts, sv, .int .i64 wrong, .int .i64 bx, .int .i64 bY, hv, .int .i64 sl, .int .i64 sh, fv, .int .i64 lw, .int .i64 lg, .int .i64 lh, .int .i64 hours, .int .i64 dark]) (hc : 0 ≤ cols ∧ cols ≤ 9223372036854775807) (hel : el ≤ 9223372036854775807) (hp : isPlaceB cols el x y = true) :
    Calls Tryz.prog 68 #[.agg #[.int .i64 x, .int .i64 y], .pointer (some ⟨B, 0, none⟩)] W fun e w' => e = .returned (.bool false) ∧ G W w' := by
  have hP := fun (W : World) => lPlace_any north cols lofts wrong x y ea el ec sv W hc hel
  rw [hp] at hP
  have HP := Lib.hid hP
  clear hP
  have g0 : G W (W.alloc (.cells #[.int .i64 x, .int .i64 y] 27)) := (G.rf _).a _
  have b0 := hB.keep g0
  have b1 := Blk.new W 27 #[.int .i64 x, .int .i64 y]
  have m0 := b0.cell 0; have m1 := b0.cell 1; have m2 := b0.cell 2; have m3 := b0.cell 3; have m4 := b0.cell 4; have m5 := b0.cell 5; have m6 := b0.cell 6; have m7 := b0.cell 7; have m8 := b0.cell 8; have m9 := b0.cell 9; have m10 := b0.cell 10; have m11 := b0.cell 11; have m12 := b0.cell 12; have m13 := b0.cell 13; have m14 := b0.cell 14; have m15 := b0.cell 15; have m16 := b0.cell 16; have lM := b0.lt
  have f0 := b1.cell 0
  have f1 := b1.cell 1
  have l1 := b1.lt
  go_enter Tryz.func68, Tryz.ntmps68
  go_wp2_with (go_at_call 49; refine (HP.out _).mono ?_; rintro e w1 ⟨rfl, hG1⟩)
  go_ret
  exact ⟨rfl, g0.t hG1⟩
set_option maxRecDepth 100000 in
set_option maxHeartbeats 4000000 in
theorem validFront_ok (d : Nat → Int) (W : World) (hc : 1 ≤ cols ∧ cols ≤ 9223372036854775807) (hel : el ≤ 9223372036854775807) (hh : 1 ≤ hours ∧ hours ≤ 12) (h1 : spanB (d 0) (d 1) 0 (hours - 1) = true) (h2 : spanB (d 2) (d 3) 0 (cols - 1) = true) (h3 : spanB (d 4) (d 5) 0 ((el : Int) - 1) = true)
    (h4 : spanB (d 6) (d 7) 0 999 = true) (h5 : spanB (d 8) (d 9) 0 999 = true) (h6 : spanB (d 10) (d 11) 0 999 = true) :
    Calls Tryz.prog 34 #[.agg #[.int .i64 north, .int .i64 cols, .slice ea el ec, .int .i64 lofts, sv, .int .i64 wrong, .int .i64 bx, .int .i64 bY, hv, .int .i64 sl, .int .i64 sh, fv, .int .i64 lw, .int .i64 lg, .int .i64 lh, .int .i64 hours, .int .i64 dark], .agg #[.int .i64 (d 0), .int .i64 (d 1), .int .i64 (d 2), .int .i64 (d 3), .int .i64 (d 4), .int .i64 (d 5), .int .i64 (d 6), .int .i64 (d 7), .int .i64 (d 8), .int .i64 (d 9), .int .i64 (d 10), .int .i64 (d 11)]] W fun e w' => e = .returned (.bool true) ∧ G W w' := by
  obtain ⟨g0, b0, b1⟩ := w2_spec W #[.int .i64 north, .int .i64 cols, .slice ea el ec, .int .i64 lofts, sv, .int .i64 wrong, .int .i64 bx, .int .i64 bY, hv, .int .i64 sl, .int .i64 sh, fv, .int .i64 lw, .int .i64 lg, .int .i64 lh, .int .i64 hours, .int .i64 dark] #[.int .i64 (d 0), .int .i64 (d 1), .int .i64 (d 2), .int .i64 (d 3), .int .i64 (d 4), .int .i64 (d 5), .int .i64 (d 6), .int .i64 (d 7), .int .i64 (d 8), .int .i64 (d 9), .int .i64 (d 10), .int .i64 (d 11)] 35 71
  have x1 : IntKind.i64.wrap (hours - 1) = hours - 1 := IntWalk.i64_in _ (by omega)
  have x2 : IntKind.i64.wrap (cols - 1) = cols - 1 := IntWalk.i64_in _ (by omega)
  have x3 : IntKind.i64.wrap ((el : Int) - 1) = (el : Int) - 1 := IntWalk.i64_in _ (by omega)
  have s1 := fun (W : World) => lSpan_any (d 0) (d 1) 0 (hours - 1) W
  have s2 := fun (W : World) => lSpan_any (d 2) (d 3) 0 (cols - 1) W
  have s3 := fun (W : World) => lSpan_any (d 4) (d 5) 0 ((el : Int) - 1) W
  rw [h1] at s1
  rw [h2] at s2
  rw [h3] at s3
  have S1 := Lib.hid s1
  have S2 := Lib.hid s2
  have S3 := Lib.hid s3
  have hct := fun (W : World) (g : Nat) (hg : Blk W g 30 #[.int .i64 (d 6), .int .i64 (d 7), .int .i64 (d 8), .int .i64 (d 9), .int .i64 (d 10), .int .i64 (d 11)]) => CtSpan_none 73 (enters_of Tryz.func73 (by kernel_rfl) rfl) #[] W (some ⟨g, 0, none⟩) 3 3 (fun i r => d (6 + i * 2 + r)) (by omega)
    (.inr ⟨g, 0, rfl, hg.lt, fun i hi r hr => by
      rw [hg.cell]
      match i, hi, r, hr with
      | 0, _, 0, _ => rfl
      | 0, _, 1, _ => rfl
      | 1, _, 0, _ => rfl
      | 1, _, 1, _ => rfl
      | 2, _, 0, _ => rfl
      | 2, _, 1, _ => rfl⟩)
    (fun W' hW i hi => by
      have h := lWx_any (d (6 + i * 2 + 0)) (d (6 + i * 2 + 1)) W'
      have e : spanB (d (6 + i * 2 + 0)) (d (6 + i * 2 + 1)) 0 999 = true := by
        match i, hi with
        | 0, _ => exact h4
        | 1, _ => exact h5
        | 2, _ => exact h6
      rw [e] at h
      exact h)
  have HCT := Lib.hid hct
  clear s1 s2 s3 hct h1 h2 h3 h4 h5 h6
  have m0 := b0.cell 0; have m1 := b0.cell 1; have m2 := b0.cell 2; have m3 := b0.cell 3; have m4 := b0.cell 4; have m5 := b0.cell 5; have m6 := b0.cell 6; have m7 := b0.cell 7; have m8 := b0.cell 8; have m9 := b0.cell 9; have m10 := b0.cell 10; have m11 := b0.cell 11; have m12 := b0.cell 12; have m13 := b0.cell 13; have m14 := b0.cell 14; have m15 := b0.cell 15; have m16 := b0.cell 16; have lM := b0.lt; have f0 := b1.cell 0; have f1 := b1.cell 1; have f2 := b1.cell 2; have f3 := b1.cell 3; have f4 := b1.cell 4; have f5 := b1.cell 5; have f6 := b1.cell 6; have f7 := b1.cell 7; have f8 := b1.cell 8; have f9 := b1.cell 9; have f10 := b1.cell 10; have f11 := b1.cell 11; have lF := b1.lt
  go_enter Tryz.func34, Tryz.ntmps34
  go_wp2_with (first | (go_at_call 69; refine (S1.out _).mono ?_; rintro e w1 ⟨rfl, hG1⟩; clear S1; clear m0 m1 m2 m3 m4 m5 m6 m7 m8 m9 m10 m11 m12 m13 m14 m15 m16 lM f0 f1 f2 f3 f4 f5 f6 f7 f8 f9 f10 f11 lF; replace b0 := b0.keep hG1; replace b1 := b1.keep hG1; replace g0 := g0.t hG1; clear hG1; have m0 := b0.cell 0; have m1 := b0.cell 1; have m2 := b0.cell 2; have m3 := b0.cell 3; have m4 := b0.cell 4; have m5 := b0.cell 5; have m6 := b0.cell 6; have m7 := b0.cell 7; have m8 := b0.cell 8; have m9 := b0.cell 9; have m10 := b0.cell 10; have m11 := b0.cell 11; have m12 := b0.cell 12; have m13 := b0.cell 13; have m14 := b0.cell 14; have m15 := b0.cell 15; have m16 := b0.cell 16; have lM := b0.lt; have f0 := b1.cell 0; have f1 := b1.cell 1; have f2 := b1.cell 2; have f3 := b1.cell 3; have f4 := b1.cell 4; have f5 := b1.cell 5; have f6 := b1.cell 6; have f7 := b1.cell 7; have f8 := b1.cell 8; have f9 := b1.cell 9; have f10 := b1.cell 10; have f11 := b1.cell 11; have lF := b1.lt) | (go_at_call 69; refine (S2.out _).mono ?_; rintro e w1 ⟨rfl, hG1⟩; clear S2; clear m0 m1 m2 m3 m4 m5 m6 m7 m8 m9 m10 m11 m12 m13 m14 m15 m16 lM f0 f1 f2 f3 f4 f5 f6 f7 f8 f9 f10 f11 lF; replace b0 := b0.keep hG1; replace b1 := b1.keep hG1; replace g0 := g0.t hG1; clear hG1; have m0 := b0.cell 0; have m1 := b0.cell 1; have m2 := b0.cell 2; have m3 := b0.cell 3; have m4 := b0.cell 4; have m5 := b0.cell 5; have m6 := b0.cell 6; have m7 := b0.cell 7; have m8 := b0.cell 8; have m9 := b0.cell 9; have m10 := b0.cell 10; have m11 := b0.cell 11; have m12 := b0.cell 12; have m13 := b0.cell 13; have m14 := b0.cell 14; have m15 := b0.cell 15; have m16 := b0.cell 16; have lM := b0.lt; have f0 := b1.cell 0; have f1 := b1.cell 1; have f2 := b1.cell 2; have f3 := b1.cell 3; have f4 := b1.cell 4; have f5 := b1.cell 5; have f6 := b1.cell 6; have f7 := b1.cell 7; have f8 := b1.cell 8; have f9 := b1.cell 9; have f10 := b1.cell 10; have f11 := b1.cell 11; have lF := b1.lt) | (go_at_call 69; refine (S3.out _).mono ?_; rintro e w1 ⟨rfl, hG1⟩; clear S3; clear m0 m1 m2 m3 m4 m5 m6 m7 m8 m9 m10 m11 m12 m13 m14 m15 m16 lM f0 f1 f2 f3 f4 f5 f6 f7 f8 f9 f10 f11 lF; replace b0 := b0.keep hG1; replace b1 := b1.keep hG1; replace g0 := g0.t hG1; clear hG1; have m0 := b0.cell 0; have m1 := b0.cell 1; have m2 := b0.cell 2; have m3 := b0.cell 3; have m4 := b0.cell 4; have m5 := b0.cell 5; have m6 := b0.cell 6; have m7 := b0.cell 7; have m8 := b0.cell 8; have m9 := b0.cell 9; have m10 := b0.cell 10; have m11 := b0.cell 11; have m12 := b0.cell 12; have m13 := b0.cell 13; have m14 := b0.cell 14; have m15 := b0.cell 15; have m16 := b0.cell 16; have lM := b0.lt; have f0 := b1.cell 0; have f1 := b1.cell 1; have f2 := b1.cell 2; have f3 := b1.cell 3; have f4 := b1.cell 4; have f5 := b1.cell 5; have f6 := b1.cell 6; have f7 := b1.cell 7; have f8 := b1.cell 8; have f9 := b1.cell 9; have f10 := b1.cell 10; have f11 := b1.cell 11; have lF := b1.lt) | (go_at_call 72; refine (HCT.out _ _ (Blk.new _ _ _)).mono ?_; rintro e w2 ⟨rfl, hG1⟩))
  go_ret
  exact ⟨rfl, (g0.a _).t hG1⟩
end
end Go.Proofs.YtcekdljjmfkacaaGreat
set_option linter.unusedSimpArgs false
set_option linter.unusedVariables false
namespace Go.Proofs.YtcekdljjmfkacaaGreat
open Go.RowKit
attribute [local go_sem] Oper.semAt_some

/-- a slice of elements of so many numbers each -/
def RowAt (W : World) (a : Option Addr) (n z : Nat) (c : Nat → Nat → Int) : Prop := n = 0 ∨ ∃ g off, a = some ⟨g, off, none⟩ ∧ g < W.heap.size ∧ ∀ i, i < n → ∀ r, r < z → W.cell? ⟨g, off + i * z + r, none⟩ = some (.int .i64 (c i r))
theorem RowAt.below {W W' : World} {a : Option Addr} {n z : Nat} {c : Nat → Nat → Int} (h : RowAt W a n z c) (hG : G W W') : RowAt W' a n z c := by
  rcases h with h | ⟨g, off, h1, h2, h3⟩
  · exact .inl h
  · exact .inr ⟨g, off, h1, Nat.lt_of_lt_of_le h2 hG.size, fun i hi r hr => ((bcellB hG).1 g _ h2).trans (h3 i hi r hr)⟩
/-- what a valid release is, but for its map and its fronts -/
structure RelOk (cols : Int) (el : Nat) (bx bY sl sh lw lg lh hours dark : Int) (n : Nat) (h : Nat → Nat → Int) : Prop where
  base : isPlaceB cols el bx bY = true
  many : n ≤ 6
  homes : ∀ i, i < n → isPlaceB cols el (h i 0) (h i 1) = true
  speed : spanB sl sh 1 3000000 = true
  wind : isInB lw 0 999 = true
  sight : isInB lg 0 999 = true
  heat : isInB lh 0 999 = true
  hrs : isInB hours 1 12 = true
  drk : isInB dark 0 9999 = true
structure FrontOk (cols : Int) (el : Nat) (hours : Int) (d : Nat → Int) : Prop where
  h1 : spanB (d 0) (d 1) 0 (hours - 1) = true
  h2 : spanB (d 2) (d 3) 0 (cols - 1) = true
  h3 : spanB (d 4) (d 5) 0 ((el : Int) - 1) = true
  h4 : spanB (d 6) (d 7) 0 999 = true
  h5 : spanB (d 8) (d 9) 0 999 = true
  h6 : spanB (d 10) (d 11) 0 999 = true
section
variable (north cols lofts wrong bx bY sl sh lw lg lh hours dark : Int) (east : List Int) (svs : List Sv) (n k : Nat) (h f : Nat → Nat → Int) (ea sa ha fa : Option Addr) (ec sc hc fc : Nat) (W : World)
set_option maxRecDepth 100000 in
set_option maxHeartbeats 8000000 in
theorem validRelease_ok (he : IntsAt W ea east) (hs : SvsAt W sa svs) (hk : checkE north cols east lofts svs wrong = 0) (hr : RelOk cols east.length bx bY sl sh lw lg lh hours dark n h) (hH : RowAt W ha n 2 h) :
    Calls Tryz.prog 31 #[.agg #[.int .i64 north, .int .i64 cols, .slice ea east.length ec, .int .i64 lofts, .slice sa svs.length sc, .int .i64 wrong, .int .i64 bx, .int .i64 bY, .slice ha n hc, .int .i64 sl, .int .i64 sh, .slice fa k fc, .int .i64 lw, .int .i64 lg, .int .i64 lh, .int .i64 hours, .int .i64 dark]] W fun e w' => e = .returned (.bool true) ∧ G W w' := by
  have hvb := vm_bounds (checkE_ok hk)
  have hl2 := (checkE_zero hk).2.1
  have hn6 : ¬ (6 : Int) < n := by have := hr.many; omega
  have hn6' : (n : Int) ≤ 6 := by have := hr.many; omega
  have hK := fun (W' : World) (hW : G W W') => Check_any north cols lofts wrong east svs ea sa ec sc W' (he.below hW) (hs.below hW) (by omega) (by omega)
  rw [hk] at hK
  have hP := fun (W : World) => lPlace_any north cols lofts wrong bx bY ea east.length ec (.slice sa svs.length sc) W (by omega) (by omega)
  rw [hr.base] at hP
  have hS := fun (W : World) => lSpan_any sl sh 1 3000000 W
  rw [hr.speed] at hS
  have hU1 := fun (W : World) => lUpTo_any lw 999 W
  rw [hr.wind] at hU1
  have hU2 := fun (W : World) => lUpTo_any lg 999 W
  rw [hr.sight] at hU2
  have hU3 := fun (W : World) => lUpTo_any lh 999 W
  rw [hr.heat] at hU3
  have hI := fun (W : World) => lIn_any hours 1 12 W
  rw [hr.hrs] at hI
  have hM := fun (W : World) => lMinute_any dark W
  rw [hr.drk] at hM
  have hCT := fun (W' : World) (hW : G W W') (B : Nat) (hB : Blk W' B 35 #[.int .i64 north, .int .i64 cols, .slice ea east.length ec, .int .i64 lofts, .slice sa svs.length sc, .int .i64 wrong, .int .i64 bx, .int .i64 bY, .slice ha n hc, .int .i64 sl, .int .i64 sh, .slice fa k fc, .int .i64 lw, .int .i64 lg, .int .i64 lh, .int .i64 hours, .int .i64 dark]) => CtPoint_none 68 (enters_of Tryz.func68 (by kernel_rfl) rfl) #[.pointer (some ⟨B, 0, none⟩)] W' ha hc n h (by have := hr.many; omega) (hH.below hW)
    (fun W2 hW2 i hi => clos76_any north cols lofts wrong bx bY sl sh lw lg lh hours dark ea east.length ec (.slice sa svs.length sc) (.slice ha n hc) (.slice fa k fc) B (h i 0) (h i 1) W2 (hB.keep hW2) (by omega) (by omega) (hr.homes i hi))
  have HK := Lib.hid hK
  have HP := Lib.hid hP
  have HS := Lib.hid hS
  have HU1 := Lib.hid hU1
  have HU2 := Lib.hid hU2
  have HU3 := Lib.hid hU3
  have HI := Lib.hid hI
  have HM := Lib.hid hM
  have HCT := Lib.hid hCT
  clear hK hP hS hU1 hU2 hU3 hI hM hCT hk hvb hl2 hr hH he hs
  have g0 : G W (W.alloc (.cells #[.int .i64 north, .int .i64 cols, .slice ea east.length ec, .int .i64 lofts, .slice sa svs.length sc, .int .i64 wrong, .int .i64 bx, .int .i64 bY, .slice ha n hc, .int .i64 sl, .int .i64 sh, .slice fa k fc, .int .i64 lw, .int .i64 lg, .int .i64 lh, .int .i64 hours, .int .i64 dark] 35)) := (G.rf _).a _
  have b0 := Blk.new W 35 #[.int .i64 north, .int .i64 cols, .slice ea east.length ec, .int .i64 lofts, .slice sa svs.length sc, .int .i64 wrong, .int .i64 bx, .int .i64 bY, .slice ha n hc, .int .i64 sl, .int .i64 sh, .slice fa k fc, .int .i64 lw, .int .i64 lg, .int .i64 lh, .int .i64 hours, .int .i64 dark]
  have m0 := b0.cell 0; have m1 := b0.cell 1; have m2 := b0.cell 2; have m3 := b0.cell 3; have m4 := b0.cell 4; have m5 := b0.cell 5; have m6 := b0.cell 6; have m7 := b0.cell 7; have m8 := b0.cell 8; have m9 := b0.cell 9; have m10 := b0.cell 10; have m11 := b0.cell 11; have m12 := b0.cell 12; have m13 := b0.cell 13; have m14 := b0.cell 14; have m15 := b0.cell 15; have m16 := b0.cell 16; have lM := b0.lt
  go_enter Tryz.func31, Tryz.ntmps31
  go_wp2_with (first | (go_at_call 66; refine (HK.out _ g0).mono ?_; rintro e w1 ⟨rfl, hG1⟩; clear m0 m1 m2 m3 m4 m5 m6 m7 m8 m9 m10 m11 m12 m13 m14 m15 m16 lM; replace b0 := b0.keep hG1; replace g0 := g0.t hG1; clear hG1; have m0 := b0.cell 0; have m1 := b0.cell 1; have m2 := b0.cell 2; have m3 := b0.cell 3; have m4 := b0.cell 4; have m5 := b0.cell 5; have m6 := b0.cell 6; have m7 := b0.cell 7; have m8 := b0.cell 8; have m9 := b0.cell 9; have m10 := b0.cell 10; have m11 := b0.cell 11; have m12 := b0.cell 12; have m13 := b0.cell 13; have m14 := b0.cell 14; have m15 := b0.cell 15; have m16 := b0.cell 16; have lM := b0.lt) | (go_at_call 49; refine (HP.out _).mono ?_; rintro e w1 ⟨rfl, hG1⟩; clear m0 m1 m2 m3 m4 m5 m6 m7 m8 m9 m10 m11 m12 m13 m14 m15 m16 lM; replace b0 := b0.keep hG1; replace g0 := g0.t hG1; clear hG1; have m0 := b0.cell 0; have m1 := b0.cell 1; have m2 := b0.cell 2; have m3 := b0.cell 3; have m4 := b0.cell 4; have m5 := b0.cell 5; have m6 := b0.cell 6; have m7 := b0.cell 7; have m8 := b0.cell 8; have m9 := b0.cell 9; have m10 := b0.cell 10; have m11 := b0.cell 11; have m12 := b0.cell 12; have m13 := b0.cell 13; have m14 := b0.cell 14; have m15 := b0.cell 15; have m16 := b0.cell 16; have lM := b0.lt) | (go_at_call 67; refine (HCT.out _ g0 _ b0).mono ?_; rintro e w1 ⟨rfl, hG1⟩; clear m0 m1 m2 m3 m4 m5 m6 m7 m8 m9 m10 m11 m12 m13 m14 m15 m16 lM; replace b0 := b0.keep hG1; replace g0 := g0.t hG1; clear hG1; have m0 := b0.cell 0; have m1 := b0.cell 1; have m2 := b0.cell 2; have m3 := b0.cell 3; have m4 := b0.cell 4; have m5 := b0.cell 5; have m6 := b0.cell 6; have m7 := b0.cell 7; have m8 := b0.cell 8; have m9 := b0.cell 9; have m10 := b0.cell 10; have m11 := b0.cell 11; have m12 := b0.cell 12; have m13 := b0.cell 13; have m14 := b0.cell 14; have m15 := b0.cell 15; have m16 := b0.cell 16; have lM := b0.lt) | (go_at_call 69; refine (HS.out _).mono ?_; rintro e w1 ⟨rfl, hG1⟩; clear m0 m1 m2 m3 m4 m5 m6 m7 m8 m9 m10 m11 m12 m13 m14 m15 m16 lM; replace b0 := b0.keep hG1; replace g0 := g0.t hG1; clear hG1; have m0 := b0.cell 0; have m1 := b0.cell 1; have m2 := b0.cell 2; have m3 := b0.cell 3; have m4 := b0.cell 4; have m5 := b0.cell 5; have m6 := b0.cell 6; have m7 := b0.cell 7; have m8 := b0.cell 8; have m9 := b0.cell 9; have m10 := b0.cell 10; have m11 := b0.cell 11; have m12 := b0.cell 12; have m13 := b0.cell 13; have m14 := b0.cell 14; have m15 := b0.cell 15; have m16 := b0.cell 16; have lM := b0.lt) | (go_at_call 50; refine (HU1.out _).mono ?_; rintro e w1 ⟨rfl, hG1⟩; clear HU1; clear m0 m1 m2 m3 m4 m5 m6 m7 m8 m9 m10 m11 m12 m13 m14 m15 m16 lM; replace b0 := b0.keep hG1; replace g0 := g0.t hG1; clear hG1; have m0 := b0.cell 0; have m1 := b0.cell 1; have m2 := b0.cell 2; have m3 := b0.cell 3; have m4 := b0.cell 4; have m5 := b0.cell 5; have m6 := b0.cell 6; have m7 := b0.cell 7; have m8 := b0.cell 8; have m9 := b0.cell 9; have m10 := b0.cell 10; have m11 := b0.cell 11; have m12 := b0.cell 12; have m13 := b0.cell 13; have m14 := b0.cell 14; have m15 := b0.cell 15; have m16 := b0.cell 16; have lM := b0.lt) | (go_at_call 50; refine (HU2.out _).mono ?_; rintro e w1 ⟨rfl, hG1⟩; clear HU2; clear m0 m1 m2 m3 m4 m5 m6 m7 m8 m9 m10 m11 m12 m13 m14 m15 m16 lM; replace b0 := b0.keep hG1; replace g0 := g0.t hG1; clear hG1; have m0 := b0.cell 0; have m1 := b0.cell 1; have m2 := b0.cell 2; have m3 := b0.cell 3; have m4 := b0.cell 4; have m5 := b0.cell 5; have m6 := b0.cell 6; have m7 := b0.cell 7; have m8 := b0.cell 8; have m9 := b0.cell 9; have m10 := b0.cell 10; have m11 := b0.cell 11; have m12 := b0.cell 12; have m13 := b0.cell 13; have m14 := b0.cell 14; have m15 := b0.cell 15; have m16 := b0.cell 16; have lM := b0.lt) | (go_at_call 50; refine (HU3.out _).mono ?_; rintro e w1 ⟨rfl, hG1⟩; clear HU3; clear m0 m1 m2 m3 m4 m5 m6 m7 m8 m9 m10 m11 m12 m13 m14 m15 m16 lM; replace b0 := b0.keep hG1; replace g0 := g0.t hG1; clear hG1; have m0 := b0.cell 0; have m1 := b0.cell 1; have m2 := b0.cell 2; have m3 := b0.cell 3; have m4 := b0.cell 4; have m5 := b0.cell 5; have m6 := b0.cell 6; have m7 := b0.cell 7; have m8 := b0.cell 8; have m9 := b0.cell 9; have m10 := b0.cell 10; have m11 := b0.cell 11; have m12 := b0.cell 12; have m13 := b0.cell 13; have m14 := b0.cell 14; have m15 := b0.cell 15; have m16 := b0.cell 16; have lM := b0.lt) | (go_at_call 70; refine (HI.out _).mono ?_; rintro e w1 ⟨rfl, hG1⟩; clear m0 m1 m2 m3 m4 m5 m6 m7 m8 m9 m10 m11 m12 m13 m14 m15 m16 lM; replace b0 := b0.keep hG1; replace g0 := g0.t hG1; clear hG1; have m0 := b0.cell 0; have m1 := b0.cell 1; have m2 := b0.cell 2; have m3 := b0.cell 3; have m4 := b0.cell 4; have m5 := b0.cell 5; have m6 := b0.cell 6; have m7 := b0.cell 7; have m8 := b0.cell 8; have m9 := b0.cell 9; have m10 := b0.cell 10; have m11 := b0.cell 11; have m12 := b0.cell 12; have m13 := b0.cell 13; have m14 := b0.cell 14; have m15 := b0.cell 15; have m16 := b0.cell 16; have lM := b0.lt) | (go_at_call 43; refine (HM.out _).mono ?_; rintro e w2 ⟨rfl, hG1⟩; clear m0 m1 m2 m3 m4 m5 m6 m7 m8 m9 m10 m11 m12 m13 m14 m15 m16 lM; replace b0 := b0.keep hG1; replace g0 := g0.t hG1; clear hG1))
  go_ret
  exact ⟨rfl, g0⟩
end
end Go.Proofs.YtcekdljjmfkacaaGreat
