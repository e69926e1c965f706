import Derived.Test.YtcekdljjmfkacaaLb
import Derived.Test.YtcekdljjmfkacaaLx
set_option linter.unusedSimpArgs false
set_option linter.unusedVariables false
namespace Go.Proofs.Ytcekdljjmfkacaa
open Go.RowKit
attribute [local go_sem] Oper.semAt_some

def dst (a b : Nat) : Nat := (a - b) + (b - a)
def stepsN (fx fy tx ty : Nat) : Nat := max (dst fx tx) (dst fy ty)
/-- the places of a way -/
def pbK (fx fy tx ty n k : Nat) : List (Nat × Nat) := (fx, fy) :: (List.range k).map fun j => (btw fx tx (j + 1) n, btw fy ty (j + 1) n)
theorem pbK_succ (fx fy tx ty n k : Nat) : pbK fx fy tx ty n (k + 1) = pbK fx fy tx ty n k ++ [(btw fx tx (k + 1) n, btw fy ty (k + 1) n)] := by
  unfold pbK
  rw [List.range_succ, List.map_append]
  rfl
theorem pbK_len (fx fy tx ty n k : Nat) : (pbK fx fy tx ty n k).length = k + 1 := by simp [pbK]
theorem own_pt {W : World} {g : Nat} {x y : Value} (b : Blk W g 27 #[x, y]) : W.ownsRow g 27 2 (.slice (some ⟨g, 0, none⟩) 1 1) 1 [x, y] :=
  ⟨by simp, .inr ⟨g, 1, #[x, y], rfl, Nat.le_refl _, b, Nat.le_refl _, by decide, by simp, by simp⟩⟩
theorem max4 (a b c d n : Int) (w : World) (h1 : a ≤ n) (h2 : b ≤ n) (h3 : c ≤ n) (h4 : d ≤ n) (h : n = a ∨ n = b ∨ n = c ∨ n = d) : (Builtin.max_ #[3, 3, 3, 3] 3 #[.int .i64 a, .int .i64 b, .int .i64 c, .int .i64 d]).run Try.prog w = .ok (.int .i64 n) w := by
  simp only [Builtin.max_, List.foldlM]
  simp [go_sem, Builtin.max2]
  repeat' split
  all_goals omega
theorem steps_max (fx fy tx ty : Nat) : (tx : Int) - fx ≤ stepsN fx fy tx ty ∧ -((tx : Int) - fx) ≤ stepsN fx fy tx ty ∧ (ty : Int) - fy ≤ stepsN fx fy tx ty ∧ -((ty : Int) - fy) ≤ stepsN fx fy tx ty ∧ ((stepsN fx fy tx ty : Int) = (tx : Int) - fx ∨ (stepsN fx fy tx ty : Int) = -((tx : Int) - fx) ∨ (stepsN fx fy tx ty : Int) = (ty : Int) - fy ∨ (stepsN fx fy tx ty : Int) = -((ty : Int) - fy)) := by
  unfold stepsN dst
  omega
def PbPost (w : World) (L : List (Nat × Nat)) (e : Ending) (w' : World) : Prop := ∃ v, e = .returned v ∧ w'.ownsRow w.heap.size 27 2 v L.length (ptsV L) ∧ G w w'
set_option maxRecDepth 100000 in
set_option maxHeartbeats 4000000 in
theorem lPlacesBetween_any (fx fy tx ty : Nat) (w : World) (h1 : fx ≤ 99) (h2 : fy ≤ 99) (h3 : tx ≤ 99) (h4 : ty ≤ 99) :
    Calls Try.prog 34 #[.agg #[.int .i64 fx, .int .i64 fy], .agg #[.int .i64 tx, .int .i64 ty]] w (PbPost w (pbK fx fy tx ty (stepsN fx fy tx ty) (stepsN fx fy tx ty))) := by
  have g0 : G w ((w.alloc (.cells #[.int .i64 fx, .int .i64 fy] 27)).alloc (.cells #[.int .i64 tx, .int .i64 ty] 27)) := ((G.rf _).a _).a _
  have b0 : Blk ((w.alloc (.cells #[.int .i64 fx, .int .i64 fy] 27)).alloc (.cells #[.int .i64 tx, .int .i64 ty] 27)) w.heap.size 27 #[.int .i64 fx, .int .i64 fy] := (Blk.new w _ _).alloc _
  have b1 : Blk ((w.alloc (.cells #[.int .i64 fx, .int .i64 fy] 27)).alloc (.cells #[.int .i64 tx, .int .i64 ty] 27)) (w.heap.size + 1) 27 #[.int .i64 tx, .int .i64 ty] := Blk.new1 w _ _ _
  have x1 : IntKind.i64.wrap ((tx : Int) - fx) = tx - fx := IntWalk.i64_in _ (by omega)
  have x2 : IntKind.i64.wrap ((ty : Int) - fy) = ty - fy := IntWalk.i64_in _ (by omega)
  have x3 : IntKind.i64.wrap (-((tx : Int) - fx)) = -((tx : Int) - fx) := IntWalk.i64_in _ (by omega)
  have x4 : IntKind.i64.wrap (-((ty : Int) - fy)) = -((ty : Int) - fy) := IntWalk.i64_in _ (by omega)
  obtain ⟨s1, s2, s3, s4, s5⟩ := steps_max fx fy tx ty
  have HM := Lib.hid (fun (W : World) => max4 _ _ _ _ _ W s1 s2 s3 s4 s5)
  have hn99 : stepsN fx fy tx ty ≤ 99 := by unfold stepsN dst; omega
  have HP : Hid (∀ w' v, w'.ownsRow w.heap.size 27 2 v (pbK fx fy tx ty (stepsN fx fy tx ty) (stepsN fx fy tx ty)).length (ptsV (pbK fx fy tx ty (stepsN fx fy tx ty) (stepsN fx fy tx ty))) → G w w' → PbPost w (pbK fx fy tx ty (stepsN fx fy tx ty) (stepsN fx fy tx ty)) (.returned v) w') := fun w' v a b => ⟨v, rfl, a, b⟩
  generalize PbPost w (pbK fx fy tx ty (stepsN fx fy tx ty) (stepsN fx fy tx ty)) = PP at *
  generalize stepsN fx fy tx ty = n at *
  clear s1 s2 s3 s4 s5
  go_enter Try.func34, Try.ntmps34
  go_wp2
  have c0 := b0.gw 0 rfl
  have c1 := b0.gw 1 rfl
  have d0 := b1.gw 0 rfl
  have d1 := b1.gw 1 rfl
  refine wp_region_quiet_G (by kernel_rfl) (by kernel_rfl) ?_
  repeat (quiet_step (fail))
  refine wpQuiet_nil ?_
  intro _ hw'
  obtain ⟨y, rfl⟩ := hw'
  clear c0 c1 d0 d1
  replace g0 := g0.t y.g
  replace b0 := b0.keep y.g
  replace b1 := b1.keep y.g
  generalize y.w = w1 at *
  clear y
  have c0 := b0.cell 0
  have c1 := b0.cell 1
  have l0 := b0.lt
  have HM1 := HM.out w1
  clear HM
  go_wp2
  clear HM1
  have b2 : Blk (w1.alloc (.cells #[.int .i64 (fx : Nat), .int .i64 (fy : Nat)] 27)) w1.heap.size 27 #[.int .i64 (fx : Nat), .int .i64 (fy : Nat)] := Blk.new _ _ _
  have hG1 : G w1 (w1.alloc (.cells #[.int .i64 (fx : Nat), .int .i64 (fy : Nat)] 27)) := (G.rf _).a _
  have hw1 := g0.size
  obtain ⟨n1, hn1⟩ : ∃ n1, n1 = w1.heap.size := ⟨_, rfl⟩
  rw [← hn1] at b2 hw1 ⊢
  clear c0 c1 l0
  generalize w1.alloc (.cells #[.int .i64 (fx : Nat), .int .i64 (fy : Nat)] 27) = W1 at *
  have hown : W1.ownsRow n1 27 2 (.slice (some ⟨n1, 0, none⟩) 1 1) (pbK fx fy tx ty n 0).length (ptsV (pbK fx fy tx ty n 0)) := own_pt b2
  have HN1 := Lib.hid hn1
  clear hn1
  have HOW := Lib.hid hown
  clear hown b2
  obtain ⟨i0, hi0, hz0, hz1, hz2⟩ := info_parts info27
  go_loopw [8, 30] (fun v i wr => ∃ k : Nat, k ≤ n ∧ i = .int .i64 k ∧ wr.ownsRow n1 27 2 v (pbK fx fy tx ty n k).length (ptsV (pbK fx fy tx ty n k)) ∧ G w1 wr) (fun _ i _ => n - (intOf i).toNat)
  case atStart => exact ⟨0, Nat.zero_le _, rfl, HOW.out, hG1⟩
  case round =>
    obtain ⟨k, hk, rfl, ho, hGr⟩ := hrel
    obtain ⟨wo, rfl⟩ : ∃ wo, wo = wr := ⟨_, rfl⟩
    have HO := Lib.hid ho
    clear ho
    by_cases hlt : k < n
    · have hki : (k : Int) < n := by omega
      have hsu := pbK_succ fx fy tx ty n k
      have hlk := pbK_len fx fy tx ty n k
      have HSU := Lib.hid hsu
      have HLK := Lib.hid hlk
      clear hsu hlk
      have HB1 := Lib.hid (fun (W : World) => lBetween_any fx tx (k + 1) n W (by omega) (by omega) (by omega) (by omega) (by omega))
      have HB2 := Lib.hid (fun (W : World) => lBetween_any fy ty (k + 1) n W (by omega) (by omega) (by omega) (by omega) (by omega))
      have x5 : IntKind.i64.wrap ((k : Int) + 1) = ((k + 1 : Nat) : Int) := by rw [IntWalk.i64_in _ (by omega)]; rfl
      have gw := g0.t hGr
      have q0 := b0.keep hGr
      have q1 := b1.keep hGr
      have hSk : ∀ W', G wo W' → W'.cell? ⟨w.heap.size, 0, none⟩ = some (.int .i64 (fx : Nat)) ∧ W'.cell? ⟨w.heap.size, 1, none⟩ = some (.int .i64 (fy : Nat)) ∧ W'.cell? ⟨w.heap.size + 1, 0, none⟩ = some (.int .i64 (tx : Nat)) ∧ W'.cell? ⟨w.heap.size + 1, 1, none⟩ = some (.int .i64 (ty : Nat)) := fun W' hW => ⟨(q0.keep hW).cell 0, (q0.keep hW).cell 1, (q1.keep hW).cell 0, (q1.keep hW).cell 1⟩
      go_wp2
      refine wp_region_Y (S := fun W' => W'.cell? ⟨w.heap.size, 0, none⟩ = some (.int .i64 (fx : Nat)) ∧ W'.cell? ⟨w.heap.size, 1, none⟩ = some (.int .i64 (fy : Nat)) ∧ W'.cell? ⟨w.heap.size + 1, 0, none⟩ = some (.int .i64 (tx : Nat)) ∧ W'.cell? ⟨w.heap.size + 1, 1, none⟩ = some (.int .i64 (ty : Nat))) 19 21 rfl (by kernel_rfl) (hSk _ (G.rf _).d) (fun hS => ?_)
      refine wpAnyY_take (i := 0) (v := ?_) rfl (by kernel_rfl) (by kernel_rfl) (by kernel_rfl) (by kernel_rfl) (fun _ _ _ h => h) (Or.inl ⟨by kernel_rfl, ?_⟩) hS ?_
      rotate_left
      · intro w' hSw; go_simp; with_reducible rfl
      try simp only [Act.put, List.setIfInBounds_toArray, List.set_cons_zero, List.set_cons_succ]
      refine wpAnyY_take (i := 1) (v := ?_) rfl (by kernel_rfl) (by kernel_rfl) (by kernel_rfl) (by kernel_rfl) (fun _ _ _ h => h) (Or.inl ⟨by kernel_rfl, ?_⟩) hS ?_
      rotate_left
      · intro w' hSw; go_simp; with_reducible rfl
      try simp only [Act.put, List.setIfInBounds_toArray, List.set_cons_zero, List.set_cons_succ]
      refine wpAnyY_take (i := 2) (v := ?_) rfl (by kernel_rfl) (by kernel_rfl) (by kernel_rfl) (by kernel_rfl) (fun _ _ _ h => h) (Or.inl ⟨by kernel_rfl, ?_⟩) hS ?_
      rotate_left
      · intro w' hSw; obtain ⟨y0, y1, y2, y3⟩ := hSw; go_simp; with_reducible rfl
      try simp only [Act.put, List.setIfInBounds_toArray, List.set_cons_zero, List.set_cons_succ]
      refine wpAnyY_take (i := 3) (v := ?_) rfl (by kernel_rfl) (by kernel_rfl) (by kernel_rfl) (by kernel_rfl) (fun _ _ _ h => h) (Or.inl ⟨by kernel_rfl, ?_⟩) hS ?_
      rotate_left
      · intro w' hSw; go_simp; with_reducible rfl
      try simp only [Act.put, List.setIfInBounds_toArray, List.set_cons_zero, List.set_cons_succ]
      refine wpAnyY_take (i := 4) (v := ?_) rfl (by kernel_rfl) (by kernel_rfl) (by kernel_rfl) (by kernel_rfl) (fun _ _ _ h => h) (Or.inl ⟨by kernel_rfl, ?_⟩) hS ?_
      rotate_left
      · intro w' hSw; obtain ⟨y0, y1, y2, y3⟩ := hSw; go_simp; with_reducible rfl
      try simp only [Act.put, List.setIfInBounds_toArray, List.set_cons_zero, List.set_cons_succ]
      refine wpAnyY_take (i := 5) (v := ?_) rfl (by kernel_rfl) (by kernel_rfl) (by kernel_rfl) (by kernel_rfl) (fun _ _ _ h => h) (Or.inl ⟨by kernel_rfl, ?_⟩) hS ?_
      rotate_left
      · intro w' hSw; go_simp; with_reducible rfl
      try simp only [Act.put, List.setIfInBounds_toArray, List.set_cons_zero, List.set_cons_succ]
      refine wpAnyY_take (i := 6) (v := ?_) rfl (by kernel_rfl) (by kernel_rfl) (by kernel_rfl) (by kernel_rfl) (fun _ _ _ h => h) (Or.inl ⟨by kernel_rfl, ?_⟩) hS ?_
      rotate_left
      · intro w' hSw; go_simp; with_reducible rfl
      try simp only [Act.put, List.setIfInBounds_toArray, List.set_cons_zero, List.set_cons_succ]
      refine wpAnyY_take (i := 7) (v := ?_) rfl (by kernel_rfl) (by kernel_rfl) (by kernel_rfl) (by kernel_rfl) (fun _ _ _ h => h) (Or.inl ⟨by kernel_rfl, ?_⟩) hS ?_
      rotate_left
      · intro w' hSw; go_simp; with_reducible rfl
      try simp only [Act.put, List.setIfInBounds_toArray, List.set_cons_zero, List.set_cons_succ]
      refine wpAnyY_take (i := 9) (v := ?_) rfl (by kernel_rfl) (by kernel_rfl) (by kernel_rfl) (by kernel_rfl) (fun _ _ _ h => h) (Or.inl ⟨by kernel_rfl, ?_⟩) hS ?_
      rotate_left
      · intro w' hSw; go_simp; with_reducible rfl
      try simp only [Act.put, List.setIfInBounds_toArray, List.set_cons_zero, List.set_cons_succ]
      refine wpAnyY_take (i := 10) (v := ?_) rfl (by kernel_rfl) (by kernel_rfl) (by kernel_rfl) (by kernel_rfl) (fun _ _ _ h => h) (Or.inl ⟨by kernel_rfl, ?_⟩) hS ?_
      rotate_left
      · intro w' hSw; obtain ⟨y0, y1, y2, y3⟩ := hSw; go_simp; with_reducible rfl
      try simp only [Act.put, List.setIfInBounds_toArray, List.set_cons_zero, List.set_cons_succ]
      refine wpAnyY_take (i := 11) (v := ?_) rfl (by kernel_rfl) (by kernel_rfl) (by kernel_rfl) (by kernel_rfl) (fun _ _ _ h => h) (Or.inl ⟨by kernel_rfl, ?_⟩) hS ?_
      rotate_left
      · intro w' hSw; go_simp; with_reducible rfl
      try simp only [Act.put, List.setIfInBounds_toArray, List.set_cons_zero, List.set_cons_succ]
      refine wpAnyY_take (i := 12) (v := ?_) rfl (by kernel_rfl) (by kernel_rfl) (by kernel_rfl) (by kernel_rfl) (fun _ _ _ h => h) (Or.inl ⟨by kernel_rfl, ?_⟩) hS ?_
      rotate_left
      · intro w' hSw; obtain ⟨y0, y1, y2, y3⟩ := hSw; go_simp; with_reducible rfl
      try simp only [Act.put, List.setIfInBounds_toArray, List.set_cons_zero, List.set_cons_succ]
      refine wpAnyY_take (i := 13) (v := ?_) rfl (by kernel_rfl) (by kernel_rfl) (by kernel_rfl) (by kernel_rfl) (fun _ _ _ h => h) (Or.inl ⟨by kernel_rfl, ?_⟩) hS ?_
      rotate_left
      · intro w' hSw; go_simp; with_reducible rfl
      try simp only [Act.put, List.setIfInBounds_toArray, List.set_cons_zero, List.set_cons_succ]
      refine wpAnyY_take (i := 14) (v := ?_) rfl (by kernel_rfl) (by kernel_rfl) (by kernel_rfl) (by kernel_rfl) (fun _ _ _ h => h) (Or.inl ⟨by kernel_rfl, ?_⟩) hS ?_
      rotate_left
      · intro w' hSw; go_simp; with_reducible rfl
      try simp only [Act.put, List.setIfInBounds_toArray, List.set_cons_zero, List.set_cons_succ]
      refine wpAnyY_take (i := 15) (v := ?_) rfl (by kernel_rfl) (by kernel_rfl) (by kernel_rfl) (by kernel_rfl) (fun _ _ _ h => h) (Or.inl ⟨by kernel_rfl, ?_⟩) hS ?_
      rotate_left
      · intro w' hSw; go_simp; with_reducible rfl
      try simp only [Act.put, List.setIfInBounds_toArray, List.set_cons_zero, List.set_cons_succ]
      refine wpAnyY_oneSW (i := 8) (by kernel_rfl) rfl (by kernel_rfl) (fun K8 hK8 => ?_)
      go_simp
      refine (HB1.out _).mono ?_
      rintro e w3 ⟨rfl, hG3⟩
      have g3 : G wo w3 := (G.rf _).d.t hG3
      refine hK8.out _ _ (hSk _ g3) (fun hS => ?_)
      try simp only [Act.put, List.setIfInBounds_toArray, List.set_cons_zero, List.set_cons_succ]
      refine wpAnyY_oneSW (i := 16) (by kernel_rfl) rfl (by kernel_rfl) (fun K16 hK16 => ?_)
      go_simp
      refine (HB2.out _).mono ?_
      rintro e w4 ⟨rfl, hG4⟩
      have g4 : G wo w4 := g3.t hG4
      refine hK16.out _ _ (hSk _ g4) (fun hS => ?_)
      try simp only [Act.put, List.setIfInBounds_toArray, List.set_cons_zero, List.set_cons_succ]
      refine wpAnyY_take (i := 17) (v := ?_) rfl (by kernel_rfl) (by kernel_rfl) (by kernel_rfl) (by kernel_rfl) (fun _ _ _ h => h) (Or.inl ⟨by kernel_rfl, ?_⟩) hS ?_
      rotate_left
      · intro w' hSw; go_simp; with_reducible rfl
      try simp only [Act.put, List.setIfInBounds_toArray, List.set_cons_zero, List.set_cons_succ]
      refine wpAnyY_oneSW (i := 18) (by kernel_rfl) rfl (by kernel_rfl) (fun K18 hK18 => ?_)
      go_simp
      refine hK18.out _ _ (hSk _ (g4.a _)) (fun hS => ?_)
      try simp only [Act.put, List.setIfInBounds_toArray, List.set_cons_zero, List.set_cons_succ]
      have g5 : G wo (w4.alloc (.cells #[.int .i64 (btw fx tx (k + 1) n : Nat), .int .i64 (btw fy ty (k + 1) n : Nat)] 27)) := g4.a _
      refine wpAnyY_oneW (i := 19) (by kernel_rfl) rfl (by kernel_rfl) (by kernel_rfl) (fun K19 hK19 => ?_)
      refine wp_append_own _ _ _ 28 rfl n1 27 i0 _ 2 16 Try.underlying28 hi0 hz0 hz1 hz2 rfl (by decide) _ _ _ rfl (own_G HO.out g5) ⟨w4.heap.size, 0, none⟩ 1 1 [.int .i64 (btw fx tx (k + 1) n : Nat), .int .i64 (btw fy ty (k + 1) n : Nat)] rfl rfl (cells_two (Blk.new _ _ _)) (by simp [Value.oneCell']) (by rw [HLK.out]; unfold maxLen; omega) (by rw [HLK.out]; omega) (by rw [HN1.out]; exact (hGr.t g5).size) ?_
      intro v9 w9 hown9 hg9 _
      have gz : G w1 w9 := grow_own (hGr.t g5) (own_G HO.out g5) (Nat.le_of_eq HN1.out.symm) hg9
      have HN := Lib.hid hown9
      clear hown9 hg9 hS
      refine hK19.out _ _ ?_
      try simp only [Act.put, List.setIfInBounds_toArray, List.set_cons_zero, List.set_cons_succ]
      refine wpAnyY_oneW (i := 20) (by kernel_rfl) rfl (by kernel_rfl) (by kernel_rfl) (fun K20 hK20 => ?_)
      go_simp
      refine hK20.out _ _ ?_
      try simp only [Act.put, List.setIfInBounds_toArray, List.set_cons_zero, List.set_cons_succ]
      refine wpAnyY_done (by kernel_rfl) ?_ _
      clear hK8 hK16 hK18 hK19 hK20 hSk
      go_wp2
      go_roundw
      case rel => exact ⟨k + 1, by omega, by go_num, by rw [HSU.out, ptsV_snoc, List.length_append]; exact HN.out, gz⟩
      case measure => simp [intOf]; omega
    · have hki : ¬ (k : Int) < n := by omega
      obtain rfl : k = n := by omega
      have HF := Lib.hid (HP.out wo _ (own_weaken HO.out hw1) (g0.t hGr))
      go_wp2
      exact HF.out
end Go.Proofs.Ytcekdljjmfkacaa
