import Derived.Test.YtcekdljjmfkacaaQh
import Derived.Test.YtcekdljjmfkacaaOl
import Derived.Test.YtcekdljjmfkacaaOu
set_option linter.unusedSimpArgs false
set_option linter.unusedVariables false
namespace Go.Proofs.Ytcekdljjmfkacaa
open Go.RowKit Go.Shelf
attribute [local go_sem] Oper.semAt_some wide_fn wide_dep wideR_fn wideR_dep
theorem flat2q_len (f g : Nat → Value) : ∀ n, ((List.range n).flatMap fun q => [f q, g q]).length = n * 2 := by
  intro n
  induction n with
  | zero => rfl
  | succ n ih =>
    rw [List.range_succ, List.flatMap_append, List.length_append, ih]
    show n * 2 + 2 = (n + 1) * 2
    omega
theorem flat2q_succ (f g : Nat → Value) (n : Nat) : ((List.range (n + 1)).flatMap fun q => [f q, g q]) = ((List.range n).flatMap fun q => [f q, g q]) ++ [f n, g n] := by
  rw [List.range_succ, List.flatMap_append]
  rfl
theorem flat2q_get (f g : Nat → Value) : ∀ n k, k < n → ((List.range n).flatMap fun q => [f q, g q])[k * 2]? = some (f k) ∧ ((List.range n).flatMap fun q => [f q, g q])[k * 2 + 1]? = some (g k) := by
  intro n
  induction n with
  | zero => intro k hk; omega
  | succ n ih =>
    intro k hk
    rw [flat2q_succ]
    have hl := flat2q_len f g n
    rcases Nat.lt_or_ge k n with h | h
    · obtain ⟨i1, i2⟩ := ih k h
      rw [List.getElem?_append_left (by omega), List.getElem?_append_left (by omega)]
      exact ⟨i1, i2⟩
    · obtain rfl : k = n := by omega
      rw [List.getElem?_append_right (by omega), List.getElem?_append_right (by omega), hl, Nat.sub_self, show k * 2 + 1 - k * 2 = 1 by omega]
      exact ⟨rfl, rfl⟩
/-- the reference's spans of the places of a way -/
def plo (ln : Nat → Nat) (sh m q : Nat) : Value := .int .i64 ((m + farS ln q / sh : Nat) : Int)
def phi (ln : Nat → Nat) (N sl m q : Nat) : Value := .int .i64 ((m + (farS ln (min (q + 1) (N - 1)) + sl - 1) / sl : Nat) : Int)
def pvL (ln : Nat → Nat) (N sl sh m k : Nat) : List Value := (List.range k).flatMap fun q => [plo ln sh m q, phi ln N sl m q]
def SpPost (w : World) (L : List Value) (N : Nat) (e : Ending) (w' : World) : Prop := ∃ v, e = .returned v ∧ w'.ownsRow w.heap.size 30 2 v N L ∧ G w w'
set_option maxRecDepth 100000 in
set_option maxHeartbeats 8000000 in
theorem refPasses_walk (i m sl sh N : Nat) (REL : Array Value) (ln : Nat → Nat) (w : World) (hIs : IsRel REL) (h9 : REL[9]? = some (.int .i64 (sl : Nat))) (h10 : REL[10]? = some (.int .i64 (sh : Nat))) (hsl : 1 ≤ sl ∧ sl ≤ 3000000) (hsh : 1 ≤ sh ∧ sh ≤ 3000000) (hm : m ≤ 1000000) (hN : 1 ≤ N ∧ N ≤ 100) (hln : ∀ j, j < N → farS ln j ≤ 100000000000)
    (hF : ∀ W, G w W → Calls Try.prog 57 #[.agg REL, .int .i64 (i : Nat)] W (FarPost W ln N)) :
    Calls Try.prog 53 #[.agg REL, .int .i64 (i : Nat), .int .i64 (m : Nat)] w (SpPost w (pvL ln N sl sh m N) N) := by
  have HIS := Lib.hid hIs
  have HFR := Lib.hid hF
  have HFB := Lib.hid hln
  clear hF hln hIs
  have HPP : Hid (∀ w' v, w'.ownsRow w.heap.size 30 2 v N (pvL ln N sl sh m N) → G w w' → SpPost w (pvL ln N sl sh m N) N (.returned v) w') := fun w' v a b => ⟨v, rfl, a, b⟩
  generalize SpPost w (pvL ln N sl sh m N) N = PP at *
  have g0 : G w (w.alloc (.cells REL 35)) := (G.rf _).a _
  have b0 : Blk (w.alloc (.cells REL 35)) w.heap.size 35 REL := Blk.new w 35 REL
  obtain ⟨i0, hi0, hz0, hz1, hz2⟩ := info_parts info30
  go_enter Try.func53, Try.ntmps53
  go_upto_region 1 with fail
  change Code.wp _ _ _ _ (w.alloc (.cells REL 35))
  generalize w.alloc (.cells REL 35) = w1 at *
  refine wp_region_lit ?_
  refine wpList_load35 w.heap.size 3 HIS.out rfl rfl rfl b0 ?_
  try simp only [Act.put, List.getElem_toArray, List.getElem_cons_zero, List.getElem_cons_succ, List.setIfInBounds_toArray, List.set_cons_zero, List.set_cons_succ]
  go_wp2_with (go_at_call 57; refine (HFR.out _ g0).mono ?_; rintro e wa ⟨vA, rfl, hownA, hGa⟩; obtain ⟨gA, capA, curA, rfl, hbA, hgA, htA⟩ := own_some hownA (by omega))
  replace b0 := b0.keep hGa
  replace g0 := g0.t hGa
  have hfar : ∀ k, k < N → wa.cell? ⟨gA, k, none⟩ = some (.int .i64 (farS ln k : Nat)) := fun k hk => take_cell hbA htA (by omega) (farV_get ln hk)
  have HFA := Lib.hid hfar
  clear hfar hownA hbA htA hGa HFR
  go_loopw [8, 9, 10] (fun v i u10 wr => ∃ q : Nat, q ≤ N ∧ i = .int .i64 q ∧ wr.ownsRow wa.heap.size 30 2 v q (pvL ln N sl sh m q) ∧ G wa wr) (fun _ i _ _ => N - (intOf i).toNat)
  case atStart => exact ⟨0, Nat.zero_le _, rfl, World.ownsRow_nil _ _ _ _, G.rf _⟩
  case round =>
    obtain ⟨q, hq, rfl, ho, hGr⟩ := hrel
    obtain ⟨wo, rfl⟩ : ∃ wo, wo = wr := ⟨_, rfl⟩
    have HO := Lib.hid ho
    clear ho
    have gw := g0.t hGr
    by_cases hlt : q < N
    · have hqi : (q : Int) < N := by omega
      obtain ⟨j, hj, hjl⟩ : ∃ j, j = min (q + 1) (N - 1) ∧ j < N := ⟨_, rfl, by omega⟩
      have c0 := ((bcellB hGr).1 gA _ hgA).trans (HFA.out q hlt)
      have c1 := ((bcellB hGr).1 gA _ hgA).trans (HFA.out j hjl)
      have f0 := HFB.out q hlt
      have f1 := HFB.out j hjl
      have hsv : pvL ln N sl sh m (q + 1) = pvL ln N sl sh m q ++ [.int .i64 ((m + farS ln q / sh : Nat) : Int), .int .i64 ((m + (farS ln j + sl - 1) / sl : Nat) : Int)] := by
        rw [hj]; exact flat2q_succ (plo ln sh m) (phi ln N sl m) q
      obtain ⟨fr, hfr⟩ : ∃ fr, fr = farS ln q := ⟨_, rfl⟩
      obtain ⟨nx, hnx⟩ : ∃ nx, nx = farS ln j := ⟨_, rfl⟩
      rw [← hfr] at c0 f0 hsv
      rw [← hnx] at c1 f1 hsv
      have xj : min ((q : Int) + 1) ((N : Int) - 1) = (j : Nat) := by omega
      have x1 : IntKind.i64.wrap ((q : Int) + 1) = (q : Int) + 1 := IntWalk.i64_in _ (by omega)
      have x2 : IntKind.i64.wrap ((N : Int) - 1) = (N : Int) - 1 := IntWalk.i64_in _ (by omega)
      have hji : (j : Int) < N := by omega
      have d1 : fr / sh ≤ fr := Nat.div_le_self _ _
      have d2 : (nx + sl - 1) / sl ≤ nx + sl - 1 := Nat.div_le_self _ _
      obtain ⟨u0, hu0⟩ : ∃ u0, u0 = fr / sh := ⟨_, rfl⟩
      obtain ⟨u1, hu1⟩ : ∃ u1, u1 = nx + sl := ⟨_, rfl⟩
      obtain ⟨u2, hu2⟩ : ∃ u2, u2 = nx + sl - 1 := ⟨_, rfl⟩
      obtain ⟨u3, hu3⟩ : ∃ u3, u3 = (nx + sl - 1) / sl := ⟨_, rfl⟩
      obtain ⟨LO, hLO⟩ : ∃ LO, LO = m + fr / sh := ⟨_, rfl⟩
      obtain ⟨HI, hHI⟩ : ∃ HI, HI = m + (nx + sl - 1) / sl := ⟨_, rfl⟩
      rw [← hLO, ← hHI] at hsv
      have y0 : IntKind.i64.wrap ((fr : Int) / sh) = ((u0 : Nat) : Int) := by rw [hu0]; exact wrap_div2 _ _ (by omega)
      have y1 : IntKind.i64.wrap ((nx : Int) + sl) = ((u1 : Nat) : Int) := by rw [IntWalk.i64_in _ (by omega), hu1]; rfl
      have y2 : IntKind.i64.wrap ((u1 : Int) - 1) = ((u2 : Nat) : Int) := by rw [IntWalk.i64_in _ (by omega)]; omega
      have y3 : IntKind.i64.wrap ((u2 : Int) / sl) = ((u3 : Nat) : Int) := by rw [hu3, ← hu2]; exact wrap_div2 _ _ (by omega)
      have y4 : IntKind.i64.wrap ((m : Int) + u0) = ((LO : Nat) : Int) := by rw [IntWalk.i64_in _ (by omega), hLO, ← hu0]; rfl
      have y5 : IntKind.i64.wrap ((m : Int) + u3) = ((HI : Nat) : Int) := by rw [IntWalk.i64_in _ (by omega), hHI, ← hu3]; rfl
      have hsh0 : ((sh : Int) == 0) = false := by simp; omega
      have hsl0 : ((sl : Int) == 0) = false := by simp; omega
      have hsh1 : ¬ sh = 0 := by omega
      have hsl1 : ¬ sl = 0 := by omega
      have HSV := Lib.hid hsv
      clear hsv hfr hnx hu0 hu1 hu2 hu3 hLO hHI hj d1 d2 HFA HFB
      have k0 := b0.keep hGr
      have lA := Nat.lt_of_lt_of_le hgA hGr.size
      have hSk : ∀ W', G wo W' → (Blk W' w.heap.size 35 REL ∧ W'.cell? ⟨gA, q, none⟩ = some (.int .i64 (fr : Nat))) := fun W' h => ⟨k0.keep h, ((bcellB h).1 gA _ lA).trans c0⟩
      clear c0
      go_wp2_with fail
      clear c1
      refine wp_region_Y (S := fun W' => Blk W' w.heap.size 35 REL ∧ W'.cell? ⟨gA, q, none⟩ = some (.int .i64 (fr : Nat))) 25 27 rfl (by kernel_rfl) (hSk _ (G.rf _).d) (fun hS => ?_)
      refine wpAnyY_take (i := 0) (v := ?_) rfl (by kernel_rfl) (by kernel_rfl) (by kernel_rfl) (by kernel_rfl) (fun _ _ _ h => h) (Or.inl ⟨by kernel_rfl, ?_⟩) hS ?_
      rotate_left
      · intro w' hSw; go_simp; with_reducible rfl
      try simp only [Act.put, List.getElem_toArray, List.getElem_cons_zero, List.getElem_cons_succ, List.setIfInBounds_toArray, List.set_cons_zero, List.set_cons_succ]
      refine wpAnyY_take (i := 1) (v := ?_) rfl (by kernel_rfl) (by kernel_rfl) (by kernel_rfl) (by kernel_rfl) (fun _ _ _ h => h) (Or.inl ⟨by kernel_rfl, ?_⟩) hS ?_
      rotate_left
      · intro w' hSw; go_simp; with_reducible rfl
      try simp only [Act.put, List.getElem_toArray, List.getElem_cons_zero, List.getElem_cons_succ, List.setIfInBounds_toArray, List.set_cons_zero, List.set_cons_succ]
      refine wpAnyY_take (i := 2) (v := ?_) rfl (by kernel_rfl) (by kernel_rfl) (by kernel_rfl) (by kernel_rfl) (fun _ _ _ h => h) (Or.inl ⟨by kernel_rfl, ?_⟩) hS ?_
      rotate_left
      · intro w' hSw; go_simp; with_reducible rfl
      try simp only [Act.put, List.getElem_toArray, List.getElem_cons_zero, List.getElem_cons_succ, List.setIfInBounds_toArray, List.set_cons_zero, List.set_cons_succ]
      refine wpAnyY_take (i := 3) (v := ?_) rfl (by kernel_rfl) (by kernel_rfl) (by kernel_rfl) (by kernel_rfl) (fun _ _ _ h => h) (Or.inl ⟨by kernel_rfl, ?_⟩) hS ?_
      rotate_left
      · intro w' hSw; go_simp; with_reducible rfl
      try simp only [Act.put, List.getElem_toArray, List.getElem_cons_zero, List.getElem_cons_succ, List.setIfInBounds_toArray, List.set_cons_zero, List.set_cons_succ]
      refine wpAnyY_take (i := 4) (v := ?_) rfl (by kernel_rfl) (by kernel_rfl) (by kernel_rfl) (by kernel_rfl) (fun _ _ _ h => h) (Or.inl ⟨by kernel_rfl, ?_⟩) hS ?_
      rotate_left
      · intro w' hSw; go_simp; with_reducible rfl
      try simp only [Act.put, List.getElem_toArray, List.getElem_cons_zero, List.getElem_cons_succ, List.setIfInBounds_toArray, List.set_cons_zero, List.set_cons_succ]
      refine wpAnyY_take (i := 5) (v := ?_) rfl (by kernel_rfl) (by kernel_rfl) (by kernel_rfl) (by kernel_rfl) (fun _ _ _ h => h) (Or.inl ⟨by kernel_rfl, ?_⟩) hS ?_
      rotate_left
      · intro w' hSw; have e := hSw.2; go_simp; with_reducible rfl
      try simp only [Act.put, List.getElem_toArray, List.getElem_cons_zero, List.getElem_cons_succ, List.setIfInBounds_toArray, List.set_cons_zero, List.set_cons_succ]
      refine wpAnyY_take (i := 6) (v := ?_) rfl (by kernel_rfl) (by kernel_rfl) (by kernel_rfl) (by kernel_rfl) (fun _ _ _ h => h) (Or.inl ⟨by kernel_rfl, ?_⟩) hS ?_
      rotate_left
      · intro w' hSw; go_simp; with_reducible rfl
      try simp only [Act.put, List.getElem_toArray, List.getElem_cons_zero, List.getElem_cons_succ, List.setIfInBounds_toArray, List.set_cons_zero, List.set_cons_succ]
      refine wpAnyY_take (i := 7) (v := ?_) rfl (by kernel_rfl) (by kernel_rfl) (by kernel_rfl) (by kernel_rfl) (fun _ _ _ h => h) (Or.inl ⟨by kernel_rfl, ?_⟩) hS ?_
      rotate_left
      · intro w' hSw; go_simp; with_reducible rfl
      try simp only [Act.put, List.getElem_toArray, List.getElem_cons_zero, List.getElem_cons_succ, List.setIfInBounds_toArray, List.set_cons_zero, List.set_cons_succ]
      refine wpAnyY_take (i := 8) (v := ?_) rfl (by kernel_rfl) (by kernel_rfl) (by kernel_rfl) (by kernel_rfl) (fun _ _ _ h => h) (Or.inl ⟨by kernel_rfl, ?_⟩) hS ?_
      rotate_left
      · intro w' hSw; have e := (hSw.1.cell 10).trans h10; have lb := hSw.1.lt; go_simp; with_reducible rfl
      try simp only [Act.put, List.getElem_toArray, List.getElem_cons_zero, List.getElem_cons_succ, List.setIfInBounds_toArray, List.set_cons_zero, List.set_cons_succ]
      refine wpAnyY_take (i := 9) (v := ?_) rfl (by kernel_rfl) (by kernel_rfl) (by kernel_rfl) (by kernel_rfl) (fun _ _ _ h => h) (Or.inl ⟨by kernel_rfl, ?_⟩) hS ?_
      rotate_left
      · intro w' hSw; go_simp; with_reducible rfl
      try simp only [Act.put, List.getElem_toArray, List.getElem_cons_zero, List.getElem_cons_succ, List.setIfInBounds_toArray, List.set_cons_zero, List.set_cons_succ]
      refine wpAnyY_take (i := 10) (v := ?_) rfl (by kernel_rfl) (by kernel_rfl) (by kernel_rfl) (by kernel_rfl) (fun _ _ _ h => h) (Or.inl ⟨by kernel_rfl, ?_⟩) hS ?_
      rotate_left
      · intro w' hSw; go_simp; with_reducible rfl
      try simp only [Act.put, List.getElem_toArray, List.getElem_cons_zero, List.getElem_cons_succ, List.setIfInBounds_toArray, List.set_cons_zero, List.set_cons_succ]
      refine wpAnyY_take (i := 11) (v := ?_) rfl (by kernel_rfl) (by kernel_rfl) (by kernel_rfl) (by kernel_rfl) (fun _ _ _ h => h) (Or.inl ⟨by kernel_rfl, ?_⟩) hS ?_
      rotate_left
      · intro w' hSw; go_simp; with_reducible rfl
      try simp only [Act.put, List.getElem_toArray, List.getElem_cons_zero, List.getElem_cons_succ, List.setIfInBounds_toArray, List.set_cons_zero, List.set_cons_succ]
      refine wpAnyY_take (i := 12) (v := ?_) rfl (by kernel_rfl) (by kernel_rfl) (by kernel_rfl) (by kernel_rfl) (fun _ _ _ h => h) (Or.inl ⟨by kernel_rfl, ?_⟩) hS ?_
      rotate_left
      · intro w' hSw; go_simp; with_reducible rfl
      try simp only [Act.put, List.getElem_toArray, List.getElem_cons_zero, List.getElem_cons_succ, List.setIfInBounds_toArray, List.set_cons_zero, List.set_cons_succ]
      refine wpAnyY_take (i := 13) (v := ?_) rfl (by kernel_rfl) (by kernel_rfl) (by kernel_rfl) (by kernel_rfl) (fun _ _ _ h => h) (Or.inl ⟨by kernel_rfl, ?_⟩) hS ?_
      rotate_left
      · intro w' hSw; go_simp; with_reducible rfl
      try simp only [Act.put, List.getElem_toArray, List.getElem_cons_zero, List.getElem_cons_succ, List.setIfInBounds_toArray, List.set_cons_zero, List.set_cons_succ]
      refine wpAnyY_take (i := 14) (v := ?_) rfl (by kernel_rfl) (by kernel_rfl) (by kernel_rfl) (by kernel_rfl) (fun _ _ _ h => h) (Or.inl ⟨by kernel_rfl, ?_⟩) hS ?_
      rotate_left
      · intro w' hSw; go_simp; with_reducible rfl
      try simp only [Act.put, List.getElem_toArray, List.getElem_cons_zero, List.getElem_cons_succ, List.setIfInBounds_toArray, List.set_cons_zero, List.set_cons_succ]
      refine wpAnyY_take (i := 15) (v := ?_) rfl (by kernel_rfl) (by kernel_rfl) (by kernel_rfl) (by kernel_rfl) (fun _ _ _ h => h) (Or.inl ⟨by kernel_rfl, ?_⟩) hS ?_
      rotate_left
      · intro w' hSw; have e := (hSw.1.cell 9).trans h9; have lb := hSw.1.lt; go_simp; with_reducible rfl
      try simp only [Act.put, List.getElem_toArray, List.getElem_cons_zero, List.getElem_cons_succ, List.setIfInBounds_toArray, List.set_cons_zero, List.set_cons_succ]
      refine wpAnyY_take (i := 16) (v := ?_) rfl (by kernel_rfl) (by kernel_rfl) (by kernel_rfl) (by kernel_rfl) (fun _ _ _ h => h) (Or.inl ⟨by kernel_rfl, ?_⟩) hS ?_
      rotate_left
      · intro w' hSw; go_simp; with_reducible rfl
      try simp only [Act.put, List.getElem_toArray, List.getElem_cons_zero, List.getElem_cons_succ, List.setIfInBounds_toArray, List.set_cons_zero, List.set_cons_succ]
      refine wpAnyY_take (i := 17) (v := ?_) rfl (by kernel_rfl) (by kernel_rfl) (by kernel_rfl) (by kernel_rfl) (fun _ _ _ h => h) (Or.inl ⟨by kernel_rfl, ?_⟩) hS ?_
      rotate_left
      · intro w' hSw; go_simp; with_reducible rfl
      try simp only [Act.put, List.getElem_toArray, List.getElem_cons_zero, List.getElem_cons_succ, List.setIfInBounds_toArray, List.set_cons_zero, List.set_cons_succ]
      refine wpAnyY_take (i := 18) (v := ?_) rfl (by kernel_rfl) (by kernel_rfl) (by kernel_rfl) (by kernel_rfl) (fun _ _ _ h => h) (Or.inl ⟨by kernel_rfl, ?_⟩) hS ?_
      rotate_left
      · intro w' hSw; go_simp; with_reducible rfl
      try simp only [Act.put, List.getElem_toArray, List.getElem_cons_zero, List.getElem_cons_succ, List.setIfInBounds_toArray, List.set_cons_zero, List.set_cons_succ]
      refine wpAnyY_take (i := 19) (v := ?_) rfl (by kernel_rfl) (by kernel_rfl) (by kernel_rfl) (by kernel_rfl) (fun _ _ _ h => h) (Or.inl ⟨by kernel_rfl, ?_⟩) hS ?_
      rotate_left
      · intro w' hSw; go_simp; with_reducible rfl
      try simp only [Act.put, List.getElem_toArray, List.getElem_cons_zero, List.getElem_cons_succ, List.setIfInBounds_toArray, List.set_cons_zero, List.set_cons_succ]
      refine wpAnyY_take (i := 20) (v := ?_) rfl (by kernel_rfl) (by kernel_rfl) (by kernel_rfl) (by kernel_rfl) (fun _ _ _ h => h) (Or.inl ⟨by kernel_rfl, ?_⟩) hS ?_
      rotate_left
      · intro w' hSw; have e := (hSw.1.cell 9).trans h9; have lb := hSw.1.lt; go_simp; with_reducible rfl
      try simp only [Act.put, List.getElem_toArray, List.getElem_cons_zero, List.getElem_cons_succ, List.setIfInBounds_toArray, List.set_cons_zero, List.set_cons_succ]
      refine wpAnyY_take (i := 21) (v := ?_) rfl (by kernel_rfl) (by kernel_rfl) (by kernel_rfl) (by kernel_rfl) (fun _ _ _ h => h) (Or.inl ⟨by kernel_rfl, ?_⟩) hS ?_
      rotate_left
      · intro w' hSw; go_simp; with_reducible rfl
      try simp only [Act.put, List.getElem_toArray, List.getElem_cons_zero, List.getElem_cons_succ, List.setIfInBounds_toArray, List.set_cons_zero, List.set_cons_succ]
      refine wpAnyY_take (i := 22) (v := ?_) rfl (by kernel_rfl) (by kernel_rfl) (by kernel_rfl) (by kernel_rfl) (fun _ _ _ h => h) (Or.inl ⟨by kernel_rfl, ?_⟩) hS ?_
      rotate_left
      · intro w' hSw; go_simp; with_reducible rfl
      try simp only [Act.put, List.getElem_toArray, List.getElem_cons_zero, List.getElem_cons_succ, List.setIfInBounds_toArray, List.set_cons_zero, List.set_cons_succ]
      refine wpAnyY_take (i := 23) (v := ?_) rfl (by kernel_rfl) (by kernel_rfl) (by kernel_rfl) (by kernel_rfl) (fun _ _ _ h => h) (Or.inl ⟨by kernel_rfl, ?_⟩) hS ?_
      rotate_left
      · intro w' hSw; go_simp; with_reducible rfl
      try simp only [Act.put, List.getElem_toArray, List.getElem_cons_zero, List.getElem_cons_succ, List.setIfInBounds_toArray, List.set_cons_zero, List.set_cons_succ]
      refine wpAnyY_oneSW (i := 24) (by kernel_rfl) rfl (by kernel_rfl) (fun K24 hK24 => ?_)
      go_simp
      have g5 : G wo ((wo.alloc (.cells #[.int .i64 (LO : Nat), .int .i64 (HI : Nat)] 30)).drew) := ((G.rf wo).a _).d
      have b5 : Blk ((wo.alloc (.cells #[.int .i64 (LO : Nat), .int .i64 (HI : Nat)] 30)).drew) wo.heap.size 30 #[.int .i64 (LO : Nat), .int .i64 (HI : Nat)] := (Blk.new wo 30 _).keep (G.rf _).d
      refine hK24.out _ _ (hSk _ g5) (fun hS => ?_)
      try simp only [Act.put, List.getElem_toArray, List.getElem_cons_zero, List.getElem_cons_succ, List.setIfInBounds_toArray, List.set_cons_zero, List.set_cons_succ]
      refine wpAnyY_oneW (i := 25) (by kernel_rfl) rfl (by kernel_rfl) (by kernel_rfl) (fun K25 hK25 => ?_)
      refine wp_append_own _ _ _ 44 rfl wa.heap.size 30 i0 _ 2 16 Try.underlying44 hi0 hz0 hz1 hz2 rfl (by decide) _ q _ rfl (own_G HO.out g5) ⟨wo.heap.size, 0, none⟩ 1 1 [.int .i64 (LO : Nat), .int .i64 (HI : Nat)] rfl rfl (cells_two b5) (by simp [Value.oneCell']) (by unfold maxLen; omega) (by omega) (Nat.le_trans hGr.size g5.size) ?_
      intro v9 w9 hown9 hg9 _
      have gz : G wa w9 := grow_own (hGr.t g5) (own_G HO.out g5) (Nat.le_refl _) hg9
      have HN := Lib.hid hown9
      clear hown9 hg9 hS
      refine hK25.out _ _ ?_
      try simp only [Act.put, List.getElem_toArray, List.getElem_cons_zero, List.getElem_cons_succ, List.setIfInBounds_toArray, List.set_cons_zero, List.set_cons_succ]
      refine wpAnyY_oneW (i := 26) (by kernel_rfl) rfl (by kernel_rfl) (by kernel_rfl) (fun K26 hK26 => ?_)
      go_simp
      refine hK26.out _ _ ?_
      try simp only [Act.put, List.getElem_toArray, List.getElem_cons_zero, List.getElem_cons_succ, List.setIfInBounds_toArray, List.set_cons_zero, List.set_cons_succ]
      refine wpAnyY_done (by kernel_rfl) ?_ _
      clear hK24 hK25 hK26 hSk
      go_wp2
      go_roundw
      case rel => exact ⟨q + 1, by omega, by go_num, by rw [HSV.out]; exact HN.out, gz⟩
      case measure => simp [intOf]; omega
    · obtain rfl : N = q := by omega
      have hki : ¬ (N : Int) < N := by omega
      have HF := Lib.hid (HPP.out wo _ (own_weaken HO.out g0.size) gw)
      go_wp2
      exact HF.out
end Go.Proofs.Ytcekdljjmfkacaa
