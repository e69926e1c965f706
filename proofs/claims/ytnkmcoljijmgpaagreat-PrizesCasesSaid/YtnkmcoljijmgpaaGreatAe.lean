import Derived.Test.YtnkmcoljijmgpaaGreatAa
import Derived.Sort.Grow
import Derived.Shelf.GgSortFunc.InsertionK
import Derived.Shelf.SlSortCmp.NoneTotal
import Derived.Shelf.SlSortCmp.WholeK
import Derived.Ground.SlsfProg
set_option linter.unusedSimpArgs false
set_option linter.unusedVariables false
namespace Go.Proofs.YtnkmcoljijmgpaaGreat
open Go.RowKit Go.Shelf
attribute [local go_sem] Oper.semAt_some
def cmpI (a b : Int) : Int := if a < b then -1 else if b < a then 1 else 0
theorem nan_any (a : Int) (w : World) : Calls Tryz.prog 82 #[.int .i64 a] w fun e w' => e = .returned (.bool false) ∧ w' = w := by
  go_enter Tryz.func82, Tryz.ntmps82
  go_wp2
  go_ret
  exact ⟨by first | rfl | simp, rfl⟩
theorem cmp_any (a b : Int) (w : World) : Calls Tryz.prog 57 #[.int .i64 a, .int .i64 b] w fun e w' => e = .returned (.int .i64 (cmpI a b)) ∧ w' = w := by
  have HN := Lib.hid nan_any
  unfold cmpI
  by_cases h1 : a < b
  · rw [if_pos h1]
    go_enter Tryz.func57, Tryz.ntmps57
    go_wp2_with (go_at_call 82; refine (HN.out _ _).mono ?_; rintro e w1 ⟨rfl, rfl⟩)
    go_ret
    exact ⟨rfl, rfl⟩
  · rw [if_neg h1]
    by_cases h2 : b < a
    · rw [if_pos h2]
      go_enter Tryz.func57, Tryz.ntmps57
      go_wp2_with (go_at_call 82; refine (HN.out _ _).mono ?_; rintro e w1 ⟨rfl, rfl⟩)
      go_ret
      exact ⟨rfl, rfl⟩
    · rw [if_neg h2]
      go_enter Tryz.func57, Tryz.ntmps57
      go_wp2_with (go_at_call 82; refine (HN.out _ _).mono ?_; rintro e w1 ⟨rfl, rfl⟩)
      go_ret
      exact ⟨rfl, rfl⟩
/-- a number is in a list -/
def inL (l : List Int) (n : Int) : Bool := anyU (fun i => n == l.getD i 0) l.length
theorem index_any (l : List Int) (a : Option Addr) (cap : Nat) (n : Int) (w : World) (h : IntsAt w a l) (hl : l.length ≤ 1000) : Calls Tryz.prog 100 #[.slice a l.length cap, .int .i64 n] w fun e w' => ∃ r : Int, e = .returned (.int .i64 r) ∧ decide (0 ≤ r) = inL l n ∧ G w w' := by
  go_enter Tryz.func100, Tryz.ntmps100
  go_wp2_with fail
  go_loopw [8] (fun i wr => ∃ k : Nat, k ≤ l.length ∧ i = .int .i64 k ∧ Hid (∀ j, j < k → (n == l.getD j 0) = false) ∧ G w wr) (fun i _ => l.length - (intOf i).toNat)
  case atStart => exact ⟨0, Nat.zero_le _, rfl, fun j hj => by omega, G.rf _⟩
  case round =>
    obtain ⟨k, hk, rfl, hno, hG⟩ := hrel
    by_cases hlt : k < l.length
    · have hki : (k : Int) < l.length := by omega
      rcases h with rfl | ⟨g, off, rfl, hg, hcell⟩
      · simp at hlt
      have lg := Nat.lt_of_lt_of_le hg hG.size
      have q0 := ((bcellB hG).1 g _ hg).trans (hcell k hlt)
      obtain ⟨y, hy⟩ : ∃ y, y = l.getD k 0 := ⟨_, rfl⟩
      have HY := Lib.hid hy
      rw [← hy] at q0
      clear hy hcell
      cases hp : (n == y)
      · have HP := Lib.hid hp
        have hne : ¬ n = y := by simpa using hp
        go_wp2_with fail
        go_roundw
        case rel => exact ⟨k + 1, by omega, by go_num, fun j hj => by
          rcases Nat.lt_or_ge j k with h | h
          · exact hno.out j h
          · obtain rfl : j = k := by omega
            rw [← HY.out]; exact HP.out, hG⟩
        case measure => simp [intOf] <;> omega
      · have HP : Hid (inL l n = true) := anyU_yes hlt (by rw [← HY.out]; exact hp)
        have hne : n = y := by simpa using hp
        go_wp2_with fail
        go_ret
        exact ⟨k, rfl, by rw [HP.out]; simp, hG⟩
    · have hki : ¬ (k : Int) < l.length := by omega
      obtain rfl : k = l.length := by omega
      have HP : Hid (inL l n = false) := anyU_no hno.out
      go_wp2_with fail
      go_ret
      exact ⟨-1, rfl, by rw [HP.out]; rfl, hG⟩
theorem contains_any (l : List Int) (a : Option Addr) (cap : Nat) (n : Int) (w : World) (h : IntsAt w a l) (hl : l.length ≤ 1000) : Calls Tryz.prog 76 #[.slice a l.length cap, .int .i64 n] w fun e w' => e = .returned (.bool (inL l n)) ∧ G w w' := by
  have HI := Lib.hid (index_any l a cap n w h hl)
  clear h
  go_enter Tryz.func76, Tryz.ntmps76
  go_wp2_with (go_at_call 100; refine (HI.out).mono ?_; rintro e w1 ⟨r, rfl, hr, hG1⟩; have HR := Lib.hid hr; clear hr)
  go_ret
  exact ⟨by rw [← HR.out]; first | rfl | simp, hG1⟩
/-- what of an amount the i-th of some birds gets -/
def shareI (amount : Int) (birds : Nat) (i : Nat) : Int := amount / birds + if (i : Int) < amount % birds then 1 else 0
theorem share99 (amount : Int) (birds i : Nat) (A B : Nat) (W : World) (ha : 0 ≤ amount ∧ amount ≤ 1000000000000) (hb : 1 ≤ birds ∧ birds ≤ 1000) (hi : i ≤ 1000) (hA : Blk W A 3 #[.int .i64 amount]) (hB : Blk W B 3 #[.int .i64 (birds : Nat)]) :
    Calls Tryz.prog 99 #[.int .i64 (i : Nat), .pointer (some ⟨A, 0, none⟩), .pointer (some ⟨B, 0, none⟩)] W fun e w' => e = .returned (.int .i64 (shareI amount birds i)) ∧ G W w' := by
  have m0 := hA.cell 0
  have l0 := hA.lt
  have n0 := hB.cell 0
  have l1 := hB.lt
  have hd : amount.tdiv (birds : Int) = amount / birds := Int.tdiv_eq_ediv_of_nonneg ha.1
  have hm : amount.tmod (birds : Int) = amount % birds := Int.tmod_eq_emod_of_nonneg ha.1
  have hq : 0 ≤ amount / birds ∧ amount / (birds : Int) ≤ 1000000000000 := ⟨Int.ediv_nonneg ha.1 (by omega), Int.le_trans (Int.ediv_le_self _ ha.1) ha.2⟩
  have hbz : ((birds : Int) == 0) = false := by simp; omega
  have hbz2 : ¬ birds = 0 := by omega
  have hbz3 : ¬ (birds : Int) = 0 := by omega
  obtain ⟨q, hq0⟩ : ∃ q, q = amount / (birds : Int) := ⟨_, rfl⟩
  obtain ⟨m, hm0⟩ : ∃ m, m = amount % (birds : Int) := ⟨_, rfl⟩
  unfold shareI
  rw [← hq0] at hd hq ⊢
  rw [← hm0] at hm ⊢
  have x1 : IntKind.i64.wrap q = q := IntWalk.i64_in _ (by omega)
  have x2 : IntKind.i64.wrap (q + 1) = q + 1 := IntWalk.i64_in _ (by omega)
  have HZ : Hid (q + 0 = q) := Int.add_zero q
  clear hq0 hm0
  by_cases h1 : (i : Int) < m
  · rw [if_pos h1]
    go_enter Tryz.func99, Tryz.ntmps99
    go_wp2_with fail
    go_ret
    exact ⟨rfl, G.rf _⟩
  · rw [if_neg h1, HZ.out]
    go_enter Tryz.func99, Tryz.ntmps99
    go_wp2_with fail
    go_ret
    exact ⟨rfl, G.rf _⟩
/-- a fund as it lies -/
structure Fu where
  po : Po
  fa : Option Addr
  fc : Nat
  rs : List Rc
  pa : Option Addr
  pc : Nat
  ps : List Int
def Fu.v (f : Fu) : Array Value := #[.int .i64 f.po.stake, .int .i64 f.po.cut, .int .i64 f.po.kind, .slice f.po.ta f.po.table.length f.po.tc, .int .i64 f.po.quota, .bool f.po.first, .slice f.fa f.rs.length f.fc, .slice f.pa f.ps.length f.pc]
def totI (f : Fu) : Int := f.po.stake * f.rs.length
def kepI (f : Fu) : Int := totI f * f.po.cut / 1000
def lefI (f : Fu) : Int := totI f - kepI f
structure FuB (f : Fu) : Prop where
  stake : 0 ≤ f.po.stake ∧ f.po.stake ≤ 100000
  cut : 0 ≤ f.po.cut ∧ f.po.cut ≤ 1000
  many : f.rs.length ≤ 12
theorem FuB.tot {f : Fu} (h : FuB f) : 0 ≤ totI f ∧ totI f ≤ 1200000 := by
  unfold totI
  refine ⟨Int.mul_nonneg h.stake.1 (by omega), ?_⟩
  have h1 : f.po.stake * (f.rs.length : Int) ≤ 100000 * (f.rs.length : Int) := Int.mul_le_mul_of_nonneg_right h.stake.2 (by omega)
  have := h.many
  omega
theorem FuB.prod {f : Fu} (h : FuB f) : 0 ≤ totI f * f.po.cut ∧ totI f * f.po.cut ≤ totI f * 1000 :=
  ⟨Int.mul_nonneg h.tot.1 h.cut.1, Int.mul_le_mul_of_nonneg_left h.cut.2 h.tot.1⟩
theorem FuB.kep {f : Fu} (h : FuB f) : 0 ≤ kepI f ∧ kepI f ≤ totI f := by
  have := h.prod
  unfold kepI
  omega
theorem total_any (f : Fu) (w : World) (h : FuB f) : Calls Tryz.prog 47 #[.agg f.v] w fun e w' => e = .returned (.int .i64 (totI f)) ∧ G w w' := by
  have hb := h.tot
  unfold totI at *
  clear h
  obtain ⟨⟨ystake, ycut, ykind, yta, ytc, ytable, yquota, yfirst⟩, fa, fc, rs, pa, pc, ps⟩ := f
  unfold Fu.v
  dsimp only at *
  have x1 : IntKind.i64.wrap (ystake * (rs.length : Int)) = ystake * (rs.length : Int) := IntWalk.i64_in _ (by omega)
  have g0 : G w (w.alloc (.cells #[.int .i64 ystake, .int .i64 ycut, .int .i64 ykind, .slice yta ytable.length ytc, .int .i64 yquota, .bool yfirst, .slice fa rs.length fc, .slice pa ps.length pc] 85)) := (G.rf _).a _
  clear hb
  go_enter Tryz.func47, Tryz.ntmps47
  go_wp2_with fail
  go_ret
  exact ⟨rfl, g0⟩
set_option maxRecDepth 100000 in
set_option maxHeartbeats 4000000 in
theorem kept_any (f : Fu) (w : World) (h : FuB f) : Calls Tryz.prog 48 #[.agg f.v] w fun e w' => e = .returned (.int .i64 (kepI f)) ∧ G w w' := by
  have hb := h.tot
  have hp := h.prod
  have HT := Lib.hid (fun (W : World) => total_any f W h)
  unfold kepI
  generalize totI f = T at *
  clear h
  obtain ⟨⟨ystake, ycut, ykind, yta, ytc, ytable, yquota, yfirst⟩, fa, fc, rs, pa, pc, ps⟩ := f
  unfold Fu.v at *
  dsimp only at *
  have x1 : IntKind.i64.wrap (T * ycut) = T * ycut := IntWalk.i64_in _ (by omega)
  have x2 : (T * ycut).tdiv 1000 = T * ycut / 1000 := Int.tdiv_eq_ediv_of_nonneg hp.1
  have x3 : IntKind.i64.wrap (T * ycut / 1000) = T * ycut / 1000 := IntWalk.i64_in _ (by omega)
  have g0 : G w (w.alloc (.cells #[.int .i64 ystake, .int .i64 ycut, .int .i64 ykind, .slice yta ytable.length ytc, .int .i64 yquota, .bool yfirst, .slice fa rs.length fc, .slice pa ps.length pc] 85)) := (G.rf _).a _
  have b0 : Blk (w.alloc (.cells #[.int .i64 ystake, .int .i64 ycut, .int .i64 ykind, .slice yta ytable.length ytc, .int .i64 yquota, .bool yfirst, .slice fa rs.length fc, .slice pa ps.length pc] 85)) w.heap.size 85 #[.int .i64 ystake, .int .i64 ycut, .int .i64 ykind, .slice yta ytable.length ytc, .int .i64 yquota, .bool yfirst, .slice fa rs.length fc, .slice pa ps.length pc] := Blk.new _ _ _
  clear hp hb
  go_enter Tryz.func48, Tryz.ntmps48
  go_upto_region 1 with fail
  change Code.wp _ _ _ _ (w.alloc (.cells #[.int .i64 ystake, .int .i64 ycut, .int .i64 ykind, .slice yta ytable.length ytc, .int .i64 yquota, .bool yfirst, .slice fa rs.length fc, .slice pa ps.length pc] 85))
  generalize w.alloc (.cells #[.int .i64 ystake, .int .i64 ycut, .int .i64 ykind, .slice yta ytable.length ytc, .int .i64 yquota, .bool yfirst, .slice fa rs.length fc, .slice pa ps.length pc] 85) = w1 at *
  have hSk : ∀ W', G w1 W' → Blk W' w.heap.size 85 #[.int .i64 ystake, .int .i64 ycut, .int .i64 ykind, .slice yta ytable.length ytc, .int .i64 yquota, .bool yfirst, .slice fa rs.length fc, .slice pa ps.length pc] := fun W' hW => b0.keep hW
  refine wp_region_Y (S := fun W' => Blk W' w.heap.size 85 #[.int .i64 ystake, .int .i64 ycut, .int .i64 ykind, .slice yta ytable.length ytc, .int .i64 yquota, .bool yfirst, .slice fa rs.length fc, .slice pa ps.length pc]) 7 8 rfl (by kernel_rfl) (hSk _ (G.rf _).d) (fun hS => ?_)
  have ga := (G.rf w1).d
  refine wpAnyY_take (i := 0) (v := ?_) rfl (by kernel_rfl) (by kernel_rfl) (by kernel_rfl) (by kernel_rfl) (fun _ _ _ h => h) (Or.inl ⟨by kernel_rfl, ?_⟩) hS ?_
  rotate_left
  · intro w' hSw; have m0 := hSw.cell 0; have m1 := hSw.cell 1; have m2 := hSw.cell 2; have m3 := hSw.cell 3; have m4 := hSw.cell 4; have m5 := hSw.cell 5; have m6 := hSw.cell 6; have m7 := hSw.cell 7; go_simp; with_reducible rfl
  try simp only [Act.put, List.getElem_toArray, List.getElem_cons_zero, List.getElem_cons_succ, List.setIfInBounds_toArray, List.set_cons_zero, List.set_cons_succ]
  refine wpAnyY_take (i := 2) (v := ?_) rfl (by kernel_rfl) (by kernel_rfl) (by kernel_rfl) (by kernel_rfl) (fun _ _ _ h => h) (Or.inl ⟨by kernel_rfl, ?_⟩) hS ?_
  rotate_left
  · intro w' hSw; go_simp; with_reducible rfl
  try simp only [Act.put, List.getElem_toArray, List.getElem_cons_zero, List.getElem_cons_succ, List.setIfInBounds_toArray, List.set_cons_zero, List.set_cons_succ]
  refine wpAnyY_take (i := 3) (v := ?_) rfl (by kernel_rfl) (by kernel_rfl) (by kernel_rfl) (by kernel_rfl) (fun _ _ _ h => h) (Or.inl ⟨by kernel_rfl, ?_⟩) hS ?_
  rotate_left
  · intro w' hSw; go_simp; with_reducible rfl
  try simp only [Act.put, List.getElem_toArray, List.getElem_cons_zero, List.getElem_cons_succ, List.setIfInBounds_toArray, List.set_cons_zero, List.set_cons_succ]
  refine wpAnyY_take (i := 4) (v := ?_) rfl (by kernel_rfl) (by kernel_rfl) (by kernel_rfl) (by kernel_rfl) (fun _ _ _ h => h) (Or.inl ⟨by kernel_rfl, ?_⟩) hS ?_
  rotate_left
  · intro w' hSw; have m1 := hSw.cell 1; have l1 := hSw.lt; go_simp; with_reducible rfl
  try simp only [Act.put, List.getElem_toArray, List.getElem_cons_zero, List.getElem_cons_succ, List.setIfInBounds_toArray, List.set_cons_zero, List.set_cons_succ]
  refine wpAnyY_oneSW (i := 1) (by kernel_rfl) rfl (by kernel_rfl) (fun K1 hK1 => ?_)
  go_simp
  refine (HT.out _).mono ?_
  rintro e w2 ⟨rfl, hG2⟩
  replace ga := ga.t hG2
  refine hK1.out _ _ (hSk _ ga) (fun hS => ?_)
  clear hK1
  try simp only [Act.put, List.getElem_toArray, List.getElem_cons_zero, List.getElem_cons_succ, List.setIfInBounds_toArray, List.set_cons_zero, List.set_cons_succ]
  refine wpAnyY_take (i := 5) (v := ?_) rfl (by kernel_rfl) (by kernel_rfl) (by kernel_rfl) (by kernel_rfl) (fun _ _ _ h => h) (Or.inl ⟨by kernel_rfl, ?_⟩) hS ?_
  rotate_left
  · intro w' hSw; go_simp; with_reducible rfl
  try simp only [Act.put, List.getElem_toArray, List.getElem_cons_zero, List.getElem_cons_succ, List.setIfInBounds_toArray, List.set_cons_zero, List.set_cons_succ]
  refine wpAnyY_take (i := 6) (v := ?_) rfl (by kernel_rfl) (by kernel_rfl) (by kernel_rfl) (by kernel_rfl) (fun _ _ _ h => h) (Or.inl ⟨by kernel_rfl, ?_⟩) hS ?_
  rotate_left
  · intro w' hSw; go_simp; with_reducible rfl
  try simp only [Act.put, List.getElem_toArray, List.getElem_cons_zero, List.getElem_cons_succ, List.setIfInBounds_toArray, List.set_cons_zero, List.set_cons_succ]
  refine wpAnyY_oneW (i := 7) (by kernel_rfl) rfl (by kernel_rfl) (by kernel_rfl) (fun K7 hK7 => ?_)
  go_simp
  refine hK7.out _ _ ?_
  clear hK7
  try simp only [Act.put, List.getElem_toArray, List.getElem_cons_zero, List.getElem_cons_succ, List.setIfInBounds_toArray, List.set_cons_zero, List.set_cons_succ]
  refine wpAnyY_done (by kernel_rfl) ?_ _
  go_wp2_with fail
  go_ret
  exact ⟨rfl, g0.t ga⟩
set_option maxRecDepth 100000 in
set_option maxHeartbeats 4000000 in
theorem left_any (f : Fu) (w : World) (h : FuB f) : Calls Tryz.prog 49 #[.agg f.v] w fun e w' => e = .returned (.int .i64 (lefI f)) ∧ G w w' := by
  have hb := h.tot
  have hk := h.kep
  have HT := Lib.hid (fun (W : World) => total_any f W h)
  have HK := Lib.hid (fun (W : World) => kept_any f W h)
  unfold lefI
  generalize totI f = T at *
  generalize kepI f = K0 at *
  clear h
  obtain ⟨⟨ystake, ycut, ykind, yta, ytc, ytable, yquota, yfirst⟩, fa, fc, rs, pa, pc, ps⟩ := f
  unfold Fu.v at *
  dsimp only at *
  have x1 : IntKind.i64.wrap (T - K0) = T - K0 := IntWalk.i64_in _ (by omega)
  have g0 : G w (w.alloc (.cells #[.int .i64 ystake, .int .i64 ycut, .int .i64 ykind, .slice yta ytable.length ytc, .int .i64 yquota, .bool yfirst, .slice fa rs.length fc, .slice pa ps.length pc] 85)) := (G.rf _).a _
  have b0 : Blk (w.alloc (.cells #[.int .i64 ystake, .int .i64 ycut, .int .i64 ykind, .slice yta ytable.length ytc, .int .i64 yquota, .bool yfirst, .slice fa rs.length fc, .slice pa ps.length pc] 85)) w.heap.size 85 #[.int .i64 ystake, .int .i64 ycut, .int .i64 ykind, .slice yta ytable.length ytc, .int .i64 yquota, .bool yfirst, .slice fa rs.length fc, .slice pa ps.length pc] := Blk.new _ _ _
  clear hk hb
  go_enter Tryz.func49, Tryz.ntmps49
  go_upto_region 1 with fail
  change Code.wp _ _ _ _ (w.alloc (.cells #[.int .i64 ystake, .int .i64 ycut, .int .i64 ykind, .slice yta ytable.length ytc, .int .i64 yquota, .bool yfirst, .slice fa rs.length fc, .slice pa ps.length pc] 85))
  generalize w.alloc (.cells #[.int .i64 ystake, .int .i64 ycut, .int .i64 ykind, .slice yta ytable.length ytc, .int .i64 yquota, .bool yfirst, .slice fa rs.length fc, .slice pa ps.length pc] 85) = w1 at *
  have hSk : ∀ W', G w1 W' → Blk W' w.heap.size 85 #[.int .i64 ystake, .int .i64 ycut, .int .i64 ykind, .slice yta ytable.length ytc, .int .i64 yquota, .bool yfirst, .slice fa rs.length fc, .slice pa ps.length pc] := fun W' hW => b0.keep hW
  refine wp_region_Y (S := fun W' => Blk W' w.heap.size 85 #[.int .i64 ystake, .int .i64 ycut, .int .i64 ykind, .slice yta ytable.length ytc, .int .i64 yquota, .bool yfirst, .slice fa rs.length fc, .slice pa ps.length pc]) 5 6 rfl (by kernel_rfl) (hSk _ (G.rf _).d) (fun hS => ?_)
  have ga := (G.rf w1).d
  refine wpAnyY_take (i := 0) (v := ?_) rfl (by kernel_rfl) (by kernel_rfl) (by kernel_rfl) (by kernel_rfl) (fun _ _ _ h => h) (Or.inl ⟨by kernel_rfl, ?_⟩) hS ?_
  rotate_left
  · intro w' hSw; have m0 := hSw.cell 0; have m1 := hSw.cell 1; have m2 := hSw.cell 2; have m3 := hSw.cell 3; have m4 := hSw.cell 4; have m5 := hSw.cell 5; have m6 := hSw.cell 6; have m7 := hSw.cell 7; go_simp; with_reducible rfl
  try simp only [Act.put, List.getElem_toArray, List.getElem_cons_zero, List.getElem_cons_succ, List.setIfInBounds_toArray, List.set_cons_zero, List.set_cons_succ]
  refine wpAnyY_take (i := 2) (v := ?_) rfl (by kernel_rfl) (by kernel_rfl) (by kernel_rfl) (by kernel_rfl) (fun _ _ _ h => h) (Or.inl ⟨by kernel_rfl, ?_⟩) hS ?_
  rotate_left
  · intro w' hSw; have m0 := hSw.cell 0; have m1 := hSw.cell 1; have m2 := hSw.cell 2; have m3 := hSw.cell 3; have m4 := hSw.cell 4; have m5 := hSw.cell 5; have m6 := hSw.cell 6; have m7 := hSw.cell 7; go_simp; with_reducible rfl
  try simp only [Act.put, List.getElem_toArray, List.getElem_cons_zero, List.getElem_cons_succ, List.setIfInBounds_toArray, List.set_cons_zero, List.set_cons_succ]
  refine wpAnyY_oneSW (i := 1) (by kernel_rfl) rfl (by kernel_rfl) (fun K1 hK1 => ?_)
  go_simp
  refine (HT.out _).mono ?_
  rintro e w2 ⟨rfl, hG2⟩
  replace ga := ga.t hG2
  refine hK1.out _ _ (hSk _ ga) (fun hS => ?_)
  clear hK1
  try simp only [Act.put, List.getElem_toArray, List.getElem_cons_zero, List.getElem_cons_succ, List.setIfInBounds_toArray, List.set_cons_zero, List.set_cons_succ]
  refine wpAnyY_oneSW (i := 3) (by kernel_rfl) rfl (by kernel_rfl) (fun K3 hK3 => ?_)
  go_simp
  refine (HK.out _).mono ?_
  rintro e w3 ⟨rfl, hG3⟩
  replace ga := ga.t hG3
  refine hK3.out _ _ (hSk _ ga) (fun hS => ?_)
  clear hK3
  try simp only [Act.put, List.getElem_toArray, List.getElem_cons_zero, List.getElem_cons_succ, List.setIfInBounds_toArray, List.set_cons_zero, List.set_cons_succ]
  refine wpAnyY_take (i := 4) (v := ?_) rfl (by kernel_rfl) (by kernel_rfl) (by kernel_rfl) (by kernel_rfl) (fun _ _ _ h => h) (Or.inl ⟨by kernel_rfl, ?_⟩) hS ?_
  rotate_left
  · intro w' hSw; go_simp; with_reducible rfl
  try simp only [Act.put, List.getElem_toArray, List.getElem_cons_zero, List.getElem_cons_succ, List.setIfInBounds_toArray, List.set_cons_zero, List.set_cons_succ]
  refine wpAnyY_oneW (i := 5) (by kernel_rfl) rfl (by kernel_rfl) (by kernel_rfl) (fun K5 hK5 => ?_)
  go_simp
  refine hK5.out _ _ ?_
  clear hK5
  try simp only [Act.put, List.getElem_toArray, List.getElem_cons_zero, List.getElem_cons_succ, List.setIfInBounds_toArray, List.set_cons_zero, List.set_cons_succ]
  refine wpAnyY_done (by kernel_rfl) ?_ _
  go_wp2_with fail
  go_ret
  exact ⟨rfl, g0.t ga⟩
end Go.Proofs.YtnkmcoljijmgpaaGreat
set_option linter.unusedSimpArgs false
set_option linter.unusedVariables false
namespace Go.Proofs.YtnkmcoljijmgpaaGreat
open Go.RowKit Go.Shelf
attribute [local go_sem] Oper.semAt_some
/-- numbers as cells -/
def iv (l : List Int) : List Value := l.map (Value.int .i64)
theorem iv_snoc (l : List Int) (x : Int) : iv (l ++ [x]) = iv l ++ [.int .i64 x] := by simp [iv]
theorem iv_len (l : List Int) : (iv l).length = l.length := by simp [iv]
theorem iv_get (l : List Int) {i : Nat} (h : i < l.length) : (iv l)[i]? = some (.int .i64 (l.getD i 0)) := by
  simp [iv, List.getD_eq_getElem?_getD, h]
theorem own_ints {W : World} {B : Nat} {v : Value} {l : List Int} (h : W.ownsRow B 3 1 v l.length (iv l)) : ∃ a c, v = .slice a l.length c ∧ IntsAt W a l := by
  by_cases h0 : 0 < l.length
  · obtain ⟨g, cap, cur, rfl, hb, hg, ht⟩ := own_some h h0
    exact ⟨_, _, rfl, .inr ⟨g, 0, rfl, hg, fun k hk => by rw [Nat.zero_add]; exact take_cell hb ht (by omega) (iv_get l hk)⟩⟩
  · obtain ⟨a, c, rfl⟩ := own_slice h
    exact ⟨_, _, rfl, .inl (List.length_eq_zero_iff.1 (by omega))⟩
/-- a row of numbers of one's own -/
def IvPost (w : World) (l : List Int) (e : Ending) (w' : World) : Prop := ∃ v, e = .returned v ∧ w'.ownsRow w.heap.size 3 1 v l.length (iv l) ∧ G w w'
def nPl (f : Fu) : Int := (f.rs.length + f.po.quota - 1) / f.po.quota
def placesL (f : Fu) : List Int := if f.po.kind = 1 then f.po.table.map (fun n => lefI f * n / 1000) else if f.po.kind = 2 then List.replicate (nPl f).toNat (lefI f / nPl f) else if f.po.kind = 3 then [lefI f] else []
theorem take_snoc {l : List Int} {k : Nat} (h : k < l.length) (g : Int → Int) : (l.take (k + 1)).map g = (l.take k).map g ++ [g (l.getD k 0)] := by
  rw [List.take_add_one, List.map_append]
  simp [List.getElem?_eq_getElem h, List.getD_eq_getElem?_getD]
theorem rep_snoc (k : Nat) (x : Int) : List.replicate (k + 1) x = List.replicate k x ++ [x] := by
  rw [List.replicate_succ']
set_option maxRecDepth 100000 in
set_option maxHeartbeats 8000000 in
theorem places_any (f : Fu) (w : World) (h : FuB f) (hp : poolB f.po = true) (ht : IntsAt w f.po.ta f.po.table) : Calls Tryz.prog 59 #[.agg f.v] w (IvPost w (placesL f)) := by
  have HL := Lib.hid (fun (W : World) => left_any f W h)
  have hlb : 0 ≤ lefI f ∧ lefI f ≤ 1200000 := by
    have a := h.tot
    have b := h.kep
    unfold lefI
    omega
  have hmany := h.many
  have HPP : Hid (∀ w' v, w'.ownsRow w.heap.size 3 1 v (placesL f).length (iv (placesL f)) → G w w' → IvPost w (placesL f) (.returned v) w') := fun w' v a b => ⟨v, rfl, a, b⟩
  generalize IvPost w (placesL f) = PP at *
  unfold poolB at hp
  simp only [Bool.and_eq_true] at hp
  obtain ⟨_, _, hk⟩ := hp
  unfold kindB at hk
  unfold placesL nPl at HPP
  generalize lefI f = LV at *
  clear h
  obtain ⟨⟨ystake, ycut, ykind, yta, ytc, ytable, yquota, yfirst⟩, fa, fc, rs, pa, pc, ps⟩ := f
  unfold Fu.v at *
  dsimp only at *
  have g0 : G w (w.alloc (.cells #[.int .i64 ystake, .int .i64 ycut, .int .i64 ykind, .slice yta ytable.length ytc, .int .i64 yquota, .bool yfirst, .slice fa rs.length fc, .slice pa ps.length pc] 85)) := (G.rf _).a _
  have b0 : Blk (w.alloc (.cells #[.int .i64 ystake, .int .i64 ycut, .int .i64 ykind, .slice yta ytable.length ytc, .int .i64 yquota, .bool yfirst, .slice fa rs.length fc, .slice pa ps.length pc] 85)) w.heap.size 85 #[.int .i64 ystake, .int .i64 ycut, .int .i64 ykind, .slice yta ytable.length ytc, .int .i64 yquota, .bool yfirst, .slice fa rs.length fc, .slice pa ps.length pc] := Blk.new _ _ _
  obtain ⟨i0, hi0, hz0, hz1, hz2⟩ := info_parts info3
  by_cases k1 : ykind = 1
  · subst k1
    rw [if_pos rfl] at hk HPP
    simp only [Bool.and_eq_true, decide_eq_true_eq] at hk
    have htb := hk.1
    unfold tableB at htb
    simp only [Bool.and_eq_true, decide_eq_true_eq] at htb
    obtain ⟨ht8, htc, _⟩ := htb
    unfold isInB at ht8
    simp only [Bool.and_eq_true, decide_eq_true_eq] at ht8
    have HTC : Hid (∀ i, i < ytable.length → 0 ≤ ytable.getD i 0 ∧ ytable.getD i 0 ≤ 1000) := fun i hi => by
      have := allU_iff.1 htc i hi
      unfold isInB at this
      simp only [Bool.and_eq_true, decide_eq_true_eq] at this
      exact this
    clear hk htc
    go_enter Tryz.func59, Tryz.ntmps59
    go_upto_region 3 with (go_at_call 49; refine (HL.out _).mono ?_; rintro e w1 ⟨rfl, hG1⟩)
    replace b0 := b0.keep hG1
    replace g0 := g0.t hG1
    clear hG1 HL
    have m2 := b0.cell 2
    have m3 := b0.cell 3
    have l0 := b0.lt
    go_wp2_with fail
    clear m2 m3 l0
    go_loopw [4, 19] (fun v i wr => ∃ k : Nat, k ≤ ytable.length ∧ i = .int .i64 k ∧ wr.ownsRow w1.heap.size 3 1 v k (iv ((ytable.take k).map (fun n => LV * n / 1000))) ∧ G w1 wr) (fun _ i _ => ytable.length - (intOf i).toNat)
    case atStart => exact ⟨0, Nat.zero_le _, rfl, World.ownsRow_nil _ _ _ _, G.rf _⟩
    case round =>
      obtain ⟨k, hk, rfl, ho, hG⟩ := hrel
      obtain ⟨wo, rfl⟩ : ∃ wo, wo = wr := ⟨_, rfl⟩
      have HO := Lib.hid ho
      clear ho
      by_cases hlt : k < ytable.length
      · have hki : (k : Int) < ytable.length := by omega
        rcases ht with rfl | ⟨g, off, rfl, hg, hcell⟩
        · simp at hlt
        have lg := Nat.lt_of_lt_of_le hg (g0.t hG).size
        have q0 := ((bcellB (g0.t hG)).1 g _ hg).trans (hcell k hlt)
        have hy01 := HTC.out k hlt
        have HSN := Lib.hid (take_snoc hlt (fun n => LV * n / 1000))
        obtain ⟨y, hy⟩ : ∃ y, y = ytable.getD k 0 := ⟨_, rfl⟩
        rw [← hy] at q0 hy01 HSN
        clear hy hcell
        have hpr : 0 ≤ LV * y ∧ LV * y ≤ LV * 1000 := ⟨Int.mul_nonneg hlb.1 hy01.1, Int.mul_le_mul_of_nonneg_left hy01.2 hlb.1⟩
        have x1 : IntKind.i64.wrap (LV * y) = LV * y := IntWalk.i64_in _ (by omega)
        have x2 : (LV * y).tdiv 1000 = LV * y / 1000 := Int.tdiv_eq_ediv_of_nonneg hpr.1
        have x3 : IntKind.i64.wrap (LV * y / 1000) = LV * y / 1000 := IntWalk.i64_in _ (by omega)
        obtain ⟨T, hT⟩ : ∃ T, T = (ytable.take k).map (fun n => LV * n / 1000) := ⟨_, rfl⟩
        have hTl : T.length = k := by rw [hT, List.length_map, List.length_take]; omega
        rw [← hT] at HO HSN
        clear hT hpr
        obtain rfl := hTl.symm
        go_wp2_with (at_builtin; refine wpList_append_own _ rfl _ _ 24 rfl w1.heap.size 3 i0 (.int .i64 0) 1 8 Tryz.underlying24 hi0 hz0 hz1 hz2 rfl (by decide) _ T.length (iv T) rfl ?hown ⟨_, 0, none⟩ 1 1 [.int .i64 (LV * y / 1000)] rfl rfl (cell_one_new _ _ _) (by simp [Value.oneCell']) (by unfold maxLen; omega) (by omega) ?hbase ?hrest)
        case hown => exact own_G HO.out ((G.rf _).a _)
        case hbase => have := hG.size; omega
        case hrest =>
          intro v9 w9 hown9 hg9 _
          have gz : G w1 w9 := grow_own (hG.a _) (own_G HO.out ((G.rf _).a _)) (Nat.le_refl _) hg9
          have HN := Lib.hid hown9
          clear hown9 hg9
          go_wp2
          go_roundw
          case rel => exact ⟨T.length + 1, by omega, by go_num, by rw [HSN.out, iv_snoc]; exact HN.out, gz⟩
          case measure => simp [intOf] <;> omega
      · obtain rfl : k = ytable.length := by omega
        have hki : ¬ ((ytable.length : Nat) : Int) < ytable.length := by omega
        rw [List.take_length] at HO
        have hlen : (ytable.map (fun n => LV * n / 1000)).length = ytable.length := List.length_map _
        have HF := Lib.hid (fun v (ho : wo.ownsRow w.heap.size 3 1 v ytable.length (iv (ytable.map (fun n => LV * n / 1000)))) => HPP.out wo v (by rw [hlen]; exact ho) (g0.t hG))
        clear HPP
        go_wp2_with fail
        exact HF.out _ (own_weaken HO.out g0.size)
  rw [if_neg k1] at hk HPP
  have e1 : (ykind == 1) = false := by simpa using k1
  by_cases k2 : ykind = 2
  · subst k2
    rw [if_pos rfl] at hk HPP
    simp only [Bool.and_eq_true, decide_eq_true_eq] at hk
    have hq := hk.2
    clear hk
    unfold isInB at hq
    simp only [Bool.and_eq_true, decide_eq_true_eq] at hq
    obtain ⟨Q, hQ⟩ : ∃ Q : Nat, yquota = Q := ⟨yquota.toNat, by omega⟩
    subst hQ
    obtain ⟨M, hM⟩ : ∃ M : Nat, M = (rs.length + Q - 1) / Q := ⟨_, rfl⟩
    have hMi : ((rs.length : Int) + Q - 1) / Q = (M : Nat) := by
      rw [hM]
      rw [show (rs.length : Int) + Q - 1 = ((rs.length + Q - 1 : Nat) : Int) by omega]
      exact (Int.natCast_ediv _ _).symm
    have hMb : M ≤ 1000 := by
      rw [hM]
      exact Nat.le_trans (Nat.div_le_self _ _) (by omega)
    rw [hMi] at HPP
    have y1 : IntKind.i64.wrap ((rs.length : Int) + Q) = (rs.length : Int) + Q := IntWalk.i64_in _ (by omega)
    have y2 : IntKind.i64.wrap ((rs.length : Int) + Q - 1) = (rs.length : Int) + Q - 1 := IntWalk.i64_in _ (by omega)
    have y3 : ((rs.length : Int) + Q - 1).tdiv Q = (M : Nat) := by rw [Int.tdiv_eq_ediv_of_nonneg (by omega)]; exact hMi
    have y4 : IntKind.i64.wrap ((M : Nat) : Int) = (M : Nat) := IntWalk.i64_in _ (by omega)
    have qz : ((Q : Int) == 0) = false := by simp; omega
    have qz2 : ¬ Q = 0 := by omega
    clear hMi hM e1
    go_enter Tryz.func59, Tryz.ntmps59
    go_upto_region 3 with (go_at_call 49; refine (HL.out _).mono ?_; rintro e w1 ⟨rfl, hG1⟩)
    replace b0 := b0.keep hG1
    replace g0 := g0.t hG1
    clear hG1 HL
    have m2 := b0.cell 2
    have m4 := b0.cell 4
    have m6 := b0.cell 6
    have l0 := b0.lt
    go_wp2_with fail
    clear m2 m4 m6 l0 y1 y2 y3 y4
    go_loopw [4, 46] (fun v i wr => ∃ k : Nat, k ≤ M ∧ i = .int .i64 k ∧ wr.ownsRow w1.heap.size 3 1 v k (iv (List.replicate k (LV / (M : Nat)))) ∧ G w1 wr) (fun _ i _ => M - (intOf i).toNat)
    case atStart => exact ⟨0, Nat.zero_le _, rfl, World.ownsRow_nil _ _ _ _, G.rf _⟩
    case round =>
      obtain ⟨k, hk, rfl, ho, hG⟩ := hrel
      obtain ⟨wo, rfl⟩ : ∃ wo, wo = wr := ⟨_, rfl⟩
      have HO := Lib.hid ho
      clear ho
      by_cases hlt : k < M
      · have hki : (k : Int) < M := by omega
        have mz : ((M : Int) == 0) = false := by simp; omega
        have mz2 : ¬ M = 0 := by omega
        have x1 : LV.tdiv (M : Nat) = LV / (M : Nat) := Int.tdiv_eq_ediv_of_nonneg hlb.1
        have hb2 : 0 ≤ LV / (M : Nat) ∧ LV / ((M : Nat) : Int) ≤ LV := ⟨Int.ediv_nonneg hlb.1 (by omega), Int.ediv_le_self _ hlb.1⟩
        have x2 : IntKind.i64.wrap (LV / (M : Nat)) = LV / (M : Nat) := IntWalk.i64_in _ (by omega)
        have HSN := Lib.hid (rep_snoc k (LV / (M : Nat)))
        obtain ⟨z, hz⟩ : ∃ z, z = LV / ((M : Nat) : Int) := ⟨_, rfl⟩
        have HZ := Lib.hid hz
        rw [← hz] at x1 x2 HSN HO
        clear hb2 hz
        obtain ⟨T, hT⟩ : ∃ T, T = List.replicate k z := ⟨_, rfl⟩
        have hTl : T.length = k := by rw [hT, List.length_replicate]
        rw [← hT] at HO HSN
        clear hT
        obtain rfl := hTl.symm
        go_wp2_with (at_builtin; refine wpList_append_own _ rfl _ _ 24 rfl w1.heap.size 3 i0 (.int .i64 0) 1 8 Tryz.underlying24 hi0 hz0 hz1 hz2 rfl (by decide) _ T.length (iv T) rfl ?hown ⟨_, 0, none⟩ 1 1 [.int .i64 z] rfl rfl (cell_one_new _ _ _) (by simp [Value.oneCell']) (by unfold maxLen; omega) (by omega) ?hbase ?hrest)
        case hown => exact own_G HO.out ((G.rf _).a _)
        case hbase => have := hG.size; omega
        case hrest =>
          intro v9 w9 hown9 hg9 _
          have gz : G w1 w9 := grow_own (hG.a _) (own_G HO.out ((G.rf _).a _)) (Nat.le_refl _) hg9
          have HN := Lib.hid hown9
          clear hown9 hg9
          go_wp2
          go_roundw
          case rel => exact ⟨T.length + 1, by omega, by go_num, by rw [← HZ.out, HSN.out, iv_snoc]; exact HN.out, gz⟩
          case measure => simp [intOf] <;> omega
      · obtain rfl : k = M := by omega
        have hki : ¬ ((k : Nat) : Int) < k := by omega
        have hlen : (List.replicate k (LV / ((k : Nat) : Int))).length = k := List.length_replicate
        have HF := Lib.hid (fun v (ho : wo.ownsRow w.heap.size 3 1 v k (iv (List.replicate k (LV / ((k : Nat) : Int))))) => HPP.out wo v (by rw [Int.toNat_natCast, hlen]; exact ho) (g0.t hG))
        clear HPP
        go_wp2_with fail
        exact HF.out _ (own_weaken HO.out g0.size)
  rw [if_neg k2] at hk HPP
  have e2 : (ykind == 2) = false := by simpa using k2
  by_cases k3 : ykind = 3
  · subst k3
    rw [if_pos rfl] at HPP
    clear hk
    go_enter Tryz.func59, Tryz.ntmps59
    go_upto_region 3 with (go_at_call 49; refine (HL.out _).mono ?_; rintro e w1 ⟨rfl, hG1⟩)
    replace b0 := b0.keep hG1
    replace g0 := g0.t hG1
    clear hG1 HL
    have m2 := b0.cell 2
    have l0 := b0.lt
    have HO : Hid (w1.ownsRow w1.heap.size 3 1 (.slice none 0 0) 0 (iv [])) := World.ownsRow_nil _ _ _ _
    go_wp2_with (at_builtin; refine wpList_append_own _ rfl _ _ 24 rfl w1.heap.size 3 i0 (.int .i64 0) 1 8 Tryz.underlying24 hi0 hz0 hz1 hz2 rfl (by decide) _ 0 (iv ([] : List Int)) rfl ?hown ⟨_, 0, none⟩ 1 1 [.int .i64 LV] rfl rfl (cell_one_new _ _ _) (by simp [Value.oneCell']) (by unfold maxLen; omega) (by omega) ?hbase ?hrest)
    case hown => exact own_G HO.out ((G.rf _).a _)
    case hbase => first | omega | exact ((G.rf _).a _).size | simp
    case hrest =>
      intro v9 w9 hown9 hg9 _
      have gz : G w1 w9 := grow_own ((G.rf _).a _) (own_G HO.out ((G.rf _).a _)) (Nat.le_refl _) hg9
      have HF := Lib.hid (HPP.out w9 v9 (own_weaken hown9 g0.size) (g0.t gz))
      clear hown9 hg9 HPP
      go_wp2
      exact HF.out
  rw [if_neg k3] at hk
  cases hk
end Go.Proofs.YtnkmcoljijmgpaaGreat
set_option linter.unusedSimpArgs false
set_option linter.unusedVariables false
namespace Go.Proofs.YtnkmcoljijmgpaaGreat
open Go.RowKit Go.Shelf Go.Sort
attribute [local go_sem] Oper.semAt_some
/-- shares: the function that tells what each gets -/
theorem shares_any (amount birds : Int) (w : World) : Calls Tryz.prog 74 #[.int .i64 amount, .int .i64 birds] w fun e w' =>
    e = .returned (.func (.func 99) #[] #[.pointer (some ⟨w.heap.size, 0, none⟩), .pointer (some ⟨w.heap.size + 1, 0, none⟩)]) ∧ Blk w' w.heap.size 3 #[.int .i64 amount] ∧ Blk w' (w.heap.size + 1) 3 #[.int .i64 birds] ∧ G w w' := by
  have g0 : G w (w.alloc (.cells #[.int .i64 amount] 3)) := (G.rf _).a _
  have b0 : Blk (w.alloc (.cells #[.int .i64 amount] 3)) w.heap.size 3 #[.int .i64 amount] := Blk.new _ _ _
  have b1 : Blk ((w.alloc (.cells #[.int .i64 amount] 3)).alloc (.cells #[.int .i64 birds] 3)) (w.heap.size + 1) 3 #[.int .i64 birds] := by
    have := Blk.new (w.alloc (.cells #[.int .i64 amount] 3)) 3 #[.int .i64 birds]
    have e : (w.alloc (.cells #[.int .i64 amount] 3)).heap.size = w.heap.size + 1 := Array.size_push ..
    rw [e] at this
    exact this
  go_enter Tryz.func74, Tryz.ntmps74
  go_wp2_with fail
  go_ret
  exact ⟨by simp [World.alloc], b0.keep ((G.rf _).a _), b1, g0.a _⟩
/-- the code's order of racers: by ring -/
def birdC (x y : Rc) : Int := cmpI x.bird y.bird
set_option maxHeartbeats 1000000 in
theorem closure78 (x y : Rc) (W : World) : Calls Tryz.prog 78 #[.agg x.v, .agg y.v] W fun e w' => e = .returned (.int .i64 (birdC x y)) ∧ ∃ q os', w' = grow (W.drewN q) os' := by
  have hcon := fun W' => cmp_any x.bird y.bird W'
  unfold birdC
  generalize cmpI x.bird y.bird = r at hcon ⊢
  obtain ⟨xb, xo, xr, xd, xpa, xpc, xp⟩ := x
  obtain ⟨yb, yo, yr, yd, ypa, ypc, yp⟩ := y
  unfold Rc.v
  dsimp only at *
  go_enter Tryz.func78, Tryz.ntmps78
  go_wp2_with (go_at_call 57; refine (hcon _).mono ?_; rintro e w' ⟨rfl, rfl⟩)
  go_ret
  exact ⟨rfl, 0, _, by rw [alloc_eq_grow, alloc_eq_grow, grow_grow]; rfl⟩
/-- a racer's cells -/
def rcE (x : Rc) : List Value := x.v.toList
def rcV (l : List Rc) : List Value := l.flatMap rcE
theorem rcE_len (x : Rc) : (rcE x).length = 5 := rfl
theorem rcV_len (l : List Rc) : (rcV l).length = l.length * 5 := by
  induction l with
  | nil => rfl
  | cons x l ih => simp only [rcV, List.flatMap_cons, List.length_append, rcE_len, List.length_cons] at *; omega
theorem rcV_snoc (l : List Rc) (x : Rc) : rcV (l ++ [x]) = rcV l ++ rcE x := by simp [rcV]
theorem rcV_get (l : List Rc) {i r : Nat} (hi : i < l.length) (hr : r < 5) : (rcV l)[i * 5 + r]? = (rcE (l.getD i default))[r]? := by
  induction l generalizing i with
  | nil => simp at hi
  | cons x l ih =>
    simp only [rcV, List.flatMap_cons] at *
    cases i with
    | zero => rw [Nat.zero_mul, Nat.zero_add, List.getElem?_append_left (by rw [rcE_len]; exact hr)]; rfl
    | succ i =>
      rw [List.getElem?_append_right (by rw [rcE_len]; omega), rcE_len, show (i + 1) * 5 + r - 5 = i * 5 + r by omega]
      rw [ih (by simpa using hi)]
      simp
theorem flat_rc (l : List Rc) : (flatK rcE 5 l.toArray).toList = rcV l := by
  apply List.ext_getElem?
  intro t
  by_cases ht : t < l.length * 5
  · have e := rcV_get l (i := t / 5) (r := t % 5) (by omega) (by omega)
    rw [show t / 5 * 5 + t % 5 = t by omega] at e
    rw [e]
    have h2 := get_flatK rcE 5 l.toArray t (by simpa using ht)
    have hs : t < (flatK rcE 5 l.toArray).size := by simpa using ht
    rw [getElem!_pos (flatK rcE 5 l.toArray) t hs] at h2
    have hq : t / 5 < l.length := by omega
    have h3 : (l.toArray)[t / 5]! = l.getD (t / 5) default := by
      rw [getElem!_pos l.toArray (t / 5) (by simpa using hq)]
      simp [List.getD_eq_getElem?_getD, hq]
    rw [h3] at h2
    have hr : t % 5 < (rcE (l.getD (t / 5) default)).length := by rw [rcE_len]; omega
    rw [getElem!_pos (rcE (l.getD (t / 5) default)) (t % 5) hr] at h2
    rw [List.getElem?_eq_getElem (by simpa using hs), List.getElem?_eq_getElem hr, ← h2]
    simp
  · rw [List.getElem?_eq_none (by simp; omega), List.getElem?_eq_none (by rw [rcV_len]; omega)]
theorem holds_rc {W : World} {g n : Nat} {cur : Array Value} {l : List Rc} (hb : W.heap[g]? = some (.cells cur 60 (0, 0))) (ht : cur.toList.take (l.length * 5) = rcV l) : HoldsK rcE 5 W g 0 l.toArray := by
  intro j hj
  have hj' : j < l.length * 5 := by simpa using hj
  refine ⟨?_, by simp [World.frozen?, hb]⟩
  have h1 : (cur.toList.take (l.length * 5))[j]? = ((flatK rcE 5 l.toArray).toList)[j]? := by rw [ht, flat_rc]
  rw [List.getElem?_take_of_lt hj'] at h1
  simp only [World.cell?, hb, Nat.zero_add]
  simp only [Option.isSome_none, Bool.false_eq_true, if_false]
  rw [← Array.getElem?_toList, h1, Array.getElem?_toList]
  rw [getElem!_pos (flatK rcE 5 l.toArray) j hj]
  simp only [id]
  exact Array.getElem?_eq_getElem hj
theorem heap_srt {w : World} {g n : Nat} {os : Array Obj} {cur : Array Value} {e : TypeId} {fr : Nat × Nat} (F : Array Value) (hb : w.heap[g]? = some (.cells cur e fr)) :
    (grow (putRow id (Sort.ahead w n) g 0 F) os).heap[g]? = some (.cells (putCells id 0 F cur) e fr) := by
  have hg : g < w.heap.size := (Array.getElem?_eq_some_iff.1 hb).1
  rw [heap_grow_old _ _ (by simpa using hg)]
  simp [putRow, mapBlock, Sort.ahead, Array.getElem?_modify, hb, onCells]
theorem grownBy_srt {w : World} {g n : Nat} {os : Array Obj} (F : Array Value) : w.grownBy (grow (putRow id (Sort.ahead w n) g 0 F) os) (some g) := by
  refine ⟨rfl, rfl, rfl, by simp, fun k hk hne => ?_⟩
  rw [heap_grow_old _ _ (by simpa using hk)]
  have : g ≠ k := fun e => hne (by rw [e])
  simp [putRow, mapBlock, Sort.ahead, Array.getElem?_modify, this]
theorem take_putFlat (cur F : Array Value) (h : F.size ≤ cur.size) : (putCells id 0 F cur).toList.take F.size = F.toList := by
  apply List.ext_getElem?
  intro j
  by_cases hj : j < F.size
  · rw [List.getElem?_take_of_lt hj, Array.getElem?_toList]
    simp [putCells, hj, show j < cur.size by omega]
  · rw [List.getElem?_take_eq_none (by omega), List.getElem?_eq_none (by simp; omega)]
/-- behind the sort the same slice owns what was sorted -/
theorem own_srt {w : World} {base g cap n : Nat} {os : Array Obj} {cur : Array Value} {l l' : List Rc} (hl : l'.length = l.length) (hbase : base ≤ g) (hb : w.heap[g]? = some (.cells cur 60 (0, 0)))
    (h1 : l.length ≤ cap) (h2 : cap ≤ maxLen) (h3 : cur.size = cap * 5) :
    (sortWorldK rcE 5 w g 0 n l'.toArray os).ownsRow base 60 5 (.slice (some ⟨g, 0, none⟩) l.length cap) l.length (rcV l') := by
  unfold sortWorldK putRowK
  have hF : (flatK rcE 5 l'.toArray).size = l.length * 5 := by simp [hl]
  refine ⟨by rw [rcV_len, hl], .inr ⟨g, cap, _, rfl, hbase, heap_srt _ hb, h1, h2, by simp [putCells, h3], ?_⟩⟩
  rw [← hF, take_putFlat _ _ (by rw [hF, h3]; omega), flat_rc]
/-- sorted by ring -/
def srt (l : List Rc) : List Rc := l.mergeSort fun x y => decide (x.bird ≤ y.bird)
theorem srt_len (l : List Rc) : (srt l).length = l.length := by simp [srt]
theorem srt_perm (l : List Rc) : (srt l).Perm l := List.mergeSort_perm _ _
theorem srt_pw (l : List Rc) : (srt l).Pairwise fun x y => x.bird ≤ y.bird := by
  have := List.pairwise_mergeSort (le := fun x y : Rc => decide (x.bird ≤ y.bird)) (fun a b c h1 h2 => by simp at *; omega) (fun a b => by simp; omega) l
  exact this.imp fun h => by simpa using h
/-- no two of one ring -/
def Uniq (l : List Rc) : Prop := l.Pairwise fun x y => x.bird ≠ y.bird
theorem uniq_eq {l : List Rc} (h : Uniq l) {x y : Rc} (hx : x ∈ l) (hy : y ∈ l) (e : x.bird = y.bird) : x = y := by
  induction l with
  | nil => simp at hx
  | cons a l ih =>
    rw [Uniq, List.pairwise_cons] at h
    rcases List.mem_cons.1 hx with h1 | h1
    · rcases List.mem_cons.1 hy with h2 | h2
      · rw [h1, h2]
      · rw [h1] at e
        exact absurd e (h.1 y h2)
    · rcases List.mem_cons.1 hy with h2 | h2
      · rw [h2] at e
        exact absurd e.symm (h.1 x h1)
      · exact ih h.2 h1 h2
theorem srt_unique {l l' : List Rc} (h : Uniq l) (hp : l'.Perm l) (hs : l'.Pairwise fun x y => x.bird ≤ y.bird) : l' = srt l :=
  List.Perm.eq_of_pairwise (le := fun x y : Rc => x.bird ≤ y.bird) (fun a b ha hb h1 h2 => uniq_eq h (hp.mem_iff.1 ha) ((srt_perm l).mem_iff.1 hb) (by omega)) hs (srt_pw l) (hp.trans (srt_perm l).symm)
theorem ltBird (x y : Rc) : decide (birdC x y < 0) = decide (x.bird < y.bird) := by
  unfold birdC cmpI
  by_cases h1 : x.bird < y.bird
  · simp [h1]
  · by_cases h2 : y.bird < x.bird <;> simp [h1, h2]
end Go.Proofs.YtnkmcoljijmgpaaGreat
set_option linter.unusedSimpArgs false
set_option linter.unusedVariables false
namespace Go.Proofs.YtnkmcoljijmgpaaGreat
open Go.RowKit Go.Shelf
attribute [local go_sem] Oper.semAt_some
/-- the cells of a fund -/
def IsFu (A : Array Value) : Prop := ∃ (x0 x1 x2 : Int) (x3 : Option Addr) (xl xc : Nat) (x4 : Int) (x5 : Bool) (x6 : Option Addr) (xm xd : Nat) (x7 : Option Addr) (xn xe : Nat), A = #[.int .i64 x0, .int .i64 x1, .int .i64 x2, .slice x3 xl xc, .int .i64 x4, .bool x5, .slice x6 xm xd, .slice x7 xn xe]
theorem Fu.is (f : Fu) : IsFu f.v := ⟨_, _, _, _, _, _, _, _, _, _, _, _, _, _, rfl⟩
/-- the cells of a racer -/
def IsRc (A : Array Value) : Prop := ∃ (x0 x1 x2 x3 : Int) (x4 : Option Addr) (xl xc : Nat), A = #[.int .i64 x0, .int .i64 x1, .int .i64 x2, .int .i64 x3, .slice x4 xl xc]
theorem Rc.is (x : Rc) : IsRc x.v := ⟨_, _, _, _, _, _, _, rfl⟩
set_option maxRecDepth 100000 in
set_option maxHeartbeats 4000000 in
theorem store85 (W : World) (g : Nat) (d s : Operand) {OLD NEW : Array Value} (hO : IsFu OLD) (hR : IsFu NEW) (op : Oper) (ev : Operand → Value) (ho : op.op = .store 85 d s) (hv : ev d = .pointer (some ⟨g, 0, none⟩)) (hs : ev s = .agg NEW) (hB : Blk W g 85 OLD) :
    ∃ W2, (execOp ev op).run Tryz.prog W = .ok .skip W2 ∧ Blk W2 g 85 NEW ∧ (∀ b, b ≠ g → W2.heap[b]? = W.heap[b]?) ∧ ∀ w0 : World, w0.heap.size ≤ g → G w0 W → G w0 W2 := by
  obtain ⟨y0, y1, y2, y3, yl, yc, y4, y5, y6, ym, yd, y7, yn, ye, rfl⟩ := hO
  obtain ⟨x0, x1, x2, x3, xl, xc, x4, x5, x6, xm, xd, x7, xn, xe, rfl⟩ := hR
  have c0 : W.cell? ⟨g, 0, none⟩ = some (.int .i64 y0) := hB.cell 0
  have z0 := hB.frozen 0
  have c1 : W.cell? ⟨g, 1, none⟩ = some (.int .i64 y1) := hB.cell 1
  have z1 := hB.frozen 1
  have c2 : W.cell? ⟨g, 2, none⟩ = some (.int .i64 y2) := hB.cell 2
  have z2 := hB.frozen 2
  have c3 : W.cell? ⟨g, 3, none⟩ = some (.slice y3 yl yc) := hB.cell 3
  have z3 := hB.frozen 3
  have c4 : W.cell? ⟨g, 4, none⟩ = some (.int .i64 y4) := hB.cell 4
  have z4 := hB.frozen 4
  have c5 : W.cell? ⟨g, 5, none⟩ = some (.bool y5) := hB.cell 5
  have z5 := hB.frozen 5
  have c6 : W.cell? ⟨g, 6, none⟩ = some (.slice y6 ym yd) := hB.cell 6
  have z6 := hB.frozen 6
  have c7 : W.cell? ⟨g, 7, none⟩ = some (.slice y7 yn ye) := hB.cell 7
  have z7 := hB.frozen 7
  have lB := hB.lt
  refine ⟨((((((((W).setCell ⟨g, 0, none⟩ (.int .i64 x0)).setCell ⟨g, 1, none⟩ (.int .i64 x1)).setCell ⟨g, 2, none⟩ (.int .i64 x2)).setCell ⟨g, 3, none⟩ (.slice x3 xl xc)).setCell ⟨g, 4, none⟩ (.int .i64 x4)).setCell ⟨g, 5, none⟩ (.bool x5)).setCell ⟨g, 6, none⟩ (.slice x6 xm xd)).setCell ⟨g, 7, none⟩ (.slice x7 xn xe), ?_, ?_, ?_, fun w0 hg hG => ((((((((hG).s (p := ⟨g, 0, none⟩) hg (.int .i64 x0)).s (p := ⟨g, 1, none⟩) hg (.int .i64 x1)).s (p := ⟨g, 2, none⟩) hg (.int .i64 x2)).s (p := ⟨g, 3, none⟩) hg (.slice x3 xl xc)).s (p := ⟨g, 4, none⟩) hg (.int .i64 x4)).s (p := ⟨g, 5, none⟩) hg (.bool x5)).s (p := ⟨g, 6, none⟩) hg (.slice x6 xm xd)).s (p := ⟨g, 7, none⟩) hg (.slice x7 xn xe)⟩
  · clear hB
    unfold execOp
    simp only [ho, hv, hs]
    go_simp
  · have b := ((((((((hB).set_ 0 (.int .i64 x0)).set_ 1 (.int .i64 x1)).set_ 2 (.int .i64 x2)).set_ 3 (.slice x3 xl xc)).set_ 4 (.int .i64 x4)).set_ 5 (.bool x5)).set_ 6 (.slice x6 xm xd)).set_ 7 (.slice x7 xn xe)
    simp only [List.setIfInBounds_toArray, List.set_cons_zero, List.set_cons_succ] at b
    exact b
  · exact far_trans (far_trans (far_trans (far_trans (far_trans (far_trans (far_trans (far_trans (fun _ _ => rfl) 0 (.int .i64 x0)) 1 (.int .i64 x1)) 2 (.int .i64 x2)) 3 (.slice x3 xl xc)) 4 (.int .i64 x4)) 5 (.bool x5)) 6 (.slice x6 xm xd)) 7 (.slice x7 xn xe)
theorem wp_store85 {o : Oper} {a : Act} {W : World} {K : Act → World → Prop} {Q : Exit → Act → World → Prop} (g : Nat) (d s : Operand) {OLD NEW : Array Value} (hO : IsFu OLD) (hR : IsFu NEW) (ho : o.op = .store 85 d s) (hv : a.eval d = .pointer (some ⟨g, 0, none⟩)) (hs : a.eval s = .agg NEW) (hB : Blk W g 85 OLD)
    (hk : ∀ W2, Blk W2 g 85 NEW → (∀ b, b ≠ g → W2.heap[b]? = W.heap[b]?) → (∀ w0 : World, w0.heap.size ≤ g → G w0 W → G w0 W2) → K (a.put o.dst undef) W2) : Oper.wp Tryz.prog o a W K Q := by
  obtain ⟨W2, h1, h2, h3, h4⟩ := store85 W g d s hO hR o a.eval ho hv hs hB
  unfold Oper.wp
  rw [h1]
  exact hk W2 h2 h3 h4
theorem wpList_store85 {w : World} {ops : Array Oper} {rest : List Oper} {o : Oper} {a : Act} {Q : Exit → Act → World → Prop} (g : Nat) (d s : Operand) {OLD NEW : Array Value} (hO : IsFu OLD) (hR : IsFu NEW) (hgd : o.guard = none) (ho : o.op = .store 85 d s) (hv : a.eval d = .pointer (some ⟨g, 0, none⟩)) (hs : a.eval s = .agg NEW) (hB : Blk w g 85 OLD)
    (h : ∀ W2, Blk W2 g 85 NEW → (∀ b, b ≠ g → W2.heap[b]? = w.heap[b]?) → (∀ w0 : World, w0.heap.size ≤ g → G w0 w → G w0 W2) → wpList Tryz.prog ops Q rest (a.put o.dst undef) W2) : wpList Tryz.prog ops Q (o :: rest) a w := by
  refine wpList_plain hgd fun K hK => ?_
  exact wp_store85 g d s hO hR ho hv hs hB fun W2 h1 h2 h3 => hK _ _ (h W2 h1 h2 h3)
set_option maxRecDepth 100000 in
set_option maxHeartbeats 4000000 in
theorem load85 (W : World) (g : Nat) (d : Operand) {REL : Array Value} (hR : IsFu REL) (op : Oper) (ev : Operand → Value) (ho : op.op = .load 85 d) (hv : ev d = .pointer (some ⟨g, 0, none⟩)) (hB : Blk W g 85 REL) : (execOp ev op).run Tryz.prog W = .ok (.value (.agg REL)) W := by
  obtain ⟨x0, x1, x2, x3, xl, xc, x4, x5, x6, xm, xd, x7, xn, xe, rfl⟩ := hR
  have c0 : W.cell? ⟨g, 0, none⟩ = some (.int .i64 x0) := hB.cell 0
  have c1 : W.cell? ⟨g, 1, none⟩ = some (.int .i64 x1) := hB.cell 1
  have c2 : W.cell? ⟨g, 2, none⟩ = some (.int .i64 x2) := hB.cell 2
  have c3 : W.cell? ⟨g, 3, none⟩ = some (.slice x3 xl xc) := hB.cell 3
  have c4 : W.cell? ⟨g, 4, none⟩ = some (.int .i64 x4) := hB.cell 4
  have c5 : W.cell? ⟨g, 5, none⟩ = some (.bool x5) := hB.cell 5
  have c6 : W.cell? ⟨g, 6, none⟩ = some (.slice x6 xm xd) := hB.cell 6
  have c7 : W.cell? ⟨g, 7, none⟩ = some (.slice x7 xn xe) := hB.cell 7
  have lB := hB.lt
  clear hB
  unfold execOp
  simp only [ho, hv]
  go_simp
  try rfl
theorem wpList_load85 {w : World} {ops : Array Oper} {rest : List Oper} {o : Oper} {a : Act} {Q : Exit → Act → World → Prop} (g : Nat) (d : Operand) {REL : Array Value} (hR : IsFu REL) (hgd : o.guard = none) (ho : o.op = .load 85 d) (hv : a.eval d = .pointer (some ⟨g, 0, none⟩)) (hB : Blk w g 85 REL)
    (h : wpList Tryz.prog ops Q rest (a.put o.dst (.agg REL)) w) : wpList Tryz.prog ops Q (o :: rest) a w := by
  refine wpList_plain hgd fun K hK => ?_
  unfold Oper.wp
  rw [load85 w g d hR o a.eval ho hv hB]
  exact hK _ _ h
set_option maxRecDepth 100000 in
set_option maxHeartbeats 4000000 in
theorem store60 (W : World) (g : Nat) (d s : Operand) {OLD NEW : Array Value} (hO : IsRc OLD) (hR : IsRc NEW) (op : Oper) (ev : Operand → Value) (ho : op.op = .store 60 d s) (hv : ev d = .pointer (some ⟨g, 0, none⟩)) (hs : ev s = .agg NEW) (hB : Blk W g 60 OLD) :
    ∃ W2, (execOp ev op).run Tryz.prog W = .ok .skip W2 ∧ Blk W2 g 60 NEW ∧ (∀ b, b ≠ g → W2.heap[b]? = W.heap[b]?) ∧ ∀ w0 : World, w0.heap.size ≤ g → G w0 W → G w0 W2 := by
  obtain ⟨y0, y1, y2, y3, y4, yl, yc, rfl⟩ := hO
  obtain ⟨x0, x1, x2, x3, x4, xl, xc, rfl⟩ := hR
  have c0 : W.cell? ⟨g, 0, none⟩ = some (.int .i64 y0) := hB.cell 0
  have z0 := hB.frozen 0
  have c1 : W.cell? ⟨g, 1, none⟩ = some (.int .i64 y1) := hB.cell 1
  have z1 := hB.frozen 1
  have c2 : W.cell? ⟨g, 2, none⟩ = some (.int .i64 y2) := hB.cell 2
  have z2 := hB.frozen 2
  have c3 : W.cell? ⟨g, 3, none⟩ = some (.int .i64 y3) := hB.cell 3
  have z3 := hB.frozen 3
  have c4 : W.cell? ⟨g, 4, none⟩ = some (.slice y4 yl yc) := hB.cell 4
  have z4 := hB.frozen 4
  have lB := hB.lt
  refine ⟨(((((W).setCell ⟨g, 0, none⟩ (.int .i64 x0)).setCell ⟨g, 1, none⟩ (.int .i64 x1)).setCell ⟨g, 2, none⟩ (.int .i64 x2)).setCell ⟨g, 3, none⟩ (.int .i64 x3)).setCell ⟨g, 4, none⟩ (.slice x4 xl xc), ?_, ?_, ?_, fun w0 hg hG => (((((hG).s (p := ⟨g, 0, none⟩) hg (.int .i64 x0)).s (p := ⟨g, 1, none⟩) hg (.int .i64 x1)).s (p := ⟨g, 2, none⟩) hg (.int .i64 x2)).s (p := ⟨g, 3, none⟩) hg (.int .i64 x3)).s (p := ⟨g, 4, none⟩) hg (.slice x4 xl xc)⟩
  · clear hB
    unfold execOp
    simp only [ho, hv, hs]
    go_simp
  · have b := (((((hB).set_ 0 (.int .i64 x0)).set_ 1 (.int .i64 x1)).set_ 2 (.int .i64 x2)).set_ 3 (.int .i64 x3)).set_ 4 (.slice x4 xl xc)
    simp only [List.setIfInBounds_toArray, List.set_cons_zero, List.set_cons_succ] at b
    exact b
  · exact far_trans (far_trans (far_trans (far_trans (far_trans (fun _ _ => rfl) 0 (.int .i64 x0)) 1 (.int .i64 x1)) 2 (.int .i64 x2)) 3 (.int .i64 x3)) 4 (.slice x4 xl xc)
theorem wp_store60 {o : Oper} {a : Act} {W : World} {K : Act → World → Prop} {Q : Exit → Act → World → Prop} (g : Nat) (d s : Operand) {OLD NEW : Array Value} (hO : IsRc OLD) (hR : IsRc NEW) (ho : o.op = .store 60 d s) (hv : a.eval d = .pointer (some ⟨g, 0, none⟩)) (hs : a.eval s = .agg NEW) (hB : Blk W g 60 OLD)
    (hk : ∀ W2, Blk W2 g 60 NEW → (∀ b, b ≠ g → W2.heap[b]? = W.heap[b]?) → (∀ w0 : World, w0.heap.size ≤ g → G w0 W → G w0 W2) → K (a.put o.dst undef) W2) : Oper.wp Tryz.prog o a W K Q := by
  obtain ⟨W2, h1, h2, h3, h4⟩ := store60 W g d s hO hR o a.eval ho hv hs hB
  unfold Oper.wp
  rw [h1]
  exact hk W2 h2 h3 h4
theorem wpList_store60 {w : World} {ops : Array Oper} {rest : List Oper} {o : Oper} {a : Act} {Q : Exit → Act → World → Prop} (g : Nat) (d s : Operand) {OLD NEW : Array Value} (hO : IsRc OLD) (hR : IsRc NEW) (hgd : o.guard = none) (ho : o.op = .store 60 d s) (hv : a.eval d = .pointer (some ⟨g, 0, none⟩)) (hs : a.eval s = .agg NEW) (hB : Blk w g 60 OLD)
    (h : ∀ W2, Blk W2 g 60 NEW → (∀ b, b ≠ g → W2.heap[b]? = w.heap[b]?) → (∀ w0 : World, w0.heap.size ≤ g → G w0 w → G w0 W2) → wpList Tryz.prog ops Q rest (a.put o.dst undef) W2) : wpList Tryz.prog ops Q (o :: rest) a w := by
  refine wpList_plain hgd fun K hK => ?_
  exact wp_store60 g d s hO hR ho hv hs hB fun W2 h1 h2 h3 => hK _ _ (h W2 h1 h2 h3)
set_option maxRecDepth 100000 in
set_option maxHeartbeats 4000000 in
theorem load60 (W : World) (g : Nat) (d : Operand) {REL : Array Value} (hR : IsRc REL) (op : Oper) (ev : Operand → Value) (ho : op.op = .load 60 d) (hv : ev d = .pointer (some ⟨g, 0, none⟩)) (hB : Blk W g 60 REL) : (execOp ev op).run Tryz.prog W = .ok (.value (.agg REL)) W := by
  obtain ⟨x0, x1, x2, x3, x4, xl, xc, rfl⟩ := hR
  have c0 : W.cell? ⟨g, 0, none⟩ = some (.int .i64 x0) := hB.cell 0
  have c1 : W.cell? ⟨g, 1, none⟩ = some (.int .i64 x1) := hB.cell 1
  have c2 : W.cell? ⟨g, 2, none⟩ = some (.int .i64 x2) := hB.cell 2
  have c3 : W.cell? ⟨g, 3, none⟩ = some (.int .i64 x3) := hB.cell 3
  have c4 : W.cell? ⟨g, 4, none⟩ = some (.slice x4 xl xc) := hB.cell 4
  have lB := hB.lt
  clear hB
  unfold execOp
  simp only [ho, hv]
  go_simp
  try rfl
theorem wpList_load60 {w : World} {ops : Array Oper} {rest : List Oper} {o : Oper} {a : Act} {Q : Exit → Act → World → Prop} (g : Nat) (d : Operand) {REL : Array Value} (hR : IsRc REL) (hgd : o.guard = none) (ho : o.op = .load 60 d) (hv : a.eval d = .pointer (some ⟨g, 0, none⟩)) (hB : Blk w g 60 REL)
    (h : wpList Tryz.prog ops Q rest (a.put o.dst (.agg REL)) w) : wpList Tryz.prog ops Q (o :: rest) a w := by
  refine wpList_plain hgd fun K hK => ?_
  unfold Oper.wp
  rw [load60 w g d hR o a.eval ho hv hB]
  exact hK _ _ h
set_option maxRecDepth 100000 in
set_option maxHeartbeats 4000000 in
theorem res53 (tmps : Array Value) (w : World) (g : Nat) {REL : Array Value} (hR : IsFu REL) (h : tmps.getD 4 undef = .pointer (some ⟨g, 0, none⟩)) (hB : Blk w g 85 REL) :
    (results Tryz.f53 tmps).run Tryz.prog w = .ok (.agg REL) w := by
  obtain ⟨x0, x1, x2, x3, xl, xc, x4, x5, x6, xm, xd, x7, xn, xe, rfl⟩ := hR
  have c0 : w.cell? ⟨g, 0, none⟩ = some (.int .i64 x0) := hB.cell 0
  have c1 : w.cell? ⟨g, 1, none⟩ = some (.int .i64 x1) := hB.cell 1
  have c2 : w.cell? ⟨g, 2, none⟩ = some (.int .i64 x2) := hB.cell 2
  have c3 : w.cell? ⟨g, 3, none⟩ = some (.slice x3 xl xc) := hB.cell 3
  have c4 : w.cell? ⟨g, 4, none⟩ = some (.int .i64 x4) := hB.cell 4
  have c5 : w.cell? ⟨g, 5, none⟩ = some (.bool x5) := hB.cell 5
  have c6 : w.cell? ⟨g, 6, none⟩ = some (.slice x6 xm xd) := hB.cell 6
  have c7 : w.cell? ⟨g, 7, none⟩ = some (.slice x7 xn xe) := hB.cell 7
  clear hB
  have hr : Tryz.f53.results = #[.cell 4 85] := rfl
  have h' : tmps[4]?.getD undef = .pointer (some ⟨g, 0, none⟩) := by simpa using h
  simp only [results, hr]
  go_simp
end Go.Proofs.YtnkmcoljijmgpaaGreat
set_option linter.unusedSimpArgs false
set_option linter.unusedVariables false
namespace Go.Proofs.YtnkmcoljijmgpaaGreat
open Go.RowKit Go.Shelf Go.Sort
attribute [local go_sem] Oper.semAt_some
def Tryz.sortRc_ren : Go.Shelf.Ren := ⟨fun | 6 => 77 | 15 => 102 | 14 => 101 | 28 => 127 | 29 => 128 | 20 => 119 | 21 => 120 | 22 => 121 | 23 => 122 | 24 => 123 | 25 => 124 | 26 => 125 | 27 => 126 | 46 => 151 | 47 => 152 | 48 => 153 | 49 => 154 | 50 => 155 | 57 => 164 | n => n, fun | 22 => 22 | 24 => 60 | 25 => 123 | 3 => 3 | 39 => 72 | 0 => 0 | 53 => 156 | 55 => 158 | 4 => 4 | 46 => 149 | 45 => 148 | 50 => 153 | 5 => 5 | 9 => 9 | 66 => 172 | 70 => 176 | 76 => 182 | 77 => 183 | n => n, fun | n => n⟩
theorem Tryz.sortRc : Go.Proofs.SlLaysF0.n6 Tryz.prog Tryz.sortRc_ren := {
  mixed := by kernel_rfl,
  f6 := ⟨Tryz.f77.name, by decide, Tryz.func77.trans (congrArg some (by kernel_rfl))⟩,
  f14 := ⟨Tryz.f101.name, by decide, Tryz.func101.trans (congrArg some (by kernel_rfl))⟩,
  f15 := Tryz.func102.trans (congrArg some (by kernel_rfl)),
  f20 := ⟨Tryz.f119.name, by decide, Tryz.func119.trans (congrArg some (by kernel_rfl))⟩,
  f21 := ⟨Tryz.f120.name, by decide, Tryz.func120.trans (congrArg some (by kernel_rfl))⟩,
  f22 := ⟨Tryz.f121.name, by decide, Tryz.func121.trans (congrArg some (by kernel_rfl))⟩,
  f23 := ⟨Tryz.f122.name, by decide, Tryz.func122.trans (congrArg some (by kernel_rfl))⟩,
  f24 := ⟨Tryz.f123.name, by decide, Tryz.func123.trans (congrArg some (by kernel_rfl))⟩,
  f25 := ⟨Tryz.f124.name, by decide, Tryz.func124.trans (congrArg some (by kernel_rfl))⟩,
  f26 := ⟨Tryz.f125.name, by decide, Tryz.func125.trans (congrArg some (by kernel_rfl))⟩,
  f27 := ⟨Tryz.f126.name, by decide, Tryz.func126.trans (congrArg some (by kernel_rfl))⟩,
  f28 := Tryz.func127.trans (congrArg some (by kernel_rfl)),
  f29 := Tryz.func128.trans (congrArg some (by kernel_rfl)),
  f46 := ⟨Tryz.f151.name, by decide, Tryz.func151.trans (congrArg some (by kernel_rfl))⟩,
  f47 := Tryz.func152.trans (congrArg some (by kernel_rfl)),
  f48 := Tryz.func153.trans (congrArg some (by kernel_rfl)),
  f49 := ⟨Tryz.f154.name, by decide, Tryz.func154.trans (congrArg some (by kernel_rfl))⟩,
  f50 := ⟨Tryz.f155.name, by decide, Tryz.func155.trans (congrArg some (by kernel_rfl))⟩,
  f57 := ⟨Tryz.f164.name, by decide, Tryz.func164.trans (congrArg some (by kernel_rfl))⟩,
  t0 := Tryz.underlying0,
  a0 := Tryz.isAgg0,
  z0 := Tryz.sizeOf0,
  v0 := Tryz.zeroValue0,
  t3 := Tryz.underlying3,
  a3 := Tryz.isAgg3,
  z3 := Tryz.sizeOf3,
  v3 := Tryz.zeroValue3,
  t4 := Tryz.underlying4,
  a4 := Tryz.isAgg4,
  z4 := Tryz.sizeOf4,
  v4 := Tryz.zeroValue4,
  t5 := Tryz.underlying5,
  a5 := Tryz.isAgg5,
  z5 := Tryz.sizeOf5,
  v5 := Tryz.zeroValue5,
  t9 := Tryz.underlying9,
  a9 := Tryz.isAgg9,
  z9 := Tryz.sizeOf9,
  v9 := Tryz.zeroValue9,
  t22 := Tryz.underlying22,
  a22 := Tryz.isAgg22,
  z22 := Tryz.sizeOf22,
  v22 := Tryz.zeroValue22,
  t25 := Tryz.underlying123,
  a25 := Tryz.isAgg123,
  z25 := Tryz.sizeOf123,
  v25 := Tryz.zeroValue123,
  t39 := Tryz.underlying72,
  a39 := Tryz.isAgg72,
  z39 := Tryz.sizeOf72,
  v39 := Tryz.zeroValue72,
  t45 := Tryz.underlying148,
  a45 := Tryz.isAgg148,
  z45 := Tryz.sizeOf148,
  v45 := Tryz.zeroValue148,
  t46 := Tryz.underlying149,
  a46 := Tryz.isAgg149,
  z46 := Tryz.sizeOf149,
  v46 := Tryz.zeroValue149,
  t50 := Tryz.underlying153,
  a50 := Tryz.isAgg153,
  z50 := Tryz.sizeOf153,
  v50 := Tryz.zeroValue153,
  t53 := Tryz.underlying156,
  a53 := Tryz.isAgg156,
  z53 := Tryz.sizeOf156,
  v53 := Tryz.zeroValue156,
  t55 := Tryz.underlying158,
  a55 := Tryz.isAgg158,
  z55 := Tryz.sizeOf158,
  v55 := Tryz.zeroValue158,
  t66 := Tryz.underlying172,
  a66 := Tryz.isAgg172,
  z66 := Tryz.sizeOf172,
  v66 := Tryz.zeroValue172,
  t70 := Tryz.underlying176,
  a70 := Tryz.isAgg176,
  z70 := Tryz.sizeOf176,
  v70 := Tryz.zeroValue176,
  t76 := Tryz.underlying182,
  a76 := Tryz.isAgg182,
  z76 := Tryz.sizeOf182,
  v76 := Tryz.zeroValue182,
  t77 := Tryz.underlying183,
  a77 := Tryz.isAgg183,
  z77 := Tryz.sizeOf183,
  v77 := Tryz.zeroValue183 }

theorem perm_toList {α : Type} [Inhabited α] {d d' : Array α} (h : PermIn 0 d.size d d') : d'.toList.Perm d.toList := by
  obtain ⟨h1, _, h3⟩ := h
  have e1 : d'.extract 0 d.size = d' := by rw [← h1]; exact Array.extract_size
  rw [e1, Array.extract_size] at h3
  exact h3
theorem swoBird : SWO (ltOf birdC) where
  irrefl x := by rw [show ltOf birdC x x = _ from ltBird x x]; simp
  trans x y z h1 h2 := by rw [show ltOf birdC x y = _ from ltBird x y] at h1; rw [show ltOf birdC y z = _ from ltBird y z] at h2; rw [show ltOf birdC x z = _ from ltBird x z]; simp at *; omega
  ntrans x y z h1 h2 := by rw [show ltOf birdC x y = _ from ltBird x y] at h1; rw [show ltOf birdC y z = _ from ltBird y z] at h2; rw [show ltOf birdC x z = _ from ltBird x z]; simp at *; omega
theorem srt_of {l : List Rc} (hu : Uniq l) {d' : Array Rc} (hp : PermIn 0 l.toArray.size l.toArray d') (hs : SortedIn (ltOf birdC) 0 l.toArray.size d') : d' = (srt l).toArray := by
  have e : d'.toList = srt l := srt_unique hu (by simpa using perm_toList hp) (by
    rw [List.pairwise_iff_getElem]
    intro i j hi hj hij
    have hsz : d'.size = l.toArray.size := hp.1
    have hi' : i < d'.size := by simpa using hi
    have hj' : j < d'.size := by simpa using hj
    have := hs i j (Nat.zero_le _) hij (by omega)
    rw [show ltOf birdC d'[j]! d'[i]! = _ from ltBird _ _] at this
    rw [getElem!_pos d' j hj', getElem!_pos d' i hi'] at this
    simp at this
    simpa using this)
  rw [← e]
/-- slices.SortFunc by ring, at a row of one's own -/
theorem sort_own (l : List Rc) (hu : Uniq l) (hl : l.length ≤ 1000) (W : World) (B : Nat) (v : Value) (h : W.ownsRow B 60 5 v l.length (rcV l)) : Calls Tryz.prog 77 #[v, .func (.func 78) #[] #[]] W fun e w' => e = .returned (.tuple #[]) ∧ w'.ownsRow B 60 5 v l.length (rcV (srt l)) ∧ W.grownBy w' v.ownBlock := by
  rcases h.2 with ⟨rfl, h0⟩ | ⟨g, cap, cur, rfl, hb, hg, h1, h2, h3, h4⟩
  · have hl0 : l = [] := List.length_eq_zero_iff.1 h0
    subst hl0
    have hc := AnyF.slices_SortFunc_none Tryz.sortRc none 0 (.func (.func 78) #[] #[]) W
    change Calls Tryz.prog 77 _ _ _ at hc
    refine hc.mono ?_
    rintro e w' ⟨rfl, rfl⟩
    exact ⟨rfl, by rw [show srt [] = [] by simp [srt]]; exact h, World.grownBy.refl _ _⟩
  · have hlt : g < W.heap.size := (Array.getElem?_eq_some_iff.1 hg).1
    have hc := AnyQ.slices_SortFunc Tryz.sortRc 5 Tryz.isAgg60 Tryz.sizeOf60 rcE rcE_len (fun x v hv => by
      simp [rcE, Rc.v] at hv
      rcases hv with rfl | rfl | rfl | rfl | rfl <;> rfl) birdC swoBird 78 #[] g 0 cap l.toArray W (enters_of Tryz.func78 (by kernel_rfl) rfl) (fun m os dk _ x y => closure78 x y _) (holds_rc (n := 0) hg h4) hlt (by simp; omega)
    change Calls Tryz.prog 77 _ _ _ at hc
    rw [show l.toArray.size = l.length by simp] at hc
    refine hc.mono ?_
    rintro e w' ⟨rfl, d', n, os, hp, hs, rfl⟩
    have hd := srt_of hu (by simpa using hp) (by simpa using hs)
    subst hd
    exact ⟨rfl, own_srt (srt_len l) hb hg h1 h2 h3, grownBy_srt _⟩
end Go.Proofs.YtnkmcoljijmgpaaGreat
