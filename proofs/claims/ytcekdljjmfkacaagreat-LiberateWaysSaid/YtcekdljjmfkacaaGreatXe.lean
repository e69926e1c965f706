import Derived.Test.YtcekdljjmfkacaaGreatXd
import Derived.Deep.Cut
set_option linter.unusedSimpArgs false
set_option linter.unusedVariables false
namespace Go.Proofs.YtcekdljjmfkacaaGreat
open Go.RowKit Go.Shelf
attribute [local go_sem] Oper.semAt_some wide_fn wide_dep wideR_fn wideR_dep
theorem eq73 (a b c : Int) (w : World) : (binOp .eql 67 (.agg #[.int .i64 a, .int .i64 b, .int .i64 c]) (.agg #[.int .i64 a, .int .i64 b, .int .i64 c])).run Tryz.prog w = .ok (.bool true) w := by
  go_simp
set_option maxRecDepth 100000 in
set_option maxHeartbeats 4000000 in
theorem works_any (w : World) : Calls Tryz.prog 7 #[] w fun e w' => e = .returned (.bool true) ∧ G w w' := by
  have HEX := Lib.hid (fun W : World => rExample_any W)
  have HSA : Hid (∀ (gE gS gH gF : Nat) (W : World), (exR gE gS gH gF).Ok W → Calls Tryz.prog 20 #[.agg (exR gE gS gH gF).v, .int .i64 0, .int .i64 60] W fun e w' => e = .returned (.tuple #[.int .i64 2, .int .i64 0]) ∧ G W w') := fun gE gS gH gF W h => (rSafe_ok h (hi := 0) (mi := 60) (by show 0 < 2; omega) (by omega)).mono fun e w' hp => by
    obtain ⟨h1, h2⟩ := hp
    rw [exR_good, exR_safe] at h1
    exact ⟨h1, h2⟩
  have HBL : Hid (∀ (gE gS gH gF : Nat) (W : World), (exR gE gS gH gF).Ok W → Calls Tryz.prog 22 #[.agg (exR gE gS gH gF).v, .int .i64 57] W fun e w' => ∃ g c, e = .returned (.tuple #[.slice (some ⟨g, 0, none⟩) 2 c, .int .i64 0]) ∧ G W w' ∧ g < w'.heap.size ∧ ∀ k v, ([.int .i64 0, .int .i64 1, .int .i64 60, .int .i64 1, .int .i64 0, .int .i64 60] : List Value)[k]? = some v → w'.cell? ⟨g, k, none⟩ = some v) := fun gE gS gH gF W h => (rBlocks_ok h (mi := 57) (by omega)).mono fun e w' hp => by
    obtain ⟨h1, h2⟩ := hp
    rw [exR_good] at h2
    rcases h2 with ⟨_, v, B, h3, h4, h5⟩ | ⟨h3, _⟩
    · have e1 : bks ((exR gE gS gH gF).blk 57) (exR gE gS gH gF).n = [(0, 1, 60), (1, 0, 60)] := exR_blk gE gS gH gF
      rw [e1] at h5
      obtain ⟨g, cap, cur, rfl, hb, hl, ht⟩ := own_some h5 (by decide)
      refine ⟨g, cap, h3, h1, hl, fun k v hk => take_cell hb ht (List.getElem?_eq_some_iff.1 hk).1 hk⟩
    · exact absurd rfl h3
  have HMI := Lib.hid (fun (g : Nat) (W : World) (h : Blk W g 30 #[.int .i64 5, .int .i64 9, .int .i64 8, .int .i64 12, .int .i64 20, .int .i64 30]) => Minute_ok (some ⟨g, 0, none⟩) 3 3 exW 1 W (exW_row h) (by decide +kernel) (by decide))
  rw [exW_min] at HMI
  go_enter Tryz.func7, Tryz.ntmps7
  go_upto_region 2 with (go_at_call 28; refine (HEX.out _).mono ?_; rintro e w1 ⟨gE, gS, gH, gF, rfl, hE, hS, hH, hF, hG1⟩; unfold exRel)
  have hIs := rIs (exR gE gS gH gF)
  have gA : G w1 (w1.alloc (.cells (exR gE gS gH gF).v 35)) := (G.rf _).a _
  have b1 : Blk (w1.alloc (.cells (exR gE gS gH gF).v 35)) w1.heap.size 35 (exR gE gS gH gF).v := Blk.new w1 35 _
  change Code.wp _ _ _ _ (w1.alloc (.cells (exR gE gS gH gF).v 35))
  generalize w1.alloc (.cells (exR gE gS gH gF).v 35) = w2 at *
  have ok2 : (exR gE gS gH gF).Ok w2 := exR_ok (hE.below gA) (hS.below gA) (hH.keep gA) (hF.keep gA)
  have g1 : G w w2 := hG1.t gA
  clear hE hS hH hF gA hG1 HEX
  obtain ⟨n1, hn1⟩ : ∃ n1, n1 = w1.heap.size := ⟨_, rfl⟩
  rw [← hn1] at b1 ⊢
  clear hn1
  refine wp_region_lit ?_
  refine wpList_load35 n1 1 hIs rfl rfl rfl b1 ?_
  try simp only [Act.put, List.getElem_toArray, List.getElem_cons_zero, List.getElem_cons_succ, List.setIfInBounds_toArray, List.set_cons_zero, List.set_cons_succ]
  go_upto_region 3 with (go_at_call 20; refine (HSA.out gE gS gH gF _ ok2).mono ?_; rintro e w3 ⟨rfl, hG3⟩; replace b1 := b1.keep hG3; replace ok2 := ok2.keep hG3; replace g1 := g1.t hG3)
  refine wp_region_lit ?_
  refine wpList_load35 n1 1 hIs rfl rfl rfl b1 ?_
  try simp only [Act.put, List.getElem_toArray, List.getElem_cons_zero, List.getElem_cons_succ, List.setIfInBounds_toArray, List.set_cons_zero, List.set_cons_succ]
  go_upto_region 4 with (go_at_call 22; refine (HBL.out gE gS gH gF _ ok2).mono ?_; rintro e w4 ⟨gB, cB, rfl, hG4, hlB, hcB⟩; replace g1 := g1.t hG4)
  clear HSA HBL b1 ok2 hIs hG3 hG4
  have nG : G w4 (w4.alloc (.cells #[.int .i64 5, .int .i64 9, .int .i64 8, .int .i64 12, .int .i64 20, .int .i64 30] 30)) := (G.rf _).a _
  go_upto_region 5 with (go_at_call 29; refine (HMI.out w4.heap.size _ (Blk.new _ _ _)).mono ?_; rintro e w5 ⟨rfl, hG5⟩)
  have g5 : G w4 (w5.alloc (.cells #[.int .i64 8, .int .i64 9] 30)) := (nG.t hG5).a _
  have b5 : Blk (w5.alloc (.cells #[.int .i64 8, .int .i64 9] 30)) w5.heap.size 30 #[.int .i64 8, .int .i64 9] := Blk.new _ _ _
  generalize w5.alloc (.cells #[.int .i64 8, .int .i64 9] 30) = w6 at *
  have hd : ∀ k v, ([.int .i64 0, .int .i64 1, .int .i64 60, .int .i64 1, .int .i64 0, .int .i64 60] : List Value)[k]? = some v → w6.cell? ⟨gB, k, none⟩ = some v := fun k v hk => ((bcellB g5).1 gB _ hlB).trans (hcB k v hk)
  have d0 := hd 0 _ rfl
  have d1 := hd 1 _ rfl
  have d2 := hd 2 _ rfl
  have d3 := hd 3 _ rfl
  have d4 := hd 4 _ rfl
  have d5 := hd 5 _ rfl
  have lB := Nat.lt_of_lt_of_le hlB g5.size
  have e0 := b5.cell 0
  have e1 := b5.cell 1
  have q1 := eq73 0 1 60 w6
  have q2 := eq73 1 0 60 w6
  have g6 := g1.t g5
  clear hd hcB HMI nG hG5
  go_wp2
  go_ret
  exact ⟨rfl, g6⟩
end Go.Proofs.YtcekdljjmfkacaaGreat
set_option linter.unusedSimpArgs false
set_option linter.unusedVariables false
namespace Go.Proofs.YtcekdljjmfkacaaGreat
open Go.RowKit Go.Shelf
attribute [local go_sem] Oper.semAt_some wide_fn wide_dep wideR_fn wideR_dep
theorem rIn6_any (n lo hi : Int) (w : World) : Calls Tryz.prog 54 #[.int .i64 n, .int .i64 lo, .int .i64 hi] w fun e w' => e = .returned (.bool (isInB n lo hi)) ∧ G w w' := by
  by_cases h1 : lo ≤ n
  · go_enter Tryz.func54, Tryz.ntmps54
    go_wp2
    go_ret
    exact ⟨by simp [isInB, h1], G.rf _⟩
  · go_enter Tryz.func54, Tryz.ntmps54
    go_wp2
    go_ret
    exact ⟨by unfold isInB; rw [decide_eq_false (by omega)]; rfl, G.rf _⟩
theorem rSpan6_any (lo hi a b : Int) (w : World) : Calls Tryz.prog 36 #[.agg #[.int .i64 lo, .int .i64 hi], .int .i64 a, .int .i64 b] w fun e w' => e = .returned (.bool (spanB lo hi a b)) ∧ G w w' := by
  by_cases h1 : a ≤ lo
  · by_cases h2 : lo ≤ hi
    · have HV : Hid (spanB lo hi a b = decide (hi ≤ b)) := by unfold spanB Hid; simp [h1, h2]
      go_enter Tryz.func36, Tryz.ntmps36
      go_wp2
      go_ret
      exact ⟨by rw [HV.out]; rfl, (G.rf _).a _⟩
    · have HV : Hid (spanB lo hi a b = false) := by unfold spanB Hid; simp [h2]
      go_enter Tryz.func36, Tryz.ntmps36
      go_wp2
      go_ret
      exact ⟨by rw [HV.out]; rfl, (G.rf _).a _⟩
  · have HV : Hid (spanB lo hi a b = false) := by unfold spanB Hid; simp [h1]
    go_enter Tryz.func36, Tryz.ntmps36
    go_wp2
    go_ret
    exact ⟨by rw [HV.out]; rfl, (G.rf _).a _⟩
section
variable (a : Option Addr) (cap n : Nat) (c : Nat → Nat → Int) (wrong mi : Int) (w : World)
/-- the watches are valid, as the reference asks it -/
def watOk (n : Nat) (c : Nat → Nat → Int) (wrong : Int) : Bool := !anyU (fun i => !spanB (c i 0) (c i 1) 0 9999) n && (isInB n 1 8 && isInB wrong 0 8)
theorem watOk_eq (n : Nat) (c : Nat → Nat → Int) (wrong : Int) : (watchB n c && isInB wrong 0 8) = watOk n c wrong := by
  unfold watchB watOk
  cases isInB n 1 8 <;> cases isInB wrong 0 8 <;> cases anyU (fun i => !spanB (c i 0) (c i 1) 0 9999) n <;> rfl
theorem Minute_any (ha : RowAt w a n 2 c) : Calls Tryz.prog 29 #[.slice a n cap, .int .i64 wrong] w fun e w' => e = .returned (minR n c wrong) ∧ G w w' := by
  cases hv : watchB n c
  · have HR : Hid (minR n c wrong = .tuple #[.agg #[.int .i64 0, .int .i64 0], .int .i64 62]) := by unfold minR Hid; rw [hv]; rfl
    have HV := Lib.hid (fun (W : World) (hW : G w W) => by have h := validWatches_any a cap n c W (ha.below hW); rw [hv] at h; exact h)
    have g0 : G w (w.alloc (.cells #[.int .i64 0, .int .i64 0] 30)) := (G.rf _).a _
    have b0 := Blk.new w 30 #[.int .i64 0, .int .i64 0]
    generalize minR n c wrong = RR at *
    clear hv ha
    go_enter Tryz.func29, Tryz.ntmps29
    go_wp2_with (go_at_call 64; refine (HV.out _ g0).mono ?_; rintro e w1 ⟨rfl, hG1⟩; replace b0 := b0.keep hG1; have f0 := b0.cell 0; have f1 := b0.cell 1; have z0 := b0.frozen 0; have z1 := b0.frozen 1; have l0 := b0.lt)
    have hb2 : Blk ((w1.setCell ⟨w.heap.size, 0, none⟩ (.int .i64 0)).setCell ⟨w.heap.size, 1, none⟩ (.int .i64 0)) w.heap.size 30 #[.int .i64 0, .int .i64 0] := (b0.set_ 0 _).set_ 1 _
    exact bodyPost_ret (resMin _ _ w.heap.size 0 0 62 rfl rfl (hb2.cell 0) (hb2.cell 1)) rfl ⟨by rw [HR.out], ((g0.t hG1).s (p := ⟨w.heap.size, 0, none⟩) (Nat.le_refl _) _).s (p := ⟨w.heap.size, 1, none⟩) (Nat.le_refl _) _⟩
  · cases hw : isInB wrong 0 8
    · have HR : Hid (minR n c wrong = .tuple #[.agg #[.int .i64 0, .int .i64 0], .int .i64 62]) := by unfold minR Hid; rw [hv, hw]; rfl
      have HV := Lib.hid (fun (W : World) (hW : G w W) => by have h := validWatches_any a cap n c W (ha.below hW); rw [hv] at h; exact h)
      have HU := Lib.hid (fun W : World => by have h := lUpTo_any wrong 8 W; rw [hw] at h; exact h)
      have g0 : G w (w.alloc (.cells #[.int .i64 0, .int .i64 0] 30)) := (G.rf _).a _
      have b0 := Blk.new w 30 #[.int .i64 0, .int .i64 0]
      generalize minR n c wrong = RR at *
      clear hv hw ha
      go_enter Tryz.func29, Tryz.ntmps29
      go_wp2_with (first | (go_at_call 64; refine (HV.out _ g0).mono ?_; rintro e w1 ⟨rfl, hG1⟩; replace b0 := b0.keep hG1) | (go_at_call 50; refine (HU.out _).mono ?_; rintro e w2 ⟨rfl, hG2⟩; replace b0 := b0.keep hG2; have f0 := b0.cell 0; have f1 := b0.cell 1; have z0 := b0.frozen 0; have z1 := b0.frozen 1; have l0 := b0.lt))
      have hb2 : Blk ((w2.setCell ⟨w.heap.size, 0, none⟩ (.int .i64 0)).setCell ⟨w.heap.size, 1, none⟩ (.int .i64 0)) w.heap.size 30 #[.int .i64 0, .int .i64 0] := (b0.set_ 0 _).set_ 1 _
      exact bodyPost_ret (resMin _ _ w.heap.size 0 0 62 rfl rfl (hb2.cell 0) (hb2.cell 1)) rfl ⟨by rw [HR.out], (((g0.t hG1).t hG2).s (p := ⟨w.heap.size, 0, none⟩) (Nat.le_refl _) _).s (p := ⟨w.heap.size, 1, none⟩) (Nat.le_refl _) _⟩
    · exact Minute_ok a cap n c wrong w ha hv hw
end
end Go.Proofs.YtcekdljjmfkacaaGreat
set_option linter.unusedSimpArgs false
set_option linter.unusedVariables false
namespace Go.Proofs.YtcekdljjmfkacaaGreat
open Go.RowKit Go.Shelf
attribute [local go_sem] Oper.semAt_some wide_fn wide_dep wideR_fn wideR_dep
theorem minL_mem {n : Nat} {c : Nat → Nat → Int} {wrong : Int} {q m : Nat} : m ∈ minL n c wrong q ↔ m < q ∧ ((agN c m n : Nat) : Int) ≤ wrong := by
  unfold minL
  simp [List.mem_filter]
theorem minL_lt (n : Nat) (c : Nat → Nat → Int) (wrong : Int) (q : Nat) : (minL n c wrong q).Pairwise (· < ·) := by
  unfold minL
  exact List.Pairwise.filter _ List.pairwise_lt_range
/-- what Minute answers of valid watches -/
theorem minR_cases {n : Nat} {c : Nat → Nat → Int} {wrong : Int} (h : (watchB n c && isInB wrong 0 8) = true) :
    (minR n c wrong = .tuple #[.agg #[.int .i64 0, .int .i64 0], .int .i64 3] ∧ ∀ m : Nat, m < 10000 → ¬ ((agN c m n : Nat) : Int) ≤ wrong) ∨
    ∃ x y : Nat, minR n c wrong = .tuple #[.agg #[.int .i64 (x : Nat), .int .i64 (y : Nat)], .int .i64 0] ∧ x < 10000 ∧ y < 10000 ∧ ((agN c x n : Nat) : Int) ≤ wrong ∧ ((agN c y n : Nat) : Int) ≤ wrong ∧ ∀ m : Nat, m < 10000 → ((agN c m n : Nat) : Int) ≤ wrong → x ≤ m ∧ m ≤ y := by
  have hM := fun m => minL_mem (n := n) (c := c) (wrong := wrong) (q := 10000) (m := m)
  have hP := minL_lt n c wrong 10000
  unfold minR
  rw [h, if_neg (by simp)]
  generalize minL n c wrong 10000 = T at *
  cases T with
  | nil =>
    refine .inl ⟨rfl, fun m hm h => ?_⟩
    have := (hM m).2 ⟨hm, h⟩
    cases this
  | cons x l =>
    obtain ⟨y, hy⟩ : ∃ y, y = (x :: l).getLast (by simp) := ⟨_, rfl⟩
    have h1 := (hM x).1 List.mem_cons_self
    have hym : y ∈ x :: l := by rw [hy]; exact List.getLast_mem _
    have h2 := (hM y).1 hym
    refine .inr ⟨x, y, by rw [hy], h1.1, h2.1, h1.2, h2.2, fun m hm h => ?_⟩
    have hmem := (hM m).2 ⟨hm, h⟩
    constructor
    · rcases List.mem_cons.1 hmem with rfl | hl
      · exact Nat.le_refl _
      · exact Nat.le_of_lt ((List.pairwise_cons.1 hP).1 m hl)
    · have key : ∀ (L : List Nat) (hne : L ≠ []), L.Pairwise (· < ·) → ∀ m ∈ L, m ≤ L.getLast hne := by
        intro L
        induction L with
        | nil => intro h; exact absurd rfl h
        | cons a L ih =>
          intro _ hp m hm
          cases L with
          | nil =>
            have : m = a := by simpa using hm
            simp [this]
          | cons b L =>
            rw [List.getLast_cons (by simp)]
            have hp2 := List.pairwise_cons.1 hp
            rcases List.mem_cons.1 hm with rfl | hm2
            · exact Nat.le_of_lt (hp2.1 _ (List.getLast_mem _))
            · exact ih (by simp) hp2.2 m hm2
      rw [hy]
      exact key _ _ hP m hmem
end Go.Proofs.YtcekdljjmfkacaaGreat
set_option linter.unusedSimpArgs false
set_option linter.unusedVariables false
namespace Go.Proofs.YtcekdljjmfkacaaGreat
open Go.RowKit Go.Shelf
attribute [local go_sem] Oper.semAt_some wide_fn wide_dep wideR_fn wideR_dep
/-- what has been found among the first q minutes -/
def FoundAt (T : List Nat) (b : Bool) (lo hi : Int) : Prop := (b = false ∧ T = [] ∧ lo = 0 ∧ hi = 0) ∨ (b = true ∧ ∃ x l, T = x :: l ∧ lo = (x : Nat) ∧ hi = ((x :: l).getLast (by simp) : Nat))
theorem FoundAt.snoc {T : List Nat} {lo hi : Int} {b : Bool} (h : FoundAt T b lo hi) (q : Nat) : FoundAt (T ++ [q]) true (if b = true then lo else (q : Nat)) (q : Nat) := by
  rcases h with ⟨rfl, rfl, rfl, rfl⟩ | ⟨rfl, x, l, rfl, rfl, rfl⟩
  · exact .inr ⟨rfl, q, [], rfl, rfl, rfl⟩
  · refine .inr ⟨rfl, x, l ++ [q], rfl, rfl, ?_⟩
    have e : ∀ (L : List Nat) (h : L ++ [q] ≠ []), (L ++ [q]).getLast h = q := fun L h => by simp
    exact congrArg (fun k : Nat => (k : Int)) (e (x :: l) (by simp)).symm
section
variable (a : Option Addr) (cap n : Nat) (c : Nat → Nat → Int) (wrong : Int) (w : World)
end
end Go.Proofs.YtcekdljjmfkacaaGreat
set_option linter.unusedSimpArgs false
set_option linter.unusedVariables false
namespace Go.Proofs.YtcekdljjmfkacaaGreat
open Go.RowKit Go.ChangeShapes Go.WideShapes Go.ChangeAt
set_option maxRecDepth 100000
section
variable {H : Type} {enc : TypeId × Value → H} {w : World} {fuel : Nat}
/-- a slice whose elements are z numbers each -/
theorem rows_of {T E z : Nat} (hu : Tryz.prog.underlying T = some (.slice E)) (hk : Tryz.prog.cellsOf E = z) (hz : 1 ≤ z)
    (hE : ∀ {fuel : Nat} {cs : List Value} {x : DataW H × List MemPlace}, DataW.trod enc Tryz.prog w 0 (fun _ => true) true fuel E cs = some x → ∃ f : Nat → Int, ∀ r, r < z → cs[r]? = some (.int .i64 (f r)))
    {cs : List Value} {x : DataW H × List MemPlace} (h : DataW.trod enc Tryz.prog w 0 (fun _ => true) true fuel T cs = some x) :
    ∃ (a : Option Addr) (cap n : Nat) (c : Nat → Nat → Int), cs = [.slice a n cap] ∧ RowAt w a n z c ∧ n ≤ maxLen ∧ n ≤ cap ∧ (a = none → cap = 0) := by
  rcases Deep.open_slice hu h with ⟨rfl, _⟩ | ⟨a, len, cap, m, n, D, Pl, rfl, _, hl, hm, hmm, _, hel⟩
  · exact ⟨none, 0, 0, fun _ _ => 0, rfl, .inl rfl, Nat.zero_le _, Nat.zero_le _, fun _ => rfl⟩
  · simp at hmm
    rcases Nat.eq_zero_or_pos len with h0 | h0
    · subst h0
      exact ⟨some a, cap, 0, fun _ _ => 0, rfl, .inl rfl, Nat.zero_le _, Nat.zero_le _, fun h => by cases h⟩
    · have hspot : a.spot = none := by
        obtain ⟨cs', h1, h2⟩ := hel 0 (by omega)
        obtain ⟨f, hf⟩ := hE h2
        obtain ⟨_, hlen, hc⟩ := World.cells?_some h1
        rw [hk] at hc
        have c0 := hc 0 hz
        simpa [Addr.add] using World.cell?_spot (c0.trans (hf 0 hz))
      obtain ⟨b, off, spot⟩ := a
      simp only at hspot
      subst hspot
      have key : ∀ i, ∃ f : Nat → Int, i < len → ∀ r, r < z → w.cell? ⟨b, off + i * z + r, none⟩ = some (.int .i64 (f r)) := fun i => by
        by_cases hi : i < len
        · obtain ⟨cs', h1, h2⟩ := hel i (by omega)
          obtain ⟨f, hf⟩ := hE h2
          obtain ⟨_, _, hc⟩ := World.cells?_some h1
          rw [hk] at hc
          simp only [add_none] at hc
          refine ⟨f, fun _ r hr => ?_⟩
          exact (hc r hr).trans (hf r hr)
        · exact ⟨fun _ => 0, fun h => absurd h hi⟩
      obtain ⟨f, hf⟩ := Classical.axiomOfChoice key
      refine ⟨some ⟨b, off, none⟩, cap, len, f, rfl, .inr ⟨b, off, rfl, lt_of_cell (hf 0 h0 0 hz), fun k hk r hr => hf k hk r hr⟩, by omega, by omega, fun h => by cases h⟩
theorem span_cells {cs : List Value} {x : DataW H × List MemPlace} {fuel : Nat} (h : DataW.trod enc Tryz.prog w 0 (fun _ => true) true fuel 30 cs = some x) : ∃ f : Nat → Int, ∀ r, r < 2 → cs[r]? = some (.int .i64 (f r)) := by
  obtain ⟨a, b, rfl⟩ := span_of h
  refine ⟨fun r => if r = 0 then a else b, fun r hr => ?_⟩
  match r, hr with
  | 0, _ => rfl
  | 1, _ => rfl
theorem point_cells {cs : List Value} {x : DataW H × List MemPlace} {fuel : Nat} (h : DataW.trod enc Tryz.prog w 0 (fun _ => true) true fuel 27 cs = some x) : ∃ f : Nat → Int, ∀ r, r < 2 → cs[r]? = some (.int .i64 (f r)) := by
  obtain ⟨a, b, rfl⟩ := point_of h
  refine ⟨fun r => if r = 0 then a else b, fun r hr => ?_⟩
  match r, hr with
  | 0, _ => rfl
  | 1, _ => rfl
theorem spans_of {cs : List Value} {x : DataW H × List MemPlace} (h : DataW.trod enc Tryz.prog w 0 (fun _ => true) true fuel 45 cs = some x) : ∃ (a : Option Addr) (cap n : Nat) (c : Nat → Nat → Int), cs = [.slice a n cap] ∧ RowAt w a n 2 c ∧ n ≤ maxLen ∧ n ≤ cap ∧ (a = none → cap = 0) :=
  rows_of Tryz.underlying45 k46 (by omega) span_cells h
theorem points_of6 {cs : List Value} {x : DataW H × List MemPlace} (h : DataW.trod enc Tryz.prog w 0 (fun _ => true) true fuel 28 cs = some x) : ∃ (a : Option Addr) (cap n : Nat) (c : Nat → Nat → Int), cs = [.slice a n cap] ∧ RowAt w a n 2 c ∧ n ≤ maxLen ∧ n ≤ cap ∧ (a = none → cap = 0) :=
  rows_of Tryz.underlying28 k27 (by omega) point_cells h
theorem spans_val {v : Value} {d : DataW H} {p : List MemPlace} {r : Reach} {b0 : Nat} (hv : Value.okWide Tryz.prog w r b0 45 v) (h : DataW.Trod enc Tryz.prog w 0 (fun _ => true) true 45 v d p) :
    ∃ (a : Option Addr) (cap n : Nat) (c : Nat → Nat → Int), v = .slice a n cap ∧ RowAt w a n 2 c ∧ n ≤ 9223372036854775807 ∧ n ≤ cap ∧ (a = none → cap = 0) := by
  obtain ⟨a, n, c, rfl⟩ := okWide_slice Tryz.underlying45 hv
  obtain ⟨fuel, hf0⟩ := h
  obtain ⟨a', c', n', l, e, hz, hm, hcn, hnil⟩ := spans_of hf0
  simp [Value.cells] at e
  obtain ⟨rfl, rfl, rfl⟩ := e
  exact ⟨_, _, _, l, rfl, hz, Nat.le_trans hm (by decide), hcn, hnil⟩
end
end Go.Proofs.YtcekdljjmfkacaaGreat
set_option linter.unusedSimpArgs false
set_option linter.unusedVariables false
namespace Go.Proofs.YtcekdljjmfkacaaGreat
open Go.RowKit Go.Shelf
attribute [local go_sem] Oper.semAt_some wide_fn wide_dep wideR_fn wideR_dep
/-- rows as a source of append -/
theorem src_row {w : World} {a : Option Addr} {n z cap : Nat} {c : Nat → Nat → Int} (h : RowAt w a n z c) (hz : 1 ≤ z) (hcap : n ≤ cap) (hnil : a = none → cap = 0) :
    (a = none ∧ n = 0 ∧ cap = 0) ∨ ∃ (ad : Addr) (news : List Value), a = some ad ∧ news.length = n * z ∧ (∀ W, G w W → ∀ j u, news[j]? = some u → W.cell? (ad.add j) = some u) ∧ (∀ u ∈ news, Value.oneCell' u = true) ∧ ∀ i, i < n → ∀ r, r < z → news[i * z + r]? = some (.int .i64 (c i r)) := by
  rcases h with rfl | ⟨g, off, rfl, hg, hc⟩
  · cases a with
    | none => exact .inl ⟨rfl, rfl, hnil rfl⟩
    | some ad => exact .inr ⟨ad, [], rfl, by simp, fun W _ j u h => by simp at h, fun u h => by simp at h, fun i hi => absurd hi (Nat.not_lt_zero _)⟩
  · right
    have hget : ∀ j, j < n * z → ((List.range (n * z)).map fun j => Value.int .i64 (c (j / z) (j % z)))[j]? = some (.int .i64 (c (j / z) (j % z))) := fun j hj => by simp [hj]
    refine ⟨⟨g, off, none⟩, (List.range (n * z)).map fun j => Value.int .i64 (c (j / z) (j % z)), rfl, by simp, fun W hW j u h => ?_, fun u h => ?_, fun i hi r hr => ?_⟩
    · have hj : j < n * z := by
        rcases Nat.lt_or_ge j (n * z) with h1 | h1
        · exact h1
        · rw [List.getElem?_eq_none (by simpa using h1)] at h; cases h
      rw [hget j hj] at h
      rw [addr_add, ← h]
      have h1 : j / z < n := Nat.div_lt_of_lt_mul (by rw [Nat.mul_comm]; exact hj)
      have h2 : j % z < z := Nat.mod_lt _ hz
      have h3 := hc _ h1 _ h2
      have e : j / z * z + j % z = j := by rw [Nat.mul_comm]; exact Nat.div_add_mod j z
      rw [Nat.add_assoc, e] at h3
      exact ((bcellB hW).1 g (off + j) hg).trans h3
    · obtain ⟨j, _, rfl⟩ := List.mem_map.1 h
      rfl
    · have hj : i * z + r < n * z := by
        have : (i + 1) * z ≤ n * z := Nat.mul_le_mul_right z hi
        rw [Nat.add_mul] at this
        omega
      rw [hget _ hj]
      have e1 : (i * z + r) / z = i := by rw [Nat.mul_comm, Nat.mul_add_div hz, Nat.div_eq_of_lt hr, Nat.add_zero]
      have e2 : (i * z + r) % z = r := by rw [Nat.mul_comm, Nat.mul_add_mod, Nat.mod_eq_of_lt hr]
      rw [e1, e2]
theorem row_own {W : World} {b n z : Nat} {e : TypeId} {v : Value} {xs : List Value} {c : Nat → Nat → Int} (h : W.ownsRow b e z v n xs) (hx : ∀ i, i < n → ∀ r, r < z → xs[i * z + r]? = some (.int .i64 (c i r))) : ∃ a cap, v = .slice a n cap ∧ RowAt W a n z c := by
  rcases h.2 with ⟨rfl, h0⟩ | ⟨g, cap, cur, rfl, hb, hblk, h1, h2, h3, h4⟩
  · exact ⟨none, 0, by rw [h0], .inl h0⟩
  · refine ⟨some ⟨g, 0, none⟩, cap, rfl, .inr ⟨g, 0, rfl, (Array.getElem?_eq_some_iff.1 hblk).1, fun i hi r hr => ?_⟩⟩
    rw [Nat.zero_add]
    have hj : i * z + r < n * z := by
      have : (i + 1) * z ≤ n * z := Nat.mul_le_mul_right z hi
      rw [Nat.add_mul] at this
      omega
    exact take_cell hblk h4 hj (hx i hi r hr)
theorem info30 : (Tryz.prog.info? 30).map (fun i => (i.zero, i.size, i.bytes)) = some (some (.agg #[.int .i64 0, .int .i64 0]), 2, 16) := by kernel_rfl
theorem eqSp30 (a b : Int) (w : World) : (binOp .eql 30 (.agg #[.int .i64 a, .int .i64 b]) (.agg #[.int .i64 a, .int .i64 b])).run Tryz.prog w = .ok (.bool true) w := by
  go_simp
theorem minR_form (n : Nat) (c : Nat → Nat → Int) (wrong : Int) : ∃ s0 s1 er : Int, minR n c wrong = .tuple #[.agg #[.int .i64 s0, .int .i64 s1], .int .i64 er] := by
  unfold minR
  split
  · exact ⟨_, _, _, rfl⟩
  · split
    · exact ⟨_, _, _, rfl⟩
    · exact ⟨_, _, _, rfl⟩
end Go.Proofs.YtcekdljjmfkacaaGreat
