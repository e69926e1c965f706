import Derived.Test.YtcekdljjmfkacaaGreatMb
import Derived.Maps.Own
import Derived.Maps.OwnSet
import Derived.DeepKeys4
set_option linter.unusedSimpArgs false
set_option linter.unusedVariables false
namespace Go.Proofs.YtcekdljjmfkacaaGreat
open Go.RowKit
attribute [local go_sem] Oper.semAt_some
def skF (d : Nat → Int) : Sk := ⟨d 6, d 7, d 8, d 9, d 10, d 11⟩
def inFr (d : Nat → Int) (x y h : Int) : Bool := isInB h (d 0) (d 1) && (isInB x (d 2) (d 3) && isInB y (d 4) (d 5))
/-- the weather at a place in an hour that the first k fronts leave -/
def known (f : Nat → Nat → Int) (x y h : Int) : Nat → Sk
  | 0 => skAny
  | k + 1 => if inFr (f k) x y h then (known f x y h k).both (skF (f k)) else known f x y h k
theorem known_yes {f : Nat → Nat → Int} {x y h : Int} {k : Nat} (hi : inFr (f k) x y h = true) : known f x y h (k + 1) = (known f x y h k).both (skF (f k)) := if_pos hi
theorem known_no {f : Nat → Nat → Int} {x y h : Int} {k : Nat} (hi : inFr (f k) x y h = false) : known f x y h (k + 1) = known f x y h k := if_neg (by rw [hi]; simp)
section
variable (f : Nat → Nat → Int) (x y h : Int) (k fc : Nat) (fa : Option Addr) (F : Nat) (FC : Array Value) (w : World)
set_option maxRecDepth 100000 in
set_option maxHeartbeats 8000000 in
theorem told_any (hF : Blk w F 104 FC) (h11 : FC[11]? = some (.slice fa k fc)) (hR : RowAt w fa k 12 f) (hk12 : k ≤ 12) :
    Calls Tryz.prog 105 #[.pointer (some ⟨F, 0, none⟩), .agg #[.int .i64 x, .int .i64 y, .int .i64 h]] w fun e w' => e = .returned (.agg (known f x y h k).v) ∧ G w w' := by
  have HAny := Lib.hid (fun W : World => anySky_any W)
  have HPP : Hid (∀ w', G w w' → (Ending.returned (.agg (known f x y h k).v) = Ending.returned (.agg (known f x y h k).v)) ∧ G w w') := fun w' a => ⟨rfl, a⟩
  obtain ⟨g0, b0, b1⟩ := w2_spec w #[.int .i64 x, .int .i64 y, .int .i64 h] sk0.v 96 93
  have hF0 := hF.keep g0
  have c11 : ((w.alloc (.cells #[.int .i64 x, .int .i64 y, .int .i64 h] 96)).alloc (.cells sk0.v 93)).cell? ⟨F, 11, none⟩ = some (.slice fa k fc) := (hF0.cell 11).trans h11
  have lF := hF0.lt
  clear hF hF0 h11
  go_enter Tryz.func105, Tryz.ntmps105
  go_upto_region 1 with fail
  change Code.wp _ _ _ _ ((w.alloc (.cells #[.int .i64 x, .int .i64 y, .int .i64 h] 96)).alloc (.cells sk0.v 93))
  generalize (w.alloc (.cells #[.int .i64 x, .int .i64 y, .int .i64 h] 96)).alloc (.cells sk0.v 93) = w1 at *
  refine wp_region_lit ?_
  refine wpList_plain rfl fun K hK => ?_
  go_simp
  refine (HAny.out _).mono ?_
  rintro e w2 ⟨rfl, hG1⟩
  refine hK _ _ ?_
  clear hK
  try simp only [Act.put, List.getElem_toArray, List.getElem_cons_zero, List.getElem_cons_succ, List.setIfInBounds_toArray, List.set_cons_zero, List.set_cons_succ]
  refine wpList_plain rfl fun K hK => ?_
  go_simp
  refine hK _ _ ?_
  clear hK
  try simp only [Act.put, List.getElem_toArray, List.getElem_cons_zero, List.getElem_cons_succ, List.setIfInBounds_toArray, List.set_cons_zero, List.set_cons_succ]
  refine wpList_store102 w2.heap.size 5 8 (x := sk0) rfl rfl rfl rfl (Blk.new w2 93 _) fun W3 hB3 hF3 hG3 => ?_
  try simp only [Act.put, List.getElem_toArray, List.getElem_cons_zero, List.getElem_cons_succ, List.setIfInBounds_toArray, List.set_cons_zero, List.set_cons_succ]
  have hG2 : G w1 W3 := hG3 w1 hG1.size (hG1.a _)
  have hn : w.heap.size + 2 ≤ w2.heap.size := by have := g0.size; have := hG1.size; have := b1.lt; omega
  replace b0 := b0.keep hG2; replace b1 := b1.keep hG2; replace c11 := ((bcellB hG2).1 F _ lF).trans c11; replace lF := Nat.lt_of_lt_of_le lF hG2.size; replace g0 := g0.t hG2
  obtain ⟨n5, hn5⟩ : ∃ n, n = w2.heap.size := ⟨_, rfl⟩
  rw [← hn5] at hB3 hn ⊢
  clear hG1 hG2 hF3 hG3 hn5 HAny
  have hx0 := b0.cell 0
  go_wp2_with fail
  go_loopw [15] (fun i wr => ∃ q : Nat, q ≤ k ∧ i = .int .i64 q ∧ Blk wr n5 93 (known f x y h q).v ∧ Blk wr w.heap.size 96 #[.int .i64 x, .int .i64 y, .int .i64 h] ∧ Blk wr (w.heap.size + 1) 93 sk0.v ∧ G w wr) (fun i _ => k - (intOf i).toNat)
  case atStart => exact ⟨0, Nat.zero_le _, rfl, hB3, b0, b1, g0⟩
  case round =>
    obtain ⟨q, hq, rfl, hB, c0, c1, hG⟩ := hrel
    obtain ⟨wo, rfl⟩ : ∃ wo, wo = wr := ⟨_, rfl⟩
    clear hB3 b0 b1 g0 hx0
    by_cases hlt : q < k
    · have hki : (q : Int) < k := by omega
      rcases hR with h0 | ⟨g, off, rfl, hg, hcell⟩
      · omega
      have hcl := fun r hr => ((bcellB hG).1 g _ hg).trans (hcell q hlt r hr)
      have q0 := hcl 0 (by omega)
      rw [Nat.add_zero] at q0
      have q1 := hcl 1 (by omega)
      have q2 := hcl 2 (by omega)
      have q3 := hcl 3 (by omega)
      have q4 := hcl 4 (by omega)
      have q5 := hcl 5 (by omega)
      have q6 := hcl 6 (by omega)
      have q7 := hcl 7 (by omega)
      have q8 := hcl 8 (by omega)
      have q9 := hcl 9 (by omega)
      have q10 := hcl 10 (by omega)
      have q11 := hcl 11 (by omega)
      clear hcl
      have lg := Nat.lt_of_lt_of_le hg hG.size
      have s0 := c0.cell 0
      have s1 := c0.cell 1
      have s2 := c0.cell 2
      have lS := c0.lt
      have HI := Lib.hid (fun (a b c : Int) (W : World) => lIn_any a b c W)
      have gA : G wo (wo.alloc (.cells #[.int .i64 (f q 0), .int .i64 (f q 1), .int .i64 (f q 2), .int .i64 (f q 3), .int .i64 (f q 4), .int .i64 (f q 5), .int .i64 (f q 6), .int .i64 (f q 7), .int .i64 (f q 8), .int .i64 (f q 9), .int .i64 (f q 10), .int .i64 (f q 11)] 71)) := (G.rf _).a _
      have hK := known_yes (f := f) (x := x) (y := y) (h := h) (k := q)
      have hK2 := known_no (f := f) (x := x) (y := y) (h := h) (k := q)
      unfold inFr at hK hK2
      go_upto_region 5 with fail
      have b60 := Blk.new wo 71 #[.int .i64 (f q 0), .int .i64 (f q 1), .int .i64 (f q 2), .int .i64 (f q 3), .int .i64 (f q 4), .int .i64 (f q 5), .int .i64 (f q 6), .int .i64 (f q 7), .int .i64 (f q 8), .int .i64 (f q 9), .int .i64 (f q 10), .int .i64 (f q 11)]
      have cA := c0.alloc (.cells #[.int .i64 (f q 0), .int .i64 (f q 1), .int .i64 (f q 2), .int .i64 (f q 3), .int .i64 (f q 4), .int .i64 (f q 5), .int .i64 (f q 6), .int .i64 (f q 7), .int .i64 (f q 8), .int .i64 (f q 9), .int .i64 (f q 10), .int .i64 (f q 11)] 71)
      clear s0 s1 s2 lS q0 q1 q2 q3 q4 q5 q6 q7 q8 q9 q10 q11 lg hg hcell
      generalize wo.alloc (.cells #[.int .i64 (f q 0), .int .i64 (f q 1), .int .i64 (f q 2), .int .i64 (f q 3), .int .i64 (f q 4), .int .i64 (f q 5), .int .i64 (f q 6), .int .i64 (f q 7), .int .i64 (f q 8), .int .i64 (f q 9), .int .i64 (f q 10), .int .i64 (f q 11)] 71) = w5 at *
      obtain ⟨n6, hn6⟩ : ∃ n, n = wo.heap.size := ⟨_, rfl⟩
      rw [← hn6] at b60 ⊢
      clear hn6
      have s0 := cA.cell 0; have s1 := cA.cell 1; have s2 := cA.cell 2; have lS := cA.lt; have d0 := b60.cell 0; have d1 := b60.cell 1; have d2 := b60.cell 2; have d3 := b60.cell 3; have d4 := b60.cell 4; have d5 := b60.cell 5; have l6 := b60.lt
      cases h1 : isInB h (f q 0) (f q 1)
      · have HK := Lib.hid (hK2 (by rw [h1]; rfl))
        clear hK hK2
        go_wp2_with (go_at_call 70; refine (HI.out _ _ _ _).mono ?_; simp only [h1]; rintro e w6 ⟨rfl, hG6⟩; clear s0 s1 s2 lS d0 d1 d2 d3 d4 d5 l6; replace cA := cA.keep hG6; replace b60 := b60.keep hG6; replace gA := gA.t hG6; clear hG6; have s0 := cA.cell 0; have s1 := cA.cell 1; have s2 := cA.cell 2; have lS := cA.lt; have d0 := b60.cell 0; have d1 := b60.cell 1; have d2 := b60.cell 2; have d3 := b60.cell 3; have d4 := b60.cell 4; have d5 := b60.cell 5; have l6 := b60.lt)
        go_roundw
        case rel => exact ⟨q + 1, by omega, by go_num, by rw [HK.out]; exact hB.keep gA, c0.keep gA, c1.keep gA, hG.t gA⟩
        case measure => simp [intOf]; omega
      cases h2 : isInB x (f q 2) (f q 3)
      · have HK := Lib.hid (hK2 (by rw [h1, h2]; rfl))
        clear hK hK2
        go_wp2_with (go_at_call 70; refine (HI.out _ _ _ _).mono ?_; simp only [h1, h2]; rintro e w6 ⟨rfl, hG6⟩; clear s0 s1 s2 lS d0 d1 d2 d3 d4 d5 l6; replace cA := cA.keep hG6; replace b60 := b60.keep hG6; replace gA := gA.t hG6; clear hG6; have s0 := cA.cell 0; have s1 := cA.cell 1; have s2 := cA.cell 2; have lS := cA.lt; have d0 := b60.cell 0; have d1 := b60.cell 1; have d2 := b60.cell 2; have d3 := b60.cell 3; have d4 := b60.cell 4; have d5 := b60.cell 5; have l6 := b60.lt)
        go_roundw
        case rel => exact ⟨q + 1, by omega, by go_num, by rw [HK.out]; exact hB.keep gA, c0.keep gA, c1.keep gA, hG.t gA⟩
        case measure => simp [intOf]; omega
      cases h3 : isInB y (f q 4) (f q 5)
      · have HK := Lib.hid (hK2 (by rw [h1, h2, h3]; rfl))
        clear hK hK2
        go_wp2_with (go_at_call 70; refine (HI.out _ _ _ _).mono ?_; simp only [h1, h2, h3]; rintro e w6 ⟨rfl, hG6⟩; clear s0 s1 s2 lS d0 d1 d2 d3 d4 d5 l6; replace cA := cA.keep hG6; replace b60 := b60.keep hG6; replace gA := gA.t hG6; clear hG6; have s0 := cA.cell 0; have s1 := cA.cell 1; have s2 := cA.cell 2; have lS := cA.lt; have d0 := b60.cell 0; have d1 := b60.cell 1; have d2 := b60.cell 2; have d3 := b60.cell 3; have d4 := b60.cell 4; have d5 := b60.cell 5; have l6 := b60.lt)
        go_roundw
        case rel => exact ⟨q + 1, by omega, by go_num, by rw [HK.out]; exact hB.keep gA, c0.keep gA, c1.keep gA, hG.t gA⟩
        case measure => simp [intOf]; omega
      have HK := Lib.hid (hK (by rw [h1, h2, h3]; rfl))
      clear hK hK2
      have HS := Lib.hid (fun W : World => skyOf_any (skF (f q)) W)
      have HA := Lib.hid (fun W : World => and_any (known f x y h q) (skF (f q)) W)
      go_wp2_with (go_at_call 70; refine (HI.out _ _ _ _).mono ?_; simp only [h1, h2, h3]; rintro e w6 ⟨rfl, hG6⟩; clear s0 s1 s2 lS d0 d1 d2 d3 d4 d5 l6; replace cA := cA.keep hG6; replace b60 := b60.keep hG6; replace gA := gA.t hG6; clear hG6; have s0 := cA.cell 0; have s1 := cA.cell 1; have s2 := cA.cell 2; have lS := cA.lt; have d0 := b60.cell 0; have d1 := b60.cell 1; have d2 := b60.cell 2; have d3 := b60.cell 3; have d4 := b60.cell 4; have d5 := b60.cell 5; have l6 := b60.lt)
      clear s0 s1 s2 lS d0 d1 d2 d3 d4 d5 l6 HI h1 h2 h3
      have hBA := hB.keep gA
      have hSk : ∀ W', G w6 W' → Blk W' n5 93 (known f x y h q).v ∧ Blk W' n6 71 #[.int .i64 (f q 0), .int .i64 (f q 1), .int .i64 (f q 2), .int .i64 (f q 3), .int .i64 (f q 4), .int .i64 (f q 5), .int .i64 (f q 6), .int .i64 (f q 7), .int .i64 (f q 8), .int .i64 (f q 9), .int .i64 (f q 10), .int .i64 (f q 11)] := fun W' hW => ⟨hBA.keep hW, b60.keep hW⟩
      refine wp_region_Y (S := fun W' => Blk W' n5 93 (known f x y h q).v ∧ Blk W' n6 71 #[.int .i64 (f q 0), .int .i64 (f q 1), .int .i64 (f q 2), .int .i64 (f q 3), .int .i64 (f q 4), .int .i64 (f q 5), .int .i64 (f q 6), .int .i64 (f q 7), .int .i64 (f q 8), .int .i64 (f q 9), .int .i64 (f q 10), .int .i64 (f q 11)]) 5 6 rfl (by kernel_rfl) (hSk _ (G.rf _).d) (fun hS => ?_)
      refine wpAnyY_take (i := 0) (v := .agg (known f x y h q).v) rfl (by kernel_rfl) (by kernel_rfl) (by kernel_rfl) (by kernel_rfl) (fun _ _ _ h => h) (Or.inl ⟨by kernel_rfl, ?_⟩) hS ?_
      · intro w' hSw; exact load102 w' n5 5 _ _ rfl (by kernel_rfl) hSw.1
      try simp only [Act.put, List.getElem_toArray, List.getElem_cons_zero, List.getElem_cons_succ, List.setIfInBounds_toArray, List.set_cons_zero, List.set_cons_succ]
      refine wpAnyY_take (i := 1) (v := ?_) rfl (by kernel_rfl) (by kernel_rfl) (by kernel_rfl) (by kernel_rfl) (fun _ _ _ h => h) (Or.inl ⟨by kernel_rfl, ?_⟩) hS ?_
      rotate_left
      · intro w' hSw; go_simp; with_reducible rfl
      try simp only [Act.put, List.getElem_toArray, List.getElem_cons_zero, List.getElem_cons_succ, List.setIfInBounds_toArray, List.set_cons_zero, List.set_cons_succ]
      refine wpAnyY_take (i := 2) (v := ?_) rfl (by kernel_rfl) (by kernel_rfl) (by kernel_rfl) (by kernel_rfl) (fun _ _ _ h => h) (Or.inl ⟨by kernel_rfl, ?_⟩) hS ?_
      rotate_left
      · intro w' hSw; have e6 := hSw.2.cell 6; have e7 := hSw.2.cell 7; have e8 := hSw.2.cell 8; have e9 := hSw.2.cell 9; have e10 := hSw.2.cell 10; have e11 := hSw.2.cell 11; go_simp; with_reducible rfl
      try simp only [Act.put, List.getElem_toArray, List.getElem_cons_zero, List.getElem_cons_succ, List.setIfInBounds_toArray, List.set_cons_zero, List.set_cons_succ]
      refine wpAnyY_oneSW (i := 3) (by kernel_rfl) rfl (by kernel_rfl) (fun K3 hK3 => ?_)
      go_simp
      refine (HS.out _).mono ?_
      rintro e w7 ⟨rfl, hG7⟩
      have gd := (G.rf w6).d.t hG7
      refine hK3.out _ _ (hSk _ gd) (fun hS => ?_)
      try simp only [Act.put, List.getElem_toArray, List.getElem_cons_zero, List.getElem_cons_succ, List.setIfInBounds_toArray, List.set_cons_zero, List.set_cons_succ]
      refine wpAnyY_oneSW (i := 4) (by kernel_rfl) rfl (by kernel_rfl) (fun K4 hK4 => ?_)
      go_simp
      refine (HA.out _).mono ?_
      rintro e w8 ⟨rfl, hG8⟩
      replace gd := gd.t hG8
      refine hK4.out _ _ (hSk _ gd) (fun hS => ?_)
      try simp only [Act.put, List.getElem_toArray, List.getElem_cons_zero, List.getElem_cons_succ, List.setIfInBounds_toArray, List.set_cons_zero, List.set_cons_succ]
      refine wpAnyY_oneW (i := 5) (by kernel_rfl) rfl (by kernel_rfl) (by kernel_rfl) (fun K5 hK5 => ?_)
      refine wp_store102 n5 5 44 (x := known f x y h q) (s := (known f x y h q).both (skF (f q))) rfl rfl rfl hS.1 fun W2 hB2 hF2 hG2 => ?_
      refine hK5.out _ _ ?_
      try simp only [Act.put, List.getElem_toArray, List.getElem_cons_zero, List.getElem_cons_succ, List.setIfInBounds_toArray, List.set_cons_zero, List.set_cons_succ]
      refine wpAnyY_done (by kernel_rfl) ?_ _
      have gz := gA.t gd
      have hc0 := (c0.keep gz).awayB (by omega) hF2
      have hc1 := (c1.keep gz).awayB (by omega) hF2
      have hGz := hG2 w (by omega) (hG.t gz)
      clear hS hSk hK3 hK4 hK5 hF2 hG2 cA b60 hBA gd gA gz
      go_wp2_with fail
      go_roundw
      case rel => exact ⟨q + 1, by omega, by go_num, by rw [HK.out]; exact hB2, hc0, hc1, hGz⟩
      case measure => simp [intOf]; omega
    · obtain rfl : q = k := by omega
      have hki : ¬ ((q : Nat) : Int) < q := by omega
      have HF := Lib.hid (HPP.out)
      go_upto_region 8 with fail
      refine wp_region_lit ?_
      refine wpList_load102 n5 5 rfl rfl rfl hB ?_
      try simp only [Act.put, List.getElem_toArray, List.getElem_cons_zero, List.getElem_cons_succ, List.setIfInBounds_toArray, List.set_cons_zero, List.set_cons_succ]
      refine wpList_store102 (w.heap.size + 1) 4 46 (x := sk0) rfl rfl rfl rfl c1 fun W2 hB2 hF2 hG2 => ?_
      try simp only [Act.put, List.getElem_toArray, List.getElem_cons_zero, List.getElem_cons_succ, List.setIfInBounds_toArray, List.set_cons_zero, List.set_cons_succ]
      have hGG := hG2 w (by omega) hG
      clear hF2 hG2
      go_wp2_with fail
      exact bodyPost_ret (resSky Tryz.f105 4 _ _ (w.heap.size + 1) (known f x y h q) rfl rfl hB2) rfl ⟨rfl, hGG⟩
end
end Go.Proofs.YtcekdljjmfkacaaGreat
set_option linter.unusedSimpArgs false
set_option linter.unusedVariables false
namespace Go.Proofs.YtcekdljjmfkacaaGreat
open Go.RowKit Go.Maps
attribute [local go_sem] Oper.semAt_some
theorem laidOut6 : laidOutB Tryz.prog = true := by kernel_rfl
theorem wideSpot : (match Tryz.prog.underlying 96 with | some (.array _ _) | some (.struct _) => true | _ => false) = true := by kernel_rfl
set_option maxRecDepth 100000 in
theorem lawSpot : Keyed Tryz.prog 96 := Keyed.of_law (deep_law_laid laidOut6 (m := 3) (by omega) (of_decide_eq_true (by kernel_rfl)) (by kernel_rfl) wideSpot)
theorem k105 : Tryz.prog.cellsOf 96 = 3 := by kernel_rfl
theorem k27p : Tryz.prog.cellsOf 27 = 2 := by kernel_rfl
theorem k3p : Tryz.prog.cellsOf 3 = 1 := by kernel_rfl
theorem tysz : ∃ m, Tryz.prog.types.size + 1 = m + 3 := by
  have : decide (2 ≤ Tryz.prog.types.size) = true := by kernel_rfl
  have := of_decide_eq_true this
  exact ⟨Tryz.prog.types.size - 2, by omega⟩
def i64b (n : Int) : Prop := -9223372036854775808 ≤ n ∧ n ≤ 9223372036854775807
theorem wf64 {n : Int} (h : i64b n) : (Lit.int .i64 n).wf = true := by
  unfold i64b at h
  exact WalkArith.wf_i64 (by omega)
theorem spotKey {x y h : Int} (hx : i64b x) (hy : i64b y) (hh : i64b h) : ∃ l, keyOf Tryz.prog 96 (.agg #[.int .i64 x, .int .i64 y, .int .i64 h]) = some l := by
  have hkt : Tryz.prog.keyType 96 = true := by kernel_rfl
  have hf : (Value.agg #[.int .i64 x, .int .i64 y, .int .i64 h]).formed Tryz.prog 96 = true := by
    simp [Value.formed, Tryz.underlying96, k105]
  obtain ⟨m, hm⟩ := tysz
  unfold keyOf
  rw [Tryz.underlying96]
  simp only [hkt, hf, Bool.and_self, if_true, hm]
  have w1 := wf64 hx
  have w2 := wf64 hy
  have w3 := wf64 hh
  simp [Program.keyLits, Tryz.underlying96, Tryz.underlying27, Tryz.underlying3, k105, k27p, k3p, Value.cells, w1, w2, w3, List.mapM_cons]
  rw [if_pos (fun i hi => by
    match i, hi with
    | 0, _ => simp
    | 1, _ => simp)]
  simp

/-- how a sky reads in a map -/
def skD (s : Sk) : DataW Unit := .agg [.lit (.int .i64 s.wl), .lit (.int .i64 s.wh), .lit (.int .i64 s.sl), .lit (.int .i64 s.sh), .lit (.int .i64 s.hl), .lit (.int .i64 s.hh)]
def skR (v : Value) : Option (DataW Unit × List MemPlace) :=
  match v with
  | .agg ⟨[.int .i64 a, .int .i64 b, .int .i64 c, .int .i64 d, .int .i64 e, .int .i64 f]⟩ => some (skD ⟨a, b, c, d, e, f⟩, [])
  | _ => none
theorem skR_mk (s : Sk) : skR (.agg s.v) = some (skD s, []) := rfl
theorem skR_inv {v : Value} {z : DataW Unit × List MemPlace} (h : skR v = some z) : ∃ s : Sk, v = .agg s.v ∧ z = (skD s, []) := by
  unfold skR at h
  split at h
  · rename_i a b c d e f
    simp only [Option.some.injEq] at h
    exact ⟨⟨a, b, c, d, e, f⟩, rfl, h.symm⟩
  · cases h
theorem skD_inj {a b : Sk} (h : skD a = skD b) : a = b := by
  obtain ⟨a0, a1, a2, a3, a4, a5⟩ := a
  obtain ⟨b0, b1, b2, b3, b4, b5⟩ := b
  unfold skD at h
  simp only [DataW.agg.injEq, List.cons.injEq, DataW.lit.injEq, Lit.int.injEq, true_and, and_true] at h
  obtain ⟨h0, h1, h2, h3, h4, h5⟩ := h
  subst h0 h1 h2 h3 h4 h5
  rfl
def spotV (x y h : Int) : Value := .agg #[.int .i64 x, .int .i64 y, .int .i64 h]
/-- block m is a map of at most n entries that gives for each spot what S says -/
def WMap (W : World) (m n : Nat) (S : Int → Int → Int → Option Sk) : Prop :=
  ∃ D : DataW Unit, W.ownsMap Tryz.prog 96 skR m n D ∧ ∀ x y h, i64b x → i64b y → i64b h → ∀ l, keyOf Tryz.prog 96 (spotV x y h) = some l →
    Maps.has D l = (S x y h).isSome ∧ ∀ s, S x y h = some s → ∀ z, D.atKey l z = skD s
theorem WMap.lt {W : World} {m n : Nat} {S : Int → Int → Int → Option Sk} (h : WMap W m n S) : m < W.heap.size := by
  obtain ⟨D, h1, _⟩ := h
  exact h1.lt
theorem WMap.made (W : World) : WMap (W.alloc (.map #[] 0)) W.heap.size 0 (fun _ _ _ => none) :=
  ⟨_, World.ownsMap_made _ _ _ _, fun x y h _ _ _ l hl => ⟨rfl, fun s hs => by cases hs⟩⟩
theorem WMap.keep {W W' : World} {m n : Nat} {S : Int → Int → Int → Option Sk} (h : WMap W m n S) (hG : G W W') : WMap W' m n S := by
  obtain ⟨D, h1, h2⟩ := h
  refine ⟨D, ?_, h2⟩
  obtain ⟨es, clock, hb, F, hs, e⟩ := h1
  exact ⟨es, clock, (hG.block m (Array.getElem?_eq_some_iff.1 hb).1).trans hb, F, hs, e⟩
theorem zeroSky (w : World) : (zeroValue 93).run Tryz.prog w = .ok (.agg sk0.v) w := by kernel_rfl
theorem key_inj {x y h x' y' h' : Int} {l : Lit} (h1 : keyOf Tryz.prog 96 (spotV x y h) = some l) (h2 : keyOf Tryz.prog 96 (spotV x' y' h') = some l) : x = x' ∧ y = y' ∧ h = h' := by
  have e := lawSpot.inj h1 h2
  unfold spotV at e
  simp at e
  exact e
theorem WMap.look {W : World} {m n : Nat} {S : Int → Int → Int → Option Sk} (h : WMap W m n S) {x y t : Int} (hx : i64b x) (hy : i64b y) (ht : i64b t) :
    ∃ s : Sk, (Instr.lookup 102 (.map (some m)) (spotV x y t) true).run Tryz.prog W = .ok (.tuple #[.agg s.v, .bool (S x y t).isSome]) W ∧ ∀ s', S x y t = some s' → s = s' := by
  obtain ⟨D, h1, h2⟩ := h
  obtain ⟨l, hl⟩ := spotKey hx hy ht
  obtain ⟨v, ps, hrun, hv⟩ := h1.look_ok lawSpot Tryz.underlying102 (zeroSky W) (skR_mk sk0) hl
  obtain ⟨s, rfl, hs⟩ := skR_inv hv
  obtain ⟨e1, e2⟩ := h2 x y t hx hy ht l hl
  rw [e1] at hrun
  refine ⟨s, hrun, fun s' hs' => ?_⟩
  simp only [Prod.mk.injEq] at hs
  exact (skD_inj ((e2 s' hs' _).symm.trans hs.1)).symm
theorem WMap.store {W : World} {m n : Nat} {S : Int → Int → Int → Option Sk} (h : WMap W m n S) {x y t : Int} (hx : i64b x) (hy : i64b y) (ht : i64b t) (hn : n < maxLen) (s : Sk) :
    ∃ W', (Instr.mapUpdate 102 (.map (some m)) (spotV x y t) (.agg s.v)).run Tryz.prog W = .ok () W' ∧ WMap W' m (n + 1) (fun x' y' t' => if x' = x ∧ y' = y ∧ t' = t then some s else S x' y' t') ∧ W.grownBy W' (some m) := by
  obtain ⟨D, h1, h2⟩ := h
  obtain ⟨l, hl⟩ := spotKey hx hy ht
  obtain ⟨W', hrun, hown, hg⟩ := h1.update lawSpot Tryz.underlying102 hn hl (skR_mk s)
  refine ⟨W', hrun, ⟨_, hown, fun x' y' t' hx' hy' ht' l' hl' => ?_⟩, hg⟩
  by_cases e : x' = x ∧ y' = y ∧ t' = t
  · obtain ⟨rfl, rfl, rfl⟩ := e
    have el : l' = l := by
      have := hl'.symm.trans hl
      simpa using this
    subst el
    dsimp only
    rw [if_pos ⟨rfl, rfl, rfl⟩]
    have hk : WideAt.IsKeyLit l' := lawSpot.key hl'
    exact ⟨Maps.has_put_same h1.isMap hk _, fun s' hs' z => by
      simp only [Option.some.injEq] at hs'
      subst hs'
      exact Maps.atKey_put_same h1.isMap hk _ _⟩
  · have hne : l' ≠ l := fun el => e (by
      subst el
      exact key_inj hl' hl)
    dsimp only
    rw [if_neg e]
    obtain ⟨e1, e2⟩ := h2 x' y' t' hx' hy' ht' l' hl'
    exact ⟨(Maps.has_put_other hne _).trans e1, fun s' hs' z => (Maps.atKey_put_other hne _ _).trans (e2 s' hs' z)⟩
end Go.Proofs.YtcekdljjmfkacaaGreat
set_option linter.unusedSimpArgs false
set_option linter.unusedVariables false
namespace Go.Proofs.YtcekdljjmfkacaaGreat
open Go.RowKit
attribute [local go_sem] Oper.semAt_some
/-- a spot that the loops have met when they stand at row Y, column X, hour H -/
def doneB (cols el hours : Nat) (Y X H : Nat) (x y h : Int) : Bool := decide (0 ≤ x ∧ x < cols ∧ 0 ≤ y ∧ y < el ∧ 0 ≤ h ∧ h < hours ∧ (y < Y ∨ (y = Y ∧ (x < X ∨ (x = X ∧ h < H)))))
def SD (f : Nat → Nat → Int) (k cols el hours : Nat) (Y X H : Nat) : Int → Int → Int → Option Sk := fun x y h => if doneB cols el hours Y X H x y h = true then some (known f x y h k) else none
section
variable {f : Nat → Nat → Int} {k cols el hours : Nat}
theorem SD_zero : SD f k cols el hours 0 0 0 = fun _ _ _ => none := by
  funext x y h
  unfold SD doneB
  rw [if_neg]
  simp only [decide_eq_true_eq]
  omega
theorem SD_step {Y X H : Nat} (h1 : Y < el) (h2 : X < cols) (h3 : H < hours) : SD f k cols el hours Y X (H + 1) = fun x' y' t' => if x' = (X : Int) ∧ y' = (Y : Int) ∧ t' = (H : Int) then some (known f X Y H k) else SD f k cols el hours Y X H x' y' t' := by
  funext x y h
  unfold SD doneB
  simp only [decide_eq_true_eq]
  by_cases e : x = (X : Int) ∧ y = (Y : Int) ∧ h = (H : Int)
  · obtain ⟨rfl, rfl, rfl⟩ := e
    rw [if_pos (by omega), if_pos ⟨rfl, rfl, rfl⟩]
  · rw [if_neg e]
    congr 1
    simp only [eq_iff_iff]
    omega
theorem SD_hour {Y X : Nat} : SD f k cols el hours Y X hours = SD f k cols el hours Y (X + 1) 0 := by
  funext x y h
  unfold SD doneB
  simp only [decide_eq_true_eq]
  congr 1
  simp only [eq_iff_iff]
  omega
theorem SD_col {Y : Nat} : SD f k cols el hours Y cols 0 = SD f k cols el hours (Y + 1) 0 0 := by
  funext x y h
  unfold SD doneB
  simp only [decide_eq_true_eq]
  congr 1
  simp only [eq_iff_iff]
  omega
end
/-- no weather met so far is empty -/
def GoodTo (f : Nat → Nat → Int) (k cols el hours Y X H : Nat) : Prop := ∀ x y h s, SD f k cols el hours Y X H x y h = some s → skNone s = false
theorem wp_mapStore {o : Oper} {a : Act} {W : World} {K : Act → World → Prop} {Q : Exit → Act → World → Prop} (tm tk tv : Nat) {m n : Nat} {S : Int → Int → Int → Option Sk} {x y t : Int} {s : Sk} (ho : o.op = Op.mapUpdate 102 (.tmp tm) (.tmp tk) (.tmp tv))
    (hm : a.eval (.tmp tm) = .map (some m)) (hk : a.eval (.tmp tk) = spotV x y t) (hv : a.eval (.tmp tv) = .agg s.v) (hW : WMap W m n S) (hx : i64b x) (hy : i64b y) (ht : i64b t) (hn : n < maxLen)
    (h : ∀ W', WMap W' m (n + 1) (fun x' y' t' => if x' = x ∧ y' = y ∧ t' = t then some s else S x' y' t') → W.grownBy W' (some m) → K (a.put o.dst undef) W') : Oper.wp Tryz.prog o a W K Q := by
  obtain ⟨W', hrun, h1, h2⟩ := hW.store hx hy ht hn s
  unfold Oper.wp
  simp [execOp, ho, hm, hk, hv, hrun, Result.andThen]
  exact h W' h1 h2
def TwPost (w0 : World) (f : Nat → Nat → Int) (k cols el hours F m : Nat) (FC : Array Value) (e : Ending) (w' : World) : Prop :=
  (e = .returned (.bool true) ∧ GoodTo f k cols el hours el 0 0 ∧ G w0 w' ∧ Blk w' F 104 FC ∧ ∃ cnt, WMap w' m cnt (SD f k cols el hours el 0 0)) ∨ (e = .returned (.bool false) ∧ ¬ GoodTo f k cols el hours el 0 0 ∧ G w0 w')
theorem grow_map {w0 W W' : World} {m : Nat} (hG : G w0 W) (hg : W.grownBy W' (some m)) (hm : w0.heap.size ≤ m) : G w0 W' :=
  (Fr.grown (G.fr (R := fun _ => False) hG) hg (fun g e => .inr (by cases e; exact hm))).toG (fun _ _ h => h)
theorem WMap.ne {W : World} {m n F : Nat} {t : TypeId} {cs : Array Value} {S : Int → Int → Int → Option Sk} (h : WMap W m n S) (hb : Blk W F t cs) : F ≠ m := fun e => by
  subst e
  obtain ⟨D, h1, _⟩ := h
  obtain ⟨es, clock, hm, _⟩ := h1
  unfold Blk at hb
  rw [hb] at hm
  cases hm
section
variable (f : Nat → Nat → Int) (k cols el hours fc ec F m : Nat) (ea fa : Option Addr) (FC : Array Value) (w0 w : World)
set_option maxRecDepth 100000 in
set_option maxHeartbeats 8000000 in
theorem tellWeather_any (hF : Blk w F 104 FC) (h1 : FC[1]? = some (.int .i64 (cols : Nat))) (h2 : FC[2]? = some (.slice ea el ec)) (h11 : FC[11]? = some (.slice fa k fc)) (h15 : FC[15]? = some (.int .i64 (hours : Nat))) (h18 : FC[18]? = some (.map (some m)))
    (hR : RowAt w0 fa k 12 f) (hk12 : k ≤ 12) (hG : G w0 w) (hFn : w0.heap.size ≤ F) (hmn : w0.heap.size ≤ m) (hW : WMap w m 0 (fun _ _ _ => none)) (b1 : cols ≤ 10) (b2 : el ≤ 10) (b3 : hours ≤ 12) :
    Calls Tryz.prog 80 #[.pointer (some ⟨F, 0, none⟩)] w (TwPost w0 f k cols el hours F m FC) := by
  have HT := Lib.hid (fun (W : World) (hW : G w0 W) (hB : Blk W F 104 FC) (x y h : Int) => told_any f x y h k fc fa F FC W hB h11 (hR.below hW) hk12)
  have HE := Lib.hid (fun (s : Sk) (W : World) => isEmpty_any s W)
  have HYes : Hid (∀ w', GoodTo f k cols el hours el 0 0 → G w0 w' → Blk w' F 104 FC → (∃ cnt, WMap w' m cnt (SD f k cols el hours el 0 0)) → TwPost w0 f k cols el hours F m FC (.returned (.bool true)) w') := fun w' a b c d => .inl ⟨rfl, a, b, c, d⟩
  have HNo : Hid (∀ w', ¬ GoodTo f k cols el hours el 0 0 → G w0 w' → TwPost w0 f k cols el hours F m FC (.returned (.bool false)) w') := fun w' a b => .inr ⟨rfl, a, b⟩
  generalize TwPost w0 f k cols el hours F m FC = PP at *
  have H1 := Lib.hid h1
  have H2 := Lib.hid h2
  have H15 := Lib.hid h15
  have H18 := Lib.hid h18
  clear hR h11 h1 h2 h15 h18
  have c2 : w.cell? ⟨F, 2, none⟩ = some (.slice ea el ec) := (hF.cell 2).trans H2.out
  have lF := hF.lt
  go_enter Tryz.func80, Tryz.ntmps80
  go_wp2_with fail
  go_loopw [15] (fun i wr => ∃ Y : Nat, Y ≤ el ∧ i = .int .i64 Y ∧ Hid (GoodTo f k cols el hours Y 0 0) ∧ Hid (∃ cnt, cnt ≤ Y * 200 ∧ WMap wr m cnt (SD f k cols el hours Y 0 0)) ∧ Blk wr F 104 FC ∧ G w0 wr) (fun i _ => el - (intOf i).toNat)
  case atStart => exact ⟨0, Nat.zero_le _, rfl, (fun x y h s hs => by rw [SD_zero] at hs; cases hs), ⟨0, by omega, by rw [SD_zero]; exact hW⟩, hF, hG⟩
  case round =>
    obtain ⟨Y, hY, rfl, hgd, hmp, hB, hGr⟩ := hrel
    obtain ⟨wy, rfl⟩ : ∃ wy, wy = wr := ⟨_, rfl⟩
    clear c2 lF hF hG hW
    by_cases hlt : Y < el
    · have hYi : (Y : Int) < el := by omega
      have c1 : wy.cell? ⟨F, 1, none⟩ = some (.int .i64 (cols : Nat)) := (hB.cell 1).trans H1.out
      have lF := hB.lt
      go_wp2_with fail
      clear c1 lF
      go_loopw [24] (fun i wr => ∃ X : Nat, X ≤ cols ∧ i = .int .i64 X ∧ Hid (GoodTo f k cols el hours Y X 0) ∧ Hid (∃ cnt, cnt ≤ Y * 200 + X * 15 ∧ WMap wr m cnt (SD f k cols el hours Y X 0)) ∧ Blk wr F 104 FC ∧ G w0 wr) (fun i _ => cols - (intOf i).toNat)
      case atStart => exact ⟨0, Nat.zero_le _, rfl, hgd, by simpa using hmp, hB, hGr⟩
      case round =>
        obtain ⟨X, hX, rfl, hgx, hmx, hBx, hGx⟩ := hrel
        obtain ⟨wx, rfl⟩ : ∃ wx, wx = wr := ⟨_, rfl⟩
        clear hgd hmp hB hGr
        by_cases hltx : X < cols
        · have hXi : (X : Int) < cols := by omega
          have c15 : wx.cell? ⟨F, 15, none⟩ = some (.int .i64 (hours : Nat)) := (hBx.cell 15).trans H15.out
          have lF := hBx.lt
          go_wp2_with fail
          clear c15 lF
          go_loopw [32] (fun i wr => ∃ H : Nat, H ≤ hours ∧ i = .int .i64 H ∧ Hid (GoodTo f k cols el hours Y X H) ∧ Hid (∃ cnt, cnt ≤ Y * 200 + X * 15 + H ∧ WMap wr m cnt (SD f k cols el hours Y X H)) ∧ Blk wr F 104 FC ∧ G w0 wr) (fun i _ => hours - (intOf i).toNat)
          case atStart => exact ⟨0, Nat.zero_le _, rfl, hgx, by simpa using hmx, hBx, hGx⟩
          case round =>
            obtain ⟨H, hH, rfl, hgh, hmh, hBh, hGh⟩ := hrel
            obtain ⟨wh, rfl⟩ : ∃ wh, wh = wr := ⟨_, rfl⟩
            clear hgx hmx hBx hGx
            by_cases hlth : H < hours
            · have hHi : (H : Int) < hours := by omega
              have HCN := Lib.hid (hmh.out)
              obtain ⟨sk, hsk⟩ : ∃ sk, sk = known f X Y H k := ⟨_, rfl⟩
              have HSK := Lib.hid hsk
              have hst := SD_step (f := f) (k := k) (cols := cols) (el := el) (hours := hours) hlt hltx hlth
              rw [← hsk] at hst
              have HST := Lib.hid hst
              clear hst hsk
              go_upto_region 11 with fail
              have bsp := Blk.new wh 96 #[.int .i64 (X : Nat), .int .i64 (Y : Nat), .int .i64 (H : Nat)]
              have hGa : G wh (wh.alloc (.cells #[.int .i64 (X : Nat), .int .i64 (Y : Nat), .int .i64 (H : Nat)] 96)) := (G.rf _).a _
              generalize wh.alloc (.cells #[.int .i64 (X : Nat), .int .i64 (Y : Nat), .int .i64 (H : Nat)] 96) = w1 at *
              obtain ⟨nS, hnS⟩ : ∃ n, n = wh.heap.size := ⟨_, rfl⟩
              rw [← hnS] at bsp ⊢
              clear hnS
              have t0 := bsp.cell 0
              have t1 := bsp.cell 1
              have t2 := bsp.cell 2
              have lsp := bsp.lt
              refine wp_region_lit ?_
              refine wpList_plain rfl fun K hK => ?_
              go_simp
              refine hK _ _ ?_
              clear hK
              try simp only [Act.put, List.getElem_toArray, List.getElem_cons_zero, List.getElem_cons_succ, List.setIfInBounds_toArray, List.set_cons_zero, List.set_cons_succ]
              refine wpList_plain rfl fun K hK => ?_
              go_simp
              refine hK _ _ ?_
              clear hK
              try simp only [Act.put, List.getElem_toArray, List.getElem_cons_zero, List.getElem_cons_succ, List.setIfInBounds_toArray, List.set_cons_zero, List.set_cons_succ]
              refine wpList_plain rfl fun K hK => ?_
              go_simp
              refine (HT.out _ (hGh.t hGa) (hBh.keep hGa) X Y H).mono ?_
              rw [← HSK.out]
              rintro e w2 ⟨rfl, hG2⟩
              refine hK _ _ ?_
              clear hK t0 t1 t2 lsp
              try simp only [Act.put, List.getElem_toArray, List.getElem_cons_zero, List.getElem_cons_succ, List.setIfInBounds_toArray, List.set_cons_zero, List.set_cons_succ]
              refine wpList_plain rfl fun K hK => ?_
              go_simp
              refine hK _ _ ?_
              clear hK
              try simp only [Act.put, List.getElem_toArray, List.getElem_cons_zero, List.getElem_cons_succ, List.setIfInBounds_toArray, List.set_cons_zero, List.set_cons_succ]
              refine wpList_store102 w2.heap.size 7 42 (x := sk0) rfl rfl rfl rfl (Blk.new w2 93 _) fun W3 hB3 hF3 hG3 => ?_
              try simp only [Act.put, List.getElem_toArray, List.getElem_cons_zero, List.getElem_cons_succ, List.setIfInBounds_toArray, List.set_cons_zero, List.set_cons_succ]
              have hG4 : G w1 W3 := hG3 w1 hG2.size (hG2.a _)
              replace bsp := bsp.keep hG4
              have hGw : G wh W3 := hGa.t hG4
              obtain ⟨nK, hnK⟩ : ∃ n, n = w2.heap.size := ⟨_, rfl⟩
              rw [← hnK] at hB3 ⊢
              clear hF3 hG3 hnK hG2 hG4 hGa
              have hE := fun W : World => HE.out sk W
              cases hs : skNone sk
              · rw [hs] at hE
                have HS2 := Lib.hid hs
                have HE2 := Lib.hid hE
                clear hs hE
                go_upto_region 12 with fail
                refine wp_region_lit ?_
                refine wpList_load102 nK 7 rfl rfl rfl hB3 ?_
                try simp only [Act.put, List.getElem_toArray, List.getElem_cons_zero, List.getElem_cons_succ, List.setIfInBounds_toArray, List.set_cons_zero, List.set_cons_succ]
                go_wp2_with fail
                refine (HE2.out _).mono ?_
                rintro e w5 ⟨rfl, hG5⟩
                replace bsp := bsp.keep hG5
                replace hB3 := hB3.keep hG5
                replace hGw := hGw.t hG5
                clear hG5
                have hBF := hBh.keep hGw
                obtain ⟨cnt, hcnt, hmap⟩ := HCN.out
                replace hmap := hmap.keep hGw
                go_wp2_with fail
                have hSk : ∀ W', G w5 W' → Blk W' nS 96 #[.int .i64 (X : Nat), .int .i64 (Y : Nat), .int .i64 (H : Nat)] ∧ Blk W' nK 93 sk.v ∧ W'.cell? ⟨F, 18, none⟩ = some (.map (some m)) := fun W' hW => ⟨bsp.keep hW, hB3.keep hW, ((hBF.keep hW).cell 18).trans H18.out⟩
                refine wp_region_Y (S := fun W' => Blk W' nS 96 #[.int .i64 (X : Nat), .int .i64 (Y : Nat), .int .i64 (H : Nat)] ∧ Blk W' nK 93 sk.v ∧ W'.cell? ⟨F, 18, none⟩ = some (.map (some m))) 6 7 rfl (by kernel_rfl) (hSk _ (G.rf _).d) (fun hS => ?_)
                refine wpAnyY_take (i := 0) (v := ?_) rfl (by kernel_rfl) (by kernel_rfl) (by kernel_rfl) (by kernel_rfl) (fun _ _ _ h => h) (Or.inl ⟨by kernel_rfl, ?_⟩) hS ?_
                rotate_left
                · intro w' hSw; go_simp; with_reducible rfl
                try simp only [Act.put, List.getElem_toArray, List.getElem_cons_zero, List.getElem_cons_succ, List.setIfInBounds_toArray, List.set_cons_zero, List.set_cons_succ]
                refine wpAnyY_take (i := 1) (v := ?_) rfl (by kernel_rfl) (by kernel_rfl) (by kernel_rfl) (by kernel_rfl) (fun _ _ _ h => h) (Or.inl ⟨by kernel_rfl, ?_⟩) hS ?_
                rotate_left
                · intro w' hSw; go_simp; with_reducible rfl
                try simp only [Act.put, List.getElem_toArray, List.getElem_cons_zero, List.getElem_cons_succ, List.setIfInBounds_toArray, List.set_cons_zero, List.set_cons_succ]
                refine wpAnyY_take (i := 2) (v := ?_) rfl (by kernel_rfl) (by kernel_rfl) (by kernel_rfl) (by kernel_rfl) (fun _ _ _ h => h) (Or.inl ⟨by kernel_rfl, ?_⟩) hS ?_
                rotate_left
                · intro w' hSw; go_simp; with_reducible rfl
                try simp only [Act.put, List.getElem_toArray, List.getElem_cons_zero, List.getElem_cons_succ, List.setIfInBounds_toArray, List.set_cons_zero, List.set_cons_succ]
                refine wpAnyY_take (i := 3) (v := ?_) rfl (by kernel_rfl) (by kernel_rfl) (by kernel_rfl) (by kernel_rfl) (fun _ _ _ h => h) (Or.inl ⟨by kernel_rfl, ?_⟩) hS ?_
                rotate_left
                · intro w' hSw; have y18 := hSw.2.2; go_simp; with_reducible rfl
                try simp only [Act.put, List.getElem_toArray, List.getElem_cons_zero, List.getElem_cons_succ, List.setIfInBounds_toArray, List.set_cons_zero, List.set_cons_succ]
                refine wpAnyY_take (i := 4) (v := ?_) rfl (by kernel_rfl) (by kernel_rfl) (by kernel_rfl) (by kernel_rfl) (fun _ _ _ h => h) (Or.inl ⟨by kernel_rfl, ?_⟩) hS ?_
                rotate_left
                · intro w' hSw; have e0 := hSw.1.cell 0; have e1 := hSw.1.cell 1; have e2 := hSw.1.cell 2; go_simp; with_reducible rfl
                try simp only [Act.put, List.getElem_toArray, List.getElem_cons_zero, List.getElem_cons_succ, List.setIfInBounds_toArray, List.set_cons_zero, List.set_cons_succ]
                refine wpAnyY_take (i := 5) (v := .agg sk.v) rfl (by kernel_rfl) (by kernel_rfl) (by kernel_rfl) (by kernel_rfl) (fun _ _ _ h => h) (Or.inl ⟨by kernel_rfl, ?_⟩) hS ?_
                · intro w' hSw; exact load102 w' nK 7 _ _ rfl (by kernel_rfl) hSw.2.1
                try simp only [Act.put, List.getElem_toArray, List.getElem_cons_zero, List.getElem_cons_succ, List.setIfInBounds_toArray, List.set_cons_zero, List.set_cons_succ]
                refine wpAnyY_oneW (i := 6) (by kernel_rfl) rfl (by kernel_rfl) (by kernel_rfl) (fun K6 hK6 => ?_)
                have hmd : WMap w5.drew m cnt (SD f k cols el hours Y X H) := hmap.keep (G.rf w5).d
                refine wp_mapStore 48 49 50 (x := (X : Nat)) (y := (Y : Nat)) (t := (H : Nat)) (s := sk) rfl rfl rfl rfl hmd (by unfold i64b; omega) (by unfold i64b; omega) (by unfold i64b; omega) (by unfold maxLen; omega) fun W6 hm6 hg6 => ?_
                refine hK6.out _ _ ?_
                try simp only [Act.put, List.getElem_toArray, List.getElem_cons_zero, List.getElem_cons_succ, List.setIfInBounds_toArray, List.set_cons_zero, List.set_cons_succ]
                refine wpAnyY_done (by kernel_rfl) ?_ _
                have hne : F ≠ m := hmap.ne hBF
                have hB6 : Blk W6 F 104 FC := (hBF.keep (G.rf w5).d).grown hg6 (by intro e; cases e; exact hne rfl)
                have hG6 : G w0 W6 := grow_map ((hGh.t hGw).d) hg6 hmn
                have hgood : GoodTo f k cols el hours Y X (H + 1) := fun x y h s he => by
                  rw [HST.out] at he
                  dsimp only at he
                  by_cases e : x = (X : Int) ∧ y = (Y : Int) ∧ h = (H : Int)
                  · rw [if_pos e] at he
                    cases he
                    exact HS2.out
                  · rw [if_neg e] at he
                    exact hgh.out x y h s he
                have HG := Lib.hid hgood
                have HM : Hid (∃ c, c ≤ Y * 200 + X * 15 + (H + 1) ∧ WMap W6 m c (SD f k cols el hours Y X (H + 1))) := ⟨cnt + 1, by omega, by rw [HST.out]; exact hm6⟩
                clear hS hSk hK6 hmd hmap hBF hm6 hg6 bsp hB3 hgood hne
                go_wp2_with fail
                go_roundw
                case rel => exact ⟨H + 1, by omega, by go_num, HG.out, HM.out, hB6, hG6⟩
                case measure => simp [intOf]; omega
              · rw [hs] at hE
                have hbad : ¬ GoodTo f k cols el hours el 0 0 := fun hg => by
                  have := hg X Y H sk (by
                    unfold SD doneB
                    rw [if_pos (by simp only [decide_eq_true_eq]; omega), ← HSK.out])
                  rw [hs] at this
                  cases this
                have HBAD := Lib.hid hbad
                have HE2 := Lib.hid hE
                clear hs hE hbad
                go_upto_region 12 with fail
                refine wp_region_lit ?_
                refine wpList_load102 nK 7 rfl rfl rfl hB3 ?_
                try simp only [Act.put, List.getElem_toArray, List.getElem_cons_zero, List.getElem_cons_succ, List.setIfInBounds_toArray, List.set_cons_zero, List.set_cons_succ]
                go_wp2_with fail
                refine (HE2.out _).mono ?_
                rintro e w5 ⟨rfl, hG5⟩
                have HF := Lib.hid (HNo.out w5 HBAD.out ((hGh.t hGw).t hG5))
                go_wp2
                exact HF.out
            · obtain rfl : H = hours := by omega
              have hHi : ¬ ((H : Nat) : Int) < H := by omega
              go_wp2_with fail
              go_roundw
              case rel => exact ⟨X + 1, by omega, by go_num, by have := hgh.out; unfold GoodTo at *; rw [← SD_hour]; exact this, by
                obtain ⟨cnt, h1, h2⟩ := hmh.out
                exact ⟨cnt, by omega, by rw [← SD_hour]; exact h2⟩, hBh, hGh⟩
              case measure => simp [intOf]; omega
        · obtain rfl : X = cols := by omega
          have hXi : ¬ ((X : Nat) : Int) < X := by omega
          go_wp2_with fail
          go_roundw
          case rel => exact ⟨Y + 1, by omega, by go_num, by have := hgx.out; unfold GoodTo at *; rw [← SD_col]; exact this, by
            obtain ⟨cnt, h1, h2⟩ := hmx.out
            exact ⟨cnt, by omega, by rw [← SD_col]; exact h2⟩, hBx, hGx⟩
          case measure => simp [intOf]; omega
    · obtain rfl : Y = el := by omega
      have hYi : ¬ ((Y : Nat) : Int) < Y := by omega
      have HF := Lib.hid (HYes.out wy hgd.out hGr hB (by obtain ⟨cnt, _, h⟩ := hmp.out; exact ⟨cnt, h⟩))
      go_wp2
      exact HF.out
end
end Go.Proofs.YtcekdljjmfkacaaGreat
set_option linter.unusedSimpArgs false
set_option linter.unusedVariables false
namespace Go.Proofs.YtcekdljjmfkacaaGreat
open Go.RowKit
attribute [local go_sem] Oper.semAt_some
theorem WMap.look2 {W : World} {m n : Nat} {S : Int → Int → Int → Option Sk} (h : WMap W m n S) {x y t : Int} (hx : i64b x) (hy : i64b y) (ht : i64b t) :
    (Instr.lookup 102 (.map (some m)) (spotV x y t) true).run Tryz.prog W = .ok (.tuple #[.agg ((S x y t).getD sk0).v, .bool (S x y t).isSome]) W := by
  obtain ⟨D, h1, h2⟩ := h
  obtain ⟨l, hl⟩ := spotKey hx hy ht
  obtain ⟨v, ps, hrun, hv⟩ := h1.look_ok lawSpot Tryz.underlying102 (zeroSky W) (skR_mk sk0) hl
  obtain ⟨s, rfl, hs⟩ := skR_inv hv
  obtain ⟨e1, e2⟩ := h2 x y t hx hy ht l hl
  simp only [Prod.mk.injEq] at hs
  rw [e1] at hrun
  cases hS : S x y t with
  | none =>
    rw [hS] at e1 hrun
    have : D.atKey l (skD sk0) = skD sk0 := Maps.atKey_of_not_has e1 _
    have es : s = sk0 := skD_inj (hs.1.symm.trans this)
    subst es
    exact hrun
  | some s' =>
    rw [hS] at hrun
    have es : s = s' := skD_inj (hs.1.symm.trans (e2 s' hS _))
    subst es
    exact hrun
section
variable (m n F : Nat) (FC : Array Value) (S : Int → Int → Int → Option Sk) (x y t : Int) (w : World)
set_option maxRecDepth 100000 in
set_option maxHeartbeats 4000000 in
theorem skyAt_any (hB : Blk w F 104 FC) (h18 : FC[18]? = some (.map (some m))) (hW : WMap w m n S) (hx : i64b x) (hy : i64b y) (ht : i64b t) :
    Calls Tryz.prog 51 #[.pointer (some ⟨F, 0, none⟩), .agg #[.int .i64 x, .int .i64 y, .int .i64 t]] w fun e w' => e = .returned (.agg ((S x y t).getD skAny).v) ∧ G w w' := by
  have HAny := Lib.hid (fun W : World => anySky_any W)
  obtain ⟨g0, b0, b1⟩ := w2_spec w #[.int .i64 x, .int .i64 y, .int .i64 t] sk0.v 96 93
  have hB0 := hB.keep g0
  have hW0 := hW.keep g0
  obtain ⟨ro, hro⟩ : ∃ ro, ro = S x y t := ⟨_, rfl⟩
  have HRO := Lib.hid hro
  have hlook : ∀ W', G ((w.alloc (.cells #[.int .i64 x, .int .i64 y, .int .i64 t] 96)).alloc (.cells sk0.v 93)) W' → (Instr.lookup 102 (.map (some m)) (.agg #[.int .i64 x, .int .i64 y, .int .i64 t]) true).run Tryz.prog W' = .ok (.tuple #[.agg (ro.getD sk0).v, .bool ro.isSome]) W' := fun W' hG => by rw [hro]; exact (hW0.keep hG).look2 hx hy ht
  rw [← hro]
  clear hro hW hW0 hB
  go_enter Tryz.func51, Tryz.ntmps51
  go_upto_region 1 with fail
  change Code.wp _ _ _ _ ((w.alloc (.cells #[.int .i64 x, .int .i64 y, .int .i64 t] 96)).alloc (.cells sk0.v 93))
  generalize (w.alloc (.cells #[.int .i64 x, .int .i64 y, .int .i64 t] 96)).alloc (.cells sk0.v 93) = w1 at *
  have hSk : ∀ W', G w1 W' → (Blk W' w.heap.size 96 #[.int .i64 x, .int .i64 y, .int .i64 t] ∧ W'.cell? ⟨F, 18, none⟩ = some (.map (some m)) ∧ (Instr.lookup 102 (.map (some m)) (.agg #[.int .i64 x, .int .i64 y, .int .i64 t]) true).run Tryz.prog W' = .ok (.tuple #[.agg (ro.getD sk0).v, .bool ro.isSome]) W') := fun W' hG => ⟨b0.keep hG, ((hB0.keep hG).cell 18).trans h18, hlook W' hG⟩
  have h1size : w.heap.size + 2 ≤ w1.heap.size := by have := b1.lt; omega
  refine wp_region_Y (S := fun W' => Blk W' w.heap.size 96 #[.int .i64 x, .int .i64 y, .int .i64 t] ∧ W'.cell? ⟨F, 18, none⟩ = some (.map (some m)) ∧ (Instr.lookup 102 (.map (some m)) (.agg #[.int .i64 x, .int .i64 y, .int .i64 t]) true).run Tryz.prog W' = .ok (.tuple #[.agg (ro.getD sk0).v, .bool ro.isSome]) W') 11 12 rfl (by kernel_rfl) (hSk _ (G.rf _).d) (fun hS => ?_)
  refine wpAnyY_take (i := 0) (v := ?_) rfl (by kernel_rfl) (by kernel_rfl) (by kernel_rfl) (by kernel_rfl) (fun _ _ _ h => h) (Or.inl ⟨by kernel_rfl, ?_⟩) hS ?_
  rotate_left
  · intro w' hSw; go_simp; with_reducible rfl
  try simp only [Act.put, List.getElem_toArray, List.getElem_cons_zero, List.getElem_cons_succ, List.setIfInBounds_toArray, List.set_cons_zero, List.set_cons_succ]
  refine wpAnyY_take (i := 1) (v := ?_) rfl (by kernel_rfl) (by kernel_rfl) (by kernel_rfl) (by kernel_rfl) (fun _ _ _ h => h) (Or.inl ⟨by kernel_rfl, ?_⟩) hS ?_
  rotate_left
  · intro w' hSw; go_simp; with_reducible rfl
  try simp only [Act.put, List.getElem_toArray, List.getElem_cons_zero, List.getElem_cons_succ, List.setIfInBounds_toArray, List.set_cons_zero, List.set_cons_succ]
  refine wpAnyY_take (i := 2) (v := ?_) rfl (by kernel_rfl) (by kernel_rfl) (by kernel_rfl) (by kernel_rfl) (fun _ _ _ h => h) (Or.inl ⟨by kernel_rfl, ?_⟩) hS ?_
  rotate_left
  · intro w' hSw; go_simp; with_reducible rfl
  try simp only [Act.put, List.getElem_toArray, List.getElem_cons_zero, List.getElem_cons_succ, List.setIfInBounds_toArray, List.set_cons_zero, List.set_cons_succ]
  refine wpAnyY_take (i := 3) (v := ?_) rfl (by kernel_rfl) (by kernel_rfl) (by kernel_rfl) (by kernel_rfl) (fun _ _ _ h => h) (Or.inl ⟨by kernel_rfl, ?_⟩) hS ?_
  rotate_left
  · intro w' hSw; have y18 := hSw.2.1; go_simp; with_reducible rfl
  try simp only [Act.put, List.getElem_toArray, List.getElem_cons_zero, List.getElem_cons_succ, List.setIfInBounds_toArray, List.set_cons_zero, List.set_cons_succ]
  refine wpAnyY_take (i := 4) (v := ?_) rfl (by kernel_rfl) (by kernel_rfl) (by kernel_rfl) (by kernel_rfl) (fun _ _ _ h => h) (Or.inl ⟨by kernel_rfl, ?_⟩) hS ?_
  rotate_left
  · intro w' hSw; have e0 := hSw.1.cell 0; have e1 := hSw.1.cell 1; have e2 := hSw.1.cell 2; go_simp; with_reducible rfl
  try simp only [Act.put, List.getElem_toArray, List.getElem_cons_zero, List.getElem_cons_succ, List.setIfInBounds_toArray, List.set_cons_zero, List.set_cons_succ]
  refine wpAnyY_take (i := 5) (v := ?_) rfl (by kernel_rfl) (by kernel_rfl) (by kernel_rfl) (by kernel_rfl) (fun _ _ _ h => h) (Or.inl ⟨by kernel_rfl, ?_⟩) hS ?_
  rotate_left
  · intro w' hSw; have hl := hSw.2.2; go_simp; with_reducible rfl
  try simp only [Act.put, List.getElem_toArray, List.getElem_cons_zero, List.getElem_cons_succ, List.setIfInBounds_toArray, List.set_cons_zero, List.set_cons_succ]
  refine wpAnyY_take (i := 6) (v := ?_) rfl (by kernel_rfl) (by kernel_rfl) (by kernel_rfl) (by kernel_rfl) (fun _ _ _ h => h) (Or.inl ⟨by kernel_rfl, ?_⟩) hS ?_
  rotate_left
  · intro w' hSw; go_simp; with_reducible rfl
  try simp only [Act.put, List.getElem_toArray, List.getElem_cons_zero, List.getElem_cons_succ, List.setIfInBounds_toArray, List.set_cons_zero, List.set_cons_succ]
  refine wpAnyY_take (i := 7) (v := ?_) rfl (by kernel_rfl) (by kernel_rfl) (by kernel_rfl) (by kernel_rfl) (fun _ _ _ h => h) (Or.inl ⟨by kernel_rfl, ?_⟩) hS ?_
  rotate_left
  · intro w' hSw; go_simp; with_reducible rfl
  try simp only [Act.put, List.getElem_toArray, List.getElem_cons_zero, List.getElem_cons_succ, List.setIfInBounds_toArray, List.set_cons_zero, List.set_cons_succ]
  refine wpAnyY_take (i := 8) (v := ?_) rfl (by kernel_rfl) (by kernel_rfl) (by kernel_rfl) (by kernel_rfl) (fun _ _ _ h => h) (Or.inl ⟨by kernel_rfl, ?_⟩) hS ?_
  rotate_left
  · intro w' hSw; go_simp; with_reducible rfl
  try simp only [Act.put, List.getElem_toArray, List.getElem_cons_zero, List.getElem_cons_succ, List.setIfInBounds_toArray, List.set_cons_zero, List.set_cons_succ]
  have gd := (G.rf w1).d
  refine wpAnyY_oneSW (i := 9) (by kernel_rfl) rfl (by kernel_rfl) (fun K9 hK9 => ?_)
  go_simp
  refine hK9.out _ _ (hSk _ (gd.a _)) (fun hS => ?_)
  try simp only [Act.put, List.getElem_toArray, List.getElem_cons_zero, List.getElem_cons_succ, List.setIfInBounds_toArray, List.set_cons_zero, List.set_cons_succ]
  refine wpAnyY_oneSW (i := 10) (by kernel_rfl) rfl (by kernel_rfl) (fun K10 hK10 => ?_)
  refine wp_store102 w1.drew.heap.size 5 14 (x := sk0) (s := ro.getD sk0) rfl rfl rfl (Blk.new w1.drew 93 _) fun W2 hB2 hF2 hG2 => ?_
  have hG4 : G w1 W2 := hG2 w1 (Nat.le_refl _) (gd.a _)
  refine hK10.out _ _ (hSk _ hG4) (fun hS => ?_)
  try simp only [Act.put, List.getElem_toArray, List.getElem_cons_zero, List.getElem_cons_succ, List.setIfInBounds_toArray, List.set_cons_zero, List.set_cons_succ]
  refine wpAnyY_oneW (i := 11) (by kernel_rfl) rfl (by kernel_rfl) (by kernel_rfl) (fun K11 hK11 => ?_)
  go_simp
  refine hK11.out _ _ ?_
  try simp only [Act.put, List.getElem_toArray, List.getElem_cons_zero, List.getElem_cons_succ, List.setIfInBounds_toArray, List.set_cons_zero, List.set_cons_succ]
  refine wpAnyY_done (by kernel_rfl) ?_ _
  have hn5 : w.heap.size + 2 ≤ w1.heap.size := h1size
  replace hB2 : Blk W2 w1.heap.size 93 (ro.getD sk0).v := hB2
  obtain ⟨n5, hn5e⟩ : ∃ n, n = w1.heap.size := ⟨_, rfl⟩
  rw [← hn5e] at hB2 hn5 ⊢
  have hz := b1.keep hG4
  have hGw := g0.t hG4
  clear hS hSk hK9 hK10 hK11 hF2 hG2 hn5e hlook gd b0 b1 hB0 h1size
  cases hr : ro with
  | none =>
    subst hr
    go_upto_region 4 with fail
    refine wp_region_lit ?_
    refine wpList_plain rfl fun K hK => ?_
    go_simp
    refine (HAny.out _).mono ?_
    rintro e w5 ⟨rfl, hG5⟩
    refine hK _ _ ?_
    clear hK
    try simp only [Act.put, List.getElem_toArray, List.getElem_cons_zero, List.getElem_cons_succ, List.setIfInBounds_toArray, List.set_cons_zero, List.set_cons_succ]
    refine wpList_store102 (w.heap.size + 1) 4 18 (x := sk0) (s := skAny) rfl rfl rfl rfl (hz.keep hG5) fun W5 hB5 hF5 hG6 => ?_
    try simp only [Act.put, List.getElem_toArray, List.getElem_cons_zero, List.getElem_cons_succ, List.setIfInBounds_toArray, List.set_cons_zero, List.set_cons_succ]
    have hGG := hG6 w (by omega) (hGw.t hG5)
    clear hF5 hG6
    go_wp2_with fail
    exact bodyPost_ret (resSky Tryz.f51 4 _ _ (w.heap.size + 1) skAny rfl rfl hB5) rfl ⟨rfl, hGG⟩
  | some s =>
    subst hr
    go_upto_region 3 with fail
    refine wp_region_lit ?_
    refine wpList_load102 n5 5 rfl rfl rfl hB2 ?_
    try simp only [Act.put, List.getElem_toArray, List.getElem_cons_zero, List.getElem_cons_succ, List.setIfInBounds_toArray, List.set_cons_zero, List.set_cons_succ]
    refine wpList_store102 (w.heap.size + 1) 4 17 (x := sk0) rfl rfl rfl rfl hz fun W5 hB5 hF5 hG5 => ?_
    try simp only [Act.put, List.getElem_toArray, List.getElem_cons_zero, List.getElem_cons_succ, List.setIfInBounds_toArray, List.set_cons_zero, List.set_cons_succ]
    have hGG := hG5 w (by omega) hGw
    clear hF5 hG5
    go_wp2_with fail
    exact bodyPost_ret (resSky Tryz.f51 4 _ _ (w.heap.size + 1) s rfl rfl hB5) rfl ⟨rfl, hGG⟩
end
end Go.Proofs.YtcekdljjmfkacaaGreat
