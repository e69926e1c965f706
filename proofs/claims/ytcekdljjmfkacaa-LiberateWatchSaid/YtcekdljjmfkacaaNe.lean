import Derived.Test.YtcekdljjmfkacaaNd
set_option linter.unusedSimpArgs false
set_option linter.unusedVariables false
namespace Go.Proofs.Ytcekdljjmfkacaa
open Go.RowKit
attribute [local go_sem] Oper.semAt_some
def skF (d : Nat → Int) : Sk := ⟨d 6, d 7, d 8, d 9, d 10, d 11⟩
def inFr (d : Nat → Int) (x y h : Int) : Bool := isInB h (d 0) (d 1) && (isInB x (d 2) (d 3) && isInB y (d 4) (d 5))
/-- the weather at a place in an hour that the first k fronts leave -/
def known (f : Nat → Nat → Int) (x y h : Int) : Nat → Sk
  | 0 => skAny
  | k + 1 => if inFr (f k) x y h then (known f x y h k).both (skF (f k)) else known f x y h k
theorem known_yes {f : Nat → Nat → Int} {x y h : Int} {k : Nat} (hi : inFr (f k) x y h = true) : known f x y h (k + 1) = (known f x y h k).both (skF (f k)) := if_pos hi
theorem known_no {f : Nat → Nat → Int} {x y h : Int} {k : Nat} (hi : inFr (f k) x y h = false) : known f x y h (k + 1) = known f x y h k := if_neg (by rw [hi]; simp)
section
variable (f : Nat → Nat → Int) (x y h : Int) (k fc : Nat) (fa : Option Addr) (F : Nat) (FC : Array Value) (w : World)
set_option maxRecDepth 100000 in
set_option maxHeartbeats 8000000 in
theorem told_any (hF : Blk w F 112 FC) (h11 : FC[11]? = some (.slice fa k fc)) (hR : RowAt w fa k 12 f) (hk12 : k ≤ 12) :
    Calls Try.prog 95 #[.pointer (some ⟨F, 0, none⟩), .agg #[.int .i64 x, .int .i64 y, .int .i64 h]] w fun e w' => e = .returned (.agg (known f x y h k).v) ∧ G w w' := by
  have HAny := Lib.hid (fun W : World => anySky_any W)
  have HPP : Hid (∀ w', G w w' → (Ending.returned (.agg (known f x y h k).v) = Ending.returned (.agg (known f x y h k).v)) ∧ G w w') := fun w' a => ⟨rfl, a⟩
  obtain ⟨g0, b0, b1⟩ := w2_spec w #[.int .i64 x, .int .i64 y, .int .i64 h] sk0.v 105 102
  have hF0 := hF.keep g0
  have c11 : ((w.alloc (.cells #[.int .i64 x, .int .i64 y, .int .i64 h] 105)).alloc (.cells sk0.v 102)).cell? ⟨F, 11, none⟩ = some (.slice fa k fc) := (hF0.cell 11).trans h11
  have lF := hF0.lt
  clear hF hF0 h11
  go_enter Try.func95, Try.ntmps95
  go_upto_region 1 with fail
  change Code.wp _ _ _ _ ((w.alloc (.cells #[.int .i64 x, .int .i64 y, .int .i64 h] 105)).alloc (.cells sk0.v 102))
  generalize (w.alloc (.cells #[.int .i64 x, .int .i64 y, .int .i64 h] 105)).alloc (.cells sk0.v 102) = w1 at *
  refine wp_region_lit ?_
  refine wpList_plain rfl fun K hK => ?_
  go_simp
  refine (HAny.out _).mono ?_
  rintro e w2 ⟨rfl, hG1⟩
  refine hK _ _ ?_
  clear hK
  try simp only [Act.put, List.getElem_toArray, List.getElem_cons_zero, List.getElem_cons_succ, List.setIfInBounds_toArray, List.set_cons_zero, List.set_cons_succ]
  refine wpList_plain rfl fun K hK => ?_
  go_simp
  refine hK _ _ ?_
  clear hK
  try simp only [Act.put, List.getElem_toArray, List.getElem_cons_zero, List.getElem_cons_succ, List.setIfInBounds_toArray, List.set_cons_zero, List.set_cons_succ]
  refine wpList_store102 w2.heap.size 5 8 (x := sk0) rfl rfl rfl rfl (Blk.new w2 102 _) fun W3 hB3 hF3 hG3 => ?_
  try simp only [Act.put, List.getElem_toArray, List.getElem_cons_zero, List.getElem_cons_succ, List.setIfInBounds_toArray, List.set_cons_zero, List.set_cons_succ]
  have hG2 : G w1 W3 := hG3 w1 hG1.size (hG1.a _)
  have hn : w.heap.size + 2 ≤ w2.heap.size := by have := g0.size; have := hG1.size; have := b1.lt; omega
  replace b0 := b0.keep hG2; replace b1 := b1.keep hG2; replace c11 := ((bcellB hG2).1 F _ lF).trans c11; replace lF := Nat.lt_of_lt_of_le lF hG2.size; replace g0 := g0.t hG2
  obtain ⟨n5, hn5⟩ : ∃ n, n = w2.heap.size := ⟨_, rfl⟩
  rw [← hn5] at hB3 hn ⊢
  clear hG1 hG2 hF3 hG3 hn5 HAny
  have hx0 := b0.cell 0
  go_wp2_with fail
  go_loopw [15] (fun i wr => ∃ q : Nat, q ≤ k ∧ i = .int .i64 q ∧ Blk wr n5 102 (known f x y h q).v ∧ Blk wr w.heap.size 105 #[.int .i64 x, .int .i64 y, .int .i64 h] ∧ Blk wr (w.heap.size + 1) 102 sk0.v ∧ G w wr) (fun i _ => k - (intOf i).toNat)
  case atStart => exact ⟨0, Nat.zero_le _, rfl, hB3, b0, b1, g0⟩
  case round =>
    obtain ⟨q, hq, rfl, hB, c0, c1, hG⟩ := hrel
    obtain ⟨wo, rfl⟩ : ∃ wo, wo = wr := ⟨_, rfl⟩
    clear hB3 b0 b1 g0 hx0
    by_cases hlt : q < k
    · have hki : (q : Int) < k := by omega
      rcases hR with h0 | ⟨g, off, rfl, hg, hcell⟩
      · omega
      have hcl := fun r hr => ((bcellB hG).1 g _ hg).trans (hcell q hlt r hr)
      have q0 := hcl 0 (by omega)
      rw [Nat.add_zero] at q0
      have q1 := hcl 1 (by omega)
      have q2 := hcl 2 (by omega)
      have q3 := hcl 3 (by omega)
      have q4 := hcl 4 (by omega)
      have q5 := hcl 5 (by omega)
      have q6 := hcl 6 (by omega)
      have q7 := hcl 7 (by omega)
      have q8 := hcl 8 (by omega)
      have q9 := hcl 9 (by omega)
      have q10 := hcl 10 (by omega)
      have q11 := hcl 11 (by omega)
      clear hcl
      have lg := Nat.lt_of_lt_of_le hg hG.size
      have s0 := c0.cell 0
      have s1 := c0.cell 1
      have s2 := c0.cell 2
      have lS := c0.lt
      have HI := Lib.hid (fun (a b c : Int) (W : World) => lIn_any a b c W)
      have gA : G wo (wo.alloc (.cells #[.int .i64 (f q 0), .int .i64 (f q 1), .int .i64 (f q 2), .int .i64 (f q 3), .int .i64 (f q 4), .int .i64 (f q 5), .int .i64 (f q 6), .int .i64 (f q 7), .int .i64 (f q 8), .int .i64 (f q 9), .int .i64 (f q 10), .int .i64 (f q 11)] 60)) := (G.rf _).a _
      have hK := known_yes (f := f) (x := x) (y := y) (h := h) (k := q)
      have hK2 := known_no (f := f) (x := x) (y := y) (h := h) (k := q)
      unfold inFr at hK hK2
      go_upto_region 5 with fail
      have b60 := Blk.new wo 60 #[.int .i64 (f q 0), .int .i64 (f q 1), .int .i64 (f q 2), .int .i64 (f q 3), .int .i64 (f q 4), .int .i64 (f q 5), .int .i64 (f q 6), .int .i64 (f q 7), .int .i64 (f q 8), .int .i64 (f q 9), .int .i64 (f q 10), .int .i64 (f q 11)]
      have cA := c0.alloc (.cells #[.int .i64 (f q 0), .int .i64 (f q 1), .int .i64 (f q 2), .int .i64 (f q 3), .int .i64 (f q 4), .int .i64 (f q 5), .int .i64 (f q 6), .int .i64 (f q 7), .int .i64 (f q 8), .int .i64 (f q 9), .int .i64 (f q 10), .int .i64 (f q 11)] 60)
      clear s0 s1 s2 lS q0 q1 q2 q3 q4 q5 q6 q7 q8 q9 q10 q11 lg hg hcell
      generalize wo.alloc (.cells #[.int .i64 (f q 0), .int .i64 (f q 1), .int .i64 (f q 2), .int .i64 (f q 3), .int .i64 (f q 4), .int .i64 (f q 5), .int .i64 (f q 6), .int .i64 (f q 7), .int .i64 (f q 8), .int .i64 (f q 9), .int .i64 (f q 10), .int .i64 (f q 11)] 60) = w5 at *
      obtain ⟨n6, hn6⟩ : ∃ n, n = wo.heap.size := ⟨_, rfl⟩
      rw [← hn6] at b60 ⊢
      clear hn6
      have s0 := cA.cell 0; have s1 := cA.cell 1; have s2 := cA.cell 2; have lS := cA.lt; have d0 := b60.cell 0; have d1 := b60.cell 1; have d2 := b60.cell 2; have d3 := b60.cell 3; have d4 := b60.cell 4; have d5 := b60.cell 5; have l6 := b60.lt
      cases h1 : isInB h (f q 0) (f q 1)
      · have HK := Lib.hid (hK2 (by rw [h1]; rfl))
        clear hK hK2
        go_wp2_with (go_at_call 74; refine (HI.out _ _ _ _).mono ?_; simp only [h1]; rintro e w6 ⟨rfl, hG6⟩; clear s0 s1 s2 lS d0 d1 d2 d3 d4 d5 l6; replace cA := cA.keep hG6; replace b60 := b60.keep hG6; replace gA := gA.t hG6; clear hG6; have s0 := cA.cell 0; have s1 := cA.cell 1; have s2 := cA.cell 2; have lS := cA.lt; have d0 := b60.cell 0; have d1 := b60.cell 1; have d2 := b60.cell 2; have d3 := b60.cell 3; have d4 := b60.cell 4; have d5 := b60.cell 5; have l6 := b60.lt)
        go_roundw
        case rel => exact ⟨q + 1, by omega, by go_num, by rw [HK.out]; exact hB.keep gA, c0.keep gA, c1.keep gA, hG.t gA⟩
        case measure => simp [intOf]; omega
      cases h2 : isInB x (f q 2) (f q 3)
      · have HK := Lib.hid (hK2 (by rw [h1, h2]; rfl))
        clear hK hK2
        go_wp2_with (go_at_call 74; refine (HI.out _ _ _ _).mono ?_; simp only [h1, h2]; rintro e w6 ⟨rfl, hG6⟩; clear s0 s1 s2 lS d0 d1 d2 d3 d4 d5 l6; replace cA := cA.keep hG6; replace b60 := b60.keep hG6; replace gA := gA.t hG6; clear hG6; have s0 := cA.cell 0; have s1 := cA.cell 1; have s2 := cA.cell 2; have lS := cA.lt; have d0 := b60.cell 0; have d1 := b60.cell 1; have d2 := b60.cell 2; have d3 := b60.cell 3; have d4 := b60.cell 4; have d5 := b60.cell 5; have l6 := b60.lt)
        go_roundw
        case rel => exact ⟨q + 1, by omega, by go_num, by rw [HK.out]; exact hB.keep gA, c0.keep gA, c1.keep gA, hG.t gA⟩
        case measure => simp [intOf]; omega
      cases h3 : isInB y (f q 4) (f q 5)
      · have HK := Lib.hid (hK2 (by rw [h1, h2, h3]; rfl))
        clear hK hK2
        go_wp2_with (go_at_call 74; refine (HI.out _ _ _ _).mono ?_; simp only [h1, h2, h3]; rintro e w6 ⟨rfl, hG6⟩; clear s0 s1 s2 lS d0 d1 d2 d3 d4 d5 l6; replace cA := cA.keep hG6; replace b60 := b60.keep hG6; replace gA := gA.t hG6; clear hG6; have s0 := cA.cell 0; have s1 := cA.cell 1; have s2 := cA.cell 2; have lS := cA.lt; have d0 := b60.cell 0; have d1 := b60.cell 1; have d2 := b60.cell 2; have d3 := b60.cell 3; have d4 := b60.cell 4; have d5 := b60.cell 5; have l6 := b60.lt)
        go_roundw
        case rel => exact ⟨q + 1, by omega, by go_num, by rw [HK.out]; exact hB.keep gA, c0.keep gA, c1.keep gA, hG.t gA⟩
        case measure => simp [intOf]; omega
      have HK := Lib.hid (hK (by rw [h1, h2, h3]; rfl))
      clear hK hK2
      have HS := Lib.hid (fun W : World => skyOf_any (skF (f q)) W)
      have HA := Lib.hid (fun W : World => and_any (known f x y h q) (skF (f q)) W)
      go_wp2_with (go_at_call 74; refine (HI.out _ _ _ _).mono ?_; simp only [h1, h2, h3]; rintro e w6 ⟨rfl, hG6⟩; clear s0 s1 s2 lS d0 d1 d2 d3 d4 d5 l6; replace cA := cA.keep hG6; replace b60 := b60.keep hG6; replace gA := gA.t hG6; clear hG6; have s0 := cA.cell 0; have s1 := cA.cell 1; have s2 := cA.cell 2; have lS := cA.lt; have d0 := b60.cell 0; have d1 := b60.cell 1; have d2 := b60.cell 2; have d3 := b60.cell 3; have d4 := b60.cell 4; have d5 := b60.cell 5; have l6 := b60.lt)
      clear s0 s1 s2 lS d0 d1 d2 d3 d4 d5 l6 HI h1 h2 h3
      have hBA := hB.keep gA
      have hSk : ∀ W', G w6 W' → Blk W' n5 102 (known f x y h q).v ∧ Blk W' n6 60 #[.int .i64 (f q 0), .int .i64 (f q 1), .int .i64 (f q 2), .int .i64 (f q 3), .int .i64 (f q 4), .int .i64 (f q 5), .int .i64 (f q 6), .int .i64 (f q 7), .int .i64 (f q 8), .int .i64 (f q 9), .int .i64 (f q 10), .int .i64 (f q 11)] := fun W' hW => ⟨hBA.keep hW, b60.keep hW⟩
      refine wp_region_Y (S := fun W' => Blk W' n5 102 (known f x y h q).v ∧ Blk W' n6 60 #[.int .i64 (f q 0), .int .i64 (f q 1), .int .i64 (f q 2), .int .i64 (f q 3), .int .i64 (f q 4), .int .i64 (f q 5), .int .i64 (f q 6), .int .i64 (f q 7), .int .i64 (f q 8), .int .i64 (f q 9), .int .i64 (f q 10), .int .i64 (f q 11)]) 5 6 rfl (by kernel_rfl) (hSk _ (G.rf _).d) (fun hS => ?_)
      refine wpAnyY_take (i := 0) (v := .agg (known f x y h q).v) rfl (by kernel_rfl) (by kernel_rfl) (by kernel_rfl) (by kernel_rfl) (fun _ _ _ h => h) (Or.inl ⟨by kernel_rfl, ?_⟩) hS ?_
      · intro w' hSw; exact load102 w' n5 5 _ _ rfl (by kernel_rfl) hSw.1
      try simp only [Act.put, List.getElem_toArray, List.getElem_cons_zero, List.getElem_cons_succ, List.setIfInBounds_toArray, List.set_cons_zero, List.set_cons_succ]
      refine wpAnyY_take (i := 1) (v := ?_) rfl (by kernel_rfl) (by kernel_rfl) (by kernel_rfl) (by kernel_rfl) (fun _ _ _ h => h) (Or.inl ⟨by kernel_rfl, ?_⟩) hS ?_
      rotate_left
      · intro w' hSw; go_simp; with_reducible rfl
      try simp only [Act.put, List.getElem_toArray, List.getElem_cons_zero, List.getElem_cons_succ, List.setIfInBounds_toArray, List.set_cons_zero, List.set_cons_succ]
      refine wpAnyY_take (i := 2) (v := ?_) rfl (by kernel_rfl) (by kernel_rfl) (by kernel_rfl) (by kernel_rfl) (fun _ _ _ h => h) (Or.inl ⟨by kernel_rfl, ?_⟩) hS ?_
      rotate_left
      · intro w' hSw; have e6 := hSw.2.cell 6; have e7 := hSw.2.cell 7; have e8 := hSw.2.cell 8; have e9 := hSw.2.cell 9; have e10 := hSw.2.cell 10; have e11 := hSw.2.cell 11; go_simp; with_reducible rfl
      try simp only [Act.put, List.getElem_toArray, List.getElem_cons_zero, List.getElem_cons_succ, List.setIfInBounds_toArray, List.set_cons_zero, List.set_cons_succ]
      refine wpAnyY_oneSW (i := 3) (by kernel_rfl) rfl (by kernel_rfl) (fun K3 hK3 => ?_)
      go_simp
      refine (HS.out _).mono ?_
      rintro e w7 ⟨rfl, hG7⟩
      have gd := (G.rf w6).d.t hG7
      refine hK3.out _ _ (hSk _ gd) (fun hS => ?_)
      try simp only [Act.put, List.getElem_toArray, List.getElem_cons_zero, List.getElem_cons_succ, List.setIfInBounds_toArray, List.set_cons_zero, List.set_cons_succ]
      refine wpAnyY_oneSW (i := 4) (by kernel_rfl) rfl (by kernel_rfl) (fun K4 hK4 => ?_)
      go_simp
      refine (HA.out _).mono ?_
      rintro e w8 ⟨rfl, hG8⟩
      replace gd := gd.t hG8
      refine hK4.out _ _ (hSk _ gd) (fun hS => ?_)
      try simp only [Act.put, List.getElem_toArray, List.getElem_cons_zero, List.getElem_cons_succ, List.setIfInBounds_toArray, List.set_cons_zero, List.set_cons_succ]
      refine wpAnyY_oneW (i := 5) (by kernel_rfl) rfl (by kernel_rfl) (by kernel_rfl) (fun K5 hK5 => ?_)
      refine wp_store102 n5 5 44 (x := known f x y h q) (s := (known f x y h q).both (skF (f q))) rfl rfl rfl hS.1 fun W2 hB2 hF2 hG2 => ?_
      refine hK5.out _ _ ?_
      try simp only [Act.put, List.getElem_toArray, List.getElem_cons_zero, List.getElem_cons_succ, List.setIfInBounds_toArray, List.set_cons_zero, List.set_cons_succ]
      refine wpAnyY_done (by kernel_rfl) ?_ _
      have gz := gA.t gd
      have hc0 := (c0.keep gz).awayB (by omega) hF2
      have hc1 := (c1.keep gz).awayB (by omega) hF2
      have hGz := hG2 w (by omega) (hG.t gz)
      clear hS hSk hK3 hK4 hK5 hF2 hG2 cA b60 hBA gd gA gz
      go_wp2_with fail
      go_roundw
      case rel => exact ⟨q + 1, by omega, by go_num, by rw [HK.out]; exact hB2, hc0, hc1, hGz⟩
      case measure => simp [intOf]; omega
    · obtain rfl : q = k := by omega
      have hki : ¬ ((q : Nat) : Int) < q := by omega
      have HF := Lib.hid (HPP.out)
      go_upto_region 8 with fail
      refine wp_region_lit ?_
      refine wpList_load102 n5 5 rfl rfl rfl hB ?_
      try simp only [Act.put, List.getElem_toArray, List.getElem_cons_zero, List.getElem_cons_succ, List.setIfInBounds_toArray, List.set_cons_zero, List.set_cons_succ]
      refine wpList_store102 (w.heap.size + 1) 4 46 (x := sk0) rfl rfl rfl rfl c1 fun W2 hB2 hF2 hG2 => ?_
      try simp only [Act.put, List.getElem_toArray, List.getElem_cons_zero, List.getElem_cons_succ, List.setIfInBounds_toArray, List.set_cons_zero, List.set_cons_succ]
      have hGG := hG2 w (by omega) hG
      clear hF2 hG2
      go_wp2_with fail
      exact bodyPost_ret (resSky Try.f95 4 _ _ (w.heap.size + 1) (known f x y h q) rfl rfl hB2) rfl ⟨rfl, hGG⟩
end
end Go.Proofs.Ytcekdljjmfkacaa
