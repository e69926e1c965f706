import Derived.Test.YtcekdljjmfkacaaGreatXj
import Derived.Test.YtcekdljjmfkacaaGreatXg
import Derived.Test.YtcekdljjmfkacaaGreatXf
set_option linter.unusedSimpArgs false
set_option linter.unusedVariables false
namespace Go.Proofs.YtcekdljjmfkacaaGreat
open Go.RowKit Go.Shelf
attribute [local go_sem] Oper.semAt_some wide_fn wide_dep wideR_fn wideR_dep
/-- a row of spans -/
def SpAt (W : World) (g n : Nat) (lo hi : Nat → Nat) : Prop := ∀ k, k < n → W.cell? ⟨g, k * 2, none⟩ = some (.int .i64 (lo k : Nat)) ∧ W.cell? ⟨g, k * 2 + 1, none⟩ = some (.int .i64 (hi k : Nat))
theorem SpAt.keep {W W' : World} {g n : Nat} {lo hi : Nat → Nat} (h : SpAt W g n lo hi) (hg : g < W.heap.size) (hG : G W W') : SpAt W' g n lo hi := fun k hk =>
  ⟨((bcellB hG).1 g _ hg).trans (h k hk).1, ((bcellB hG).1 g _ hg).trans (h k hk).2⟩
theorem sp_own {W : World} {b n : Nat} {v : Value} {L : List Value} {lo hi : Nat → Nat} (h : W.ownsRow b 30 2 v n L) (h0 : 0 < n) (hL : ∀ k, k < n → L[k * 2]? = some (.int .i64 (lo k : Nat)) ∧ L[k * 2 + 1]? = some (.int .i64 (hi k : Nat))) :
    ∃ g cap, v = .slice (some ⟨g, 0, none⟩) n cap ∧ g < W.heap.size ∧ SpAt W g n lo hi := by
  obtain ⟨g, cap, cur, rfl, hb, hg, ht⟩ := own_some h h0
  exact ⟨g, cap, rfl, hg, fun k hk => ⟨take_cell hb ht (by omega) (hL k hk).1, take_cell hb ht (by omega) (hL k hk).2⟩⟩
/-- what the two calls of safe and block yield -/
def RB (P : List (Nat × Nat)) (lo hi : Nat → Nat) (j : Nat) (v : Value) (W : World) : Prop :=
  (j = 2 → ∃ g cap, v = .slice (some ⟨g, 0, none⟩) P.length cap ∧ g < W.heap.size ∧ PtsAt W g P) ∧ (j = 6 → ∃ g cap, v = .slice (some ⟨g, 0, none⟩) P.length cap ∧ g < W.heap.size ∧ SpAt W g P.length lo hi)
theorem RB_keep {P : List (Nat × Nat)} {lo hi : Nat → Nat} {j : Nat} {v : Value} {W W' : World} (h : RB P lo hi j v W) (k : G W W') : RB P lo hi j v W' := by
  refine ⟨fun e => ?_, fun e => ?_⟩
  · obtain ⟨g, cap, a, b, c⟩ := h.1 e
    exact ⟨g, cap, a, Nat.lt_of_lt_of_le b k.size, c.keep b k⟩
  · obtain ⟨g, cap, a, b, c⟩ := h.2 e
    exact ⟨g, cap, a, Nat.lt_of_lt_of_le b k.size, c.keep b k⟩
theorem res91 (tmps : Array Value) (w : World) (g6 : Nat) (a b c : Int) (v : Bool) (h6 : tmps.getD 6 undef = .pointer (some ⟨g6, 0, none⟩)) (h7 : tmps.getD 7 undef = .bool v) (c6 : Blk w g6 67 #[.int .i64 a, .int .i64 b, .int .i64 c]) :
    (results Tryz.f91 tmps).run Tryz.prog w = .ok (.tuple #[.agg #[.int .i64 a, .int .i64 b, .int .i64 c], .bool v]) w := by
  have hr : Tryz.f91.results = #[.cell 6 67, .tmp 7] := rfl
  have h6' : tmps[6]?.getD undef = .pointer (some ⟨g6, 0, none⟩) := by simpa using h6
  have h7' : tmps[7]?.getD undef = .bool v := by simpa using h7
  have e0 := c6.cell 0
  have e1 := c6.cell 1
  have e2 := c6.cell 2
  simp only [results, hr]
  go_simp
/-- the weather at the steps of a way, by its points -/
def okP (lw lg lh : Int) (f : Nat → Nat → Int) (kk : Nat) (P : List (Nat × Nat)) (k t : Nat) : Bool := lInB lw lg lh (known f ((P.getD k (0, 0)).1 : Nat) ((P.getD k (0, 0)).2 : Nat) (t : Nat) kk)
def ouP (lw lg lh : Int) (f : Nat → Nat → Int) (kk : Nat) (P : List (Nat × Nat)) (k t : Nat) : Bool := lOutB lw lg lh (known f ((P.getD k (0, 0)).1 : Nat) ((P.getD k (0, 0)).2 : Nat) (t : Nat) kk)
theorem tdiv60 (m : Nat) : ((m : Nat) : Int).tdiv 60 = ((m / 60 : Nat) : Int) := by
  rw [Int.tdiv_eq_ediv_of_nonneg (by omega)]
  omega
section
variable (i mi kk fc : Nat) (lw lg lh : Int) (P : List (Nat × Nat)) (L : List Value) (lo hi : Nat → Nat) (f : Nat → Nat → Int) (fa : Option Addr) (REL : Array Value) (R : Option (Nat × Nat)) (w : World)
set_option maxRecDepth 100000 in
set_option maxHeartbeats 8000000 in
theorem rBlock6_walk (hIs : IsRel REL) (h11 : REL[11]? = some (.slice fa kk fc)) (h12 : REL[12]? = some (.int .i64 lw)) (h13 : REL[13]? = some (.int .i64 lg)) (h14 : REL[14]? = some (.int .i64 lh)) (hR : RowAt w fa kk 12 f) (hkk : kk ≤ 1000) (hN : 1 ≤ P.length ∧ P.length ≤ 1000) (hbd : ∀ k, k < P.length → lo k ≤ 100000000000 ∧ hi k ≤ 100000000000)
    (hW : ∀ W, G w W → Calls Tryz.prog 42 #[.agg REL, .int .i64 (i : Nat)] W (PbPost W P)) (hPs : ∀ W, G w W → Calls Tryz.prog 47 #[.agg REL, .int .i64 (i : Nat), .int .i64 (mi : Nat)] W (SpPost W L P.length))
    (hL : ∀ k, k < P.length → L[k * 2]? = some (.int .i64 (lo k : Nat)) ∧ L[k * 2 + 1]? = some (.int .i64 (hi k : Nat)))
    (hNone : (∀ k, k < P.length → ∀ m, lo k ≤ m → m ≤ hi k → okP lw lg lh f kk P k (m / 60) = true) → R = none)
    (hSome : ∀ k m, k < P.length → (∀ j, j < k → ∀ m, lo j ≤ m → m ≤ hi j → okP lw lg lh f kk P j (m / 60) = true) → lo k ≤ m → m ≤ hi k → okP lw lg lh f kk P k (m / 60) = false → (∀ m', lo k ≤ m' → m' < m → okP lw lg lh f kk P k (m' / 60) = true) → R = some (k, m)) :
    Calls Tryz.prog 91 #[.agg REL, .int .i64 (i : Nat), .int .i64 (mi : Nat)] w fun e w' => e = .returned (.tuple #[.agg (blkV i R), .bool R.isSome]) ∧ G w w' := by
  have HNONE : Hid (∀ w', (∀ k, k < P.length → ∀ m, lo k ≤ m → m ≤ hi k → okP lw lg lh f kk P k (m / 60) = true) → G w w' → (fun e w' => e = .returned (.tuple #[.agg (blkV i R), .bool R.isSome]) ∧ G w w' : Ending → World → Prop) (.returned (.tuple #[.agg #[.int .i64 0, .int .i64 0, .int .i64 0], .bool false])) w') := fun w' a g => ⟨by rw [hNone a]; rfl, g⟩
  have HSOME : Hid (∀ w' k m, k < P.length → (∀ j, j < k → ∀ m, lo j ≤ m → m ≤ hi j → okP lw lg lh f kk P j (m / 60) = true) → lo k ≤ m → m ≤ hi k → okP lw lg lh f kk P k (m / 60) = false → (∀ m', lo k ≤ m' → m' < m → okP lw lg lh f kk P k (m' / 60) = true) → G w w' → (fun e w' => e = .returned (.tuple #[.agg (blkV i R), .bool R.isSome]) ∧ G w w' : Ending → World → Prop) (.returned (.tuple #[.agg #[.int .i64 (i : Nat), .int .i64 (k : Nat), .int .i64 (m : Nat)], .bool true])) w') := fun w' k m a1 a2 a3 a4 a5 a6 g => ⟨by rw [hSome k m a1 a2 a3 a4 a5 a6]; rfl, g⟩
  generalize (fun e w' => e = .returned (.tuple #[.agg (blkV i R), .bool R.isSome]) ∧ G w w' : Ending → World → Prop) = PP at *
  have HKn := Lib.hid (fun (W : World) (hW : G w W) (x y t : Int) => rKnown_any REL f x y t kk fc fa W h11 (hR.below hW) hkk)
  have HIN := Lib.hid (fun (s : Sk) (W : World) => rInside_any lw lg lh s W)
  have HIS := Lib.hid hIs
  have H12 := Lib.hid h12
  have H13 := Lib.hid h13
  have H14 := Lib.hid h14
  have HBD := Lib.hid hbd
  have HW := Lib.hid hW
  have HPS := Lib.hid hPs
  have HL := Lib.hid hL
  clear hIs h11 h12 h13 h14 hR hbd hW hPs hL hNone hSome
  have g0 : G w ((w.alloc (.cells REL 35)).alloc (.cells #[.int .i64 0, .int .i64 0, .int .i64 0] 67)) := ((G.rf _).a _).a _
  have b0 : Blk ((w.alloc (.cells REL 35)).alloc (.cells #[.int .i64 0, .int .i64 0, .int .i64 0] 67)) w.heap.size 35 REL := (Blk.new w 35 REL).alloc _
  have d0 : Blk ((w.alloc (.cells REL 35)).alloc (.cells #[.int .i64 0, .int .i64 0, .int .i64 0] 67)) (w.heap.size + 1) 67 #[.int .i64 0, .int .i64 0, .int .i64 0] := Blk.new1 w _ 67 _
  go_enter Tryz.func91, Tryz.ntmps91
  go_upto_region 1 with fail
  change Code.wp _ _ _ _ ((w.alloc (.cells REL 35)).alloc (.cells #[.int .i64 0, .int .i64 0, .int .i64 0] 67))
  generalize (w.alloc (.cells REL 35)).alloc (.cells #[.int .i64 0, .int .i64 0, .int .i64 0] 67) = w1 at *
  refine wp_region_Y (S := fun W' => Blk W' w.heap.size 35 REL) 8 9 rfl (by kernel_rfl) (b0.keep (G.rf _).d) (fun hS => ?_)
  have gd := (G.rf w1).d
  refine wpAnyY_take (i := 0) (v := .agg REL) rfl (by kernel_rfl) (by kernel_rfl) (by kernel_rfl) (by kernel_rfl) (fun _ _ _ h => h) (Or.inl ⟨by kernel_rfl, ?_⟩) hS ?_
  · intro w' hSw; exact load46o w' w.heap.size 3 HIS.out _ _ rfl (by kernel_rfl) hSw
  try simp only [Act.put, List.getElem_toArray, List.getElem_cons_zero, List.getElem_cons_succ, List.setIfInBounds_toArray, List.set_cons_zero, List.set_cons_succ]
  refine wpAnyY_take (i := 1) (v := ?_) rfl (by kernel_rfl) (by kernel_rfl) (by kernel_rfl) (by kernel_rfl) (fun _ _ _ h => h) (Or.inl ⟨by kernel_rfl, ?_⟩) hS ?_
  rotate_left
  · intro w' hSw; go_simp; with_reducible rfl
  try simp only [Act.put, List.getElem_toArray, List.getElem_cons_zero, List.getElem_cons_succ, List.setIfInBounds_toArray, List.set_cons_zero, List.set_cons_succ]
  refine wpAnyY_take (i := 3) (v := .agg REL) rfl (by kernel_rfl) (by kernel_rfl) (by kernel_rfl) (by kernel_rfl) (fun _ _ _ h => h) (Or.inl ⟨by kernel_rfl, ?_⟩) hS ?_
  · intro w' hSw; exact load46o w' w.heap.size 3 HIS.out _ _ rfl (by kernel_rfl) hSw
  try simp only [Act.put, List.getElem_toArray, List.getElem_cons_zero, List.getElem_cons_succ, List.setIfInBounds_toArray, List.set_cons_zero, List.set_cons_succ]
  refine wpAnyY_take (i := 4) (v := ?_) rfl (by kernel_rfl) (by kernel_rfl) (by kernel_rfl) (by kernel_rfl) (fun _ _ _ h => h) (Or.inl ⟨by kernel_rfl, ?_⟩) hS ?_
  rotate_left
  · intro w' hSw; go_simp; with_reducible rfl
  try simp only [Act.put, List.getElem_toArray, List.getElem_cons_zero, List.getElem_cons_succ, List.setIfInBounds_toArray, List.set_cons_zero, List.set_cons_succ]
  refine wpAnyY_take (i := 5) (v := ?_) rfl (by kernel_rfl) (by kernel_rfl) (by kernel_rfl) (by kernel_rfl) (fun _ _ _ h => h) (Or.inl ⟨by kernel_rfl, ?_⟩) hS ?_
  rotate_left
  · intro w' hSw; go_simp; with_reducible rfl
  try simp only [Act.put, List.getElem_toArray, List.getElem_cons_zero, List.getElem_cons_succ, List.setIfInBounds_toArray, List.set_cons_zero, List.set_cons_succ]
  refine wpAnyY_perm (fuel := 2) (N := 2) (lF := #[true, true, true, true, true, true, true, false, false]) [(2, 14), (6, 18)] [] _ (RB P lo hi) rfl (by kernel_rfl) (by decide) (by decide) (by kernel_rfl) (fun W hW => b0.keep (gd.t hW)) (fun p _ v W W' h k => RB_keep h k) ?_ ?_
  · intro p hp f W K' hW hd hK
    simp only [List.mem_cons, List.not_mem_nil, or_false] at hp
    rcases hp with rfl | rfl
    · simp only [TP, List.foldl_cons, List.foldl_nil, List.setIfInBounds_toArray, List.set_cons_zero, List.set_cons_succ] at hK ⊢
      have HK := Lib.hid hK
      clear hK
      refine ⟨_, rfl, by kernel_rfl, ?_⟩
      go_simp
      refine (HW.out _ (g0.t (gd.t hW))).mono ?_
      rintro e w3 ⟨v, rfl, hown, hG3⟩
      obtain ⟨gA, capA, eA, hgA, hpt⟩ := pts_own rfl hown (by omega)
      try simp only [Act.put, List.getElem_toArray, List.getElem_cons_zero, List.getElem_cons_succ, List.setIfInBounds_toArray, List.set_cons_zero, List.set_cons_succ]
      exact HK.out _ _ hG3 ⟨fun _ => ⟨gA, capA, eA, hgA, hpt⟩, fun e => absurd e (by decide)⟩
    · simp only [TP, List.foldl_cons, List.foldl_nil, List.setIfInBounds_toArray, List.set_cons_zero, List.set_cons_succ] at hK ⊢
      have HK := Lib.hid hK
      clear hK
      refine ⟨_, rfl, by kernel_rfl, ?_⟩
      go_simp
      refine (HPS.out _ (g0.t (gd.t hW))).mono ?_
      rintro e w3 ⟨v, rfl, hown, hG3⟩
      try simp only [Act.put, List.getElem_toArray, List.getElem_cons_zero, List.getElem_cons_succ, List.setIfInBounds_toArray, List.set_cons_zero, List.set_cons_succ]
      exact HK.out _ _ hG3 ⟨fun e => absurd e (by decide), fun _ => sp_own hown (by omega) HL.out⟩
  intro f' W hW hf
  obtain ⟨gA, capA, eA, hgA, hpt⟩ := (hf (2, 14) (by simp)).1 rfl
  obtain ⟨gT, capT, eT, hgT, hsp⟩ := (hf (6, 18) (by simp)).2 rfl
  have gw := gd.t hW
  replace b0 := b0.keep gw
  replace d0 := d0.keep gw
  replace g0 := g0.t gw
  have HPT := Lib.hid hpt
  have HSP := Lib.hid hsp
  clear hf hpt hsp HW HPS gw gd hW
  simp only at eA eT
  simp only [TP, List.foldl_cons, List.foldl_nil, List.setIfInBounds_toArray, List.set_cons_zero, List.set_cons_succ]
  rw [eA, eT]
  clear eA eT hS
  have hS := b0
  refine wpAnyY_take (i := 7) (v := ?_) rfl (by kernel_rfl) (by kernel_rfl) (by kernel_rfl) (by kernel_rfl) (fun _ _ _ h => h) (Or.inl ⟨by kernel_rfl, ?_⟩) hS ?_
  rotate_left
  · intro w' hSw; go_simp; with_reducible rfl
  try simp only [Act.put, List.getElem_toArray, List.getElem_cons_zero, List.getElem_cons_succ, List.setIfInBounds_toArray, List.set_cons_zero, List.set_cons_succ]
  refine wpAnyY_oneW (i := 8) (by kernel_rfl) rfl (by kernel_rfl) (by kernel_rfl) (fun K8 hK8 => ?_)
  go_simp
  refine hK8.out _ _ ?_
  try simp only [Act.put, List.getElem_toArray, List.getElem_cons_zero, List.getElem_cons_succ, List.setIfInBounds_toArray, List.set_cons_zero, List.set_cons_succ]
  refine wpAnyY_done (by kernel_rfl) ?_ _
  clear hS hK8
  go_wp2_with fail
  go_loopw [10] (fun q wr => ∃ k : Nat, k ≤ P.length ∧ q = .int .i64 (k : Nat) ∧ Hid (∀ j, j < k → ∀ m, lo j ≤ m → m ≤ hi j → okP lw lg lh f kk P j (m / 60) = true) ∧ G W wr) (fun q _ => P.length - (intOf q).toNat)
  case atStart => exact ⟨0, Nat.zero_le _, rfl, fun j hj => absurd hj (Nat.not_lt_zero _), G.rf _⟩
  case round =>
    obtain ⟨k, hk, rfl, hno, hG⟩ := hrel
    obtain ⟨wo, rfl⟩ : ∃ wo, wo = wr := ⟨_, rfl⟩
    by_cases hlt : k < P.length
    · have hki : (k : Int) < P.length := by omega
      obtain ⟨s0, s1⟩ := (HSP.out.keep hgT hG) k hlt
      have hbk := HBD.out k hlt
      obtain ⟨a, ha⟩ : ∃ a, a = lo k := ⟨_, rfl⟩
      obtain ⟨b, hb⟩ : ∃ b, b = hi k := ⟨_, rfl⟩
      have HA := Lib.hid ha
      have HB := Lib.hid hb
      rw [← ha] at s0 hbk
      rw [← hb] at s1 hbk
      clear ha hb
      have lT := Nat.lt_of_lt_of_le hgT hG.size
      go_wp2_with fail
      clear s0 s1 lT
      go_loopw [11] (fun q wr => ∃ m : Nat, q = .int .i64 (m : Nat) ∧ a ≤ m ∧ (m ≤ b + 1 ∨ m = a) ∧ Hid (∀ m', a ≤ m' → m' < m → okP lw lg lh f kk P k (m' / 60) = true) ∧ G W wr) (fun q _ => b + 1 - (intOf q).toNat)
      case atStart => exact ⟨a, rfl, Nat.le_refl _, .inr rfl, fun m' h1 h2 => by omega, hG⟩
      case round =>
        clear hG
        obtain ⟨m, rfl, hm1, hm2, hnm, hG⟩ := hrel
        obtain ⟨wo, rfl⟩ : ∃ wo, wo = wr := ⟨_, rfl⟩
        have s1 := ((HSP.out.keep hgT hG) k hlt).2
        rw [← HB.out] at s1
        have lT := Nat.lt_of_lt_of_le hgT hG.size
        by_cases hle : m ≤ b
        · have hmi : (m : Int) ≤ b := by omega
          obtain ⟨p0, p1⟩ := (HPT.out.keep hgA hG) k hlt
          obtain ⟨px, hpx⟩ : ∃ px, px = (P.getD k (0, 0)).1 := ⟨_, rfl⟩
          obtain ⟨py, hpy⟩ : ∃ py, py = (P.getD k (0, 0)).2 := ⟨_, rfl⟩
          have hok : okP lw lg lh f kk P k (m / 60) = lInB lw lg lh (known f px py (m / 60 : Nat) kk) := by rw [hpx, hpy]; rfl
          rw [← hpx] at p0
          rw [← hpy] at p1
          clear hpx hpy
          obtain ⟨t, ht⟩ : ∃ t, t = m / 60 := ⟨_, rfl⟩
          have HT := Lib.hid ht
          rw [← ht] at hok
          have x60 : ((m : Nat) : Int).tdiv 60 = (t : Nat) := by rw [ht]; exact tdiv60 m
          have hti : t ≤ 100000000000 := by omega
          have x61 : IntKind.i64.wrap ((t : Nat) : Int) = (t : Nat) := IntWalk.i64_in _ (by omega)
          clear ht
          have lA := Nat.lt_of_lt_of_le hgA hG.size
          have bq := b0.keep hG
          have hSk : ∀ W', G wo W' → Blk W' w.heap.size 35 REL ∧ (W'.cell? ⟨gA, k * 2, none⟩ = some (.int .i64 (px : Nat)) ∧ W'.cell? ⟨gA, k * 2 + 1, none⟩ = some (.int .i64 (py : Nat))) ∧ W'.cell? ⟨w.heap.size, 12, none⟩ = some (.int .i64 lw) ∧ W'.cell? ⟨w.heap.size, 13, none⟩ = some (.int .i64 lg) ∧ W'.cell? ⟨w.heap.size, 14, none⟩ = some (.int .i64 lh) := fun W' hW => ⟨bq.keep hW, ⟨((bcellB hW).1 gA _ lA).trans p0, ((bcellB hW).1 gA _ lA).trans p1⟩, ((bq.keep hW).cell 12).trans H12.out, ((bq.keep hW).cell 13).trans H13.out, ((bq.keep hW).cell 14).trans H14.out⟩
          clear p0 p1
          go_upto_region 8 with fail
          clear s1 lT
          refine wp_region_Y (S := fun W' => Blk W' w.heap.size 35 REL ∧ (W'.cell? ⟨gA, k * 2, none⟩ = some (.int .i64 (px : Nat)) ∧ W'.cell? ⟨gA, k * 2 + 1, none⟩ = some (.int .i64 (py : Nat))) ∧ W'.cell? ⟨w.heap.size, 12, none⟩ = some (.int .i64 lw) ∧ W'.cell? ⟨w.heap.size, 13, none⟩ = some (.int .i64 lg) ∧ W'.cell? ⟨w.heap.size, 14, none⟩ = some (.int .i64 lh)) 11 12 rfl (by kernel_rfl) (hSk _ (G.rf _).d) (fun hS => ?_)
          have gd := (G.rf wo).d
          refine wpAnyY_take (i := 0) (v := ?_) rfl (by kernel_rfl) (by kernel_rfl) (by kernel_rfl) (by kernel_rfl) (fun _ _ _ h => h) (Or.inl ⟨by kernel_rfl, ?_⟩) hS ?_
          rotate_left
          · intro w' hSw; go_simp; with_reducible rfl
          try simp only [Act.put, List.getElem_toArray, List.getElem_cons_zero, List.getElem_cons_succ, List.setIfInBounds_toArray, List.set_cons_zero, List.set_cons_succ]
          refine wpAnyY_take (i := 1) (v := ?_) rfl (by kernel_rfl) (by kernel_rfl) (by kernel_rfl) (by kernel_rfl) (fun _ _ _ h => h) (Or.inl ⟨by kernel_rfl, ?_⟩) hS ?_
          rotate_left
          · intro w' hSw; obtain ⟨m12, m13, m14⟩ := hSw.2.2; go_simp; with_reducible rfl
          try simp only [Act.put, List.getElem_toArray, List.getElem_cons_zero, List.getElem_cons_succ, List.setIfInBounds_toArray, List.set_cons_zero, List.set_cons_succ]
          refine wpAnyY_take (i := 2) (v := .agg REL) rfl (by kernel_rfl) (by kernel_rfl) (by kernel_rfl) (by kernel_rfl) (fun _ _ _ h => h) (Or.inl ⟨by kernel_rfl, ?_⟩) hS ?_
          · intro w' hSw; exact load46o w' w.heap.size 3 HIS.out _ _ rfl (by kernel_rfl) hSw.1
          try simp only [Act.put, List.getElem_toArray, List.getElem_cons_zero, List.getElem_cons_succ, List.setIfInBounds_toArray, List.set_cons_zero, List.set_cons_succ]
          refine wpAnyY_take (i := 3) (v := ?_) rfl (by kernel_rfl) (by kernel_rfl) (by kernel_rfl) (by kernel_rfl) (fun _ _ _ h => h) (Or.inl ⟨by kernel_rfl, ?_⟩) hS ?_
          rotate_left
          · intro w' hSw; go_simp; with_reducible rfl
          try simp only [Act.put, List.getElem_toArray, List.getElem_cons_zero, List.getElem_cons_succ, List.setIfInBounds_toArray, List.set_cons_zero, List.set_cons_succ]
          refine wpAnyY_take (i := 4) (v := ?_) rfl (by kernel_rfl) (by kernel_rfl) (by kernel_rfl) (by kernel_rfl) (fun _ _ _ h => h) (Or.inl ⟨by kernel_rfl, ?_⟩) hS ?_
          rotate_left
          · intro w' hSw; go_simp; with_reducible rfl
          try simp only [Act.put, List.getElem_toArray, List.getElem_cons_zero, List.getElem_cons_succ, List.setIfInBounds_toArray, List.set_cons_zero, List.set_cons_succ]
          refine wpAnyY_take (i := 5) (v := ?_) rfl (by kernel_rfl) (by kernel_rfl) (by kernel_rfl) (by kernel_rfl) (fun _ _ _ h => h) (Or.inl ⟨by kernel_rfl, ?_⟩) hS ?_
          rotate_left
          · intro w' hSw; go_simp; with_reducible rfl
          try simp only [Act.put, List.getElem_toArray, List.getElem_cons_zero, List.getElem_cons_succ, List.setIfInBounds_toArray, List.set_cons_zero, List.set_cons_succ]
          refine wpAnyY_take (i := 6) (v := ?_) rfl (by kernel_rfl) (by kernel_rfl) (by kernel_rfl) (by kernel_rfl) (fun _ _ _ h => h) (Or.inl ⟨by kernel_rfl, ?_⟩) hS ?_
          rotate_left
          · intro w' hSw; obtain ⟨y0, y1⟩ := hSw.2.1; go_simp; with_reducible rfl
          try simp only [Act.put, List.getElem_toArray, List.getElem_cons_zero, List.getElem_cons_succ, List.setIfInBounds_toArray, List.set_cons_zero, List.set_cons_succ]
          refine wpAnyY_take (i := 7) (v := ?_) rfl (by kernel_rfl) (by kernel_rfl) (by kernel_rfl) (by kernel_rfl) (fun _ _ _ h => h) (Or.inl ⟨by kernel_rfl, ?_⟩) hS ?_
          rotate_left
          · intro w' hSw; go_simp; with_reducible rfl
          try simp only [Act.put, List.getElem_toArray, List.getElem_cons_zero, List.getElem_cons_succ, List.setIfInBounds_toArray, List.set_cons_zero, List.set_cons_succ]
          refine wpAnyY_take (i := 8) (v := ?_) rfl (by kernel_rfl) (by kernel_rfl) (by kernel_rfl) (by kernel_rfl) (fun _ _ _ h => h) (Or.inl ⟨by kernel_rfl, ?_⟩) hS ?_
          rotate_left
          · intro w' hSw; go_simp; with_reducible rfl
          try simp only [Act.put, List.getElem_toArray, List.getElem_cons_zero, List.getElem_cons_succ, List.setIfInBounds_toArray, List.set_cons_zero, List.set_cons_succ]
          refine wpAnyY_oneSW (i := 9) (by kernel_rfl) rfl (by kernel_rfl) (fun K9 hK9 => ?_)
          go_simp
          refine (HKn.out _ ((g0.t hG).t gd) px py t).mono ?_
          rintro e w4 ⟨rfl, hG4⟩
          obtain ⟨sk, hsk⟩ : ∃ sk, sk = known f px py t kk := ⟨_, rfl⟩
          obtain ⟨v, hv⟩ : ∃ v, v = lInB lw lg lh sk := ⟨_, rfl⟩
          have HI1 := Lib.hid (fun W : World => HIN.out sk W)
          rw [← hsk, ← hv] at hok
          rw [← hv] at HI1
          rw [← hsk]
          have HOK := Lib.hid hok
          clear hsk hok hv
          replace gd := gd.t hG4
          refine hK9.out _ _ (hSk _ gd) (fun hS => ?_)
          clear hK9 hG4
          try simp only [Act.put, List.getElem_toArray, List.getElem_cons_zero, List.getElem_cons_succ, List.setIfInBounds_toArray, List.set_cons_zero, List.set_cons_succ]
          refine wpAnyY_oneSW (i := 10) (by kernel_rfl) rfl (by kernel_rfl) (fun K10 hK10 => ?_)
          go_simp
          refine (HI1.out _).mono ?_
          rintro e w5 ⟨rfl, hG5⟩
          replace gd := gd.t hG5
          refine hK10.out _ _ (hSk _ gd) (fun hS => ?_)
          clear hK10 hG5
          try simp only [Act.put, List.getElem_toArray, List.getElem_cons_zero, List.getElem_cons_succ, List.setIfInBounds_toArray, List.set_cons_zero, List.set_cons_succ]
          refine wpAnyY_oneW (i := 11) (by kernel_rfl) rfl (by kernel_rfl) (by kernel_rfl) (fun K11 hK11 => ?_)
          go_simp
          refine hK11.out _ _ ?_
          clear hK11 hS hSk HI1
          try simp only [Act.put, List.getElem_toArray, List.getElem_cons_zero, List.getElem_cons_succ, List.setIfInBounds_toArray, List.set_cons_zero, List.set_cons_succ]
          refine wpAnyY_done (by kernel_rfl) ?_ _
          have gz := hG.t gd
          clear gd hG
          cases v
          · have dz := d0.keep gz
            have HF := Lib.hid (fun w' => HSOME.out w' k m hlt hno.out (by rw [← HA.out]; exact hm1) (by rw [← HB.out]; exact hle) (by rw [← HT.out]; exact HOK.out) (by rw [← HA.out]; exact hnm.out))
            have gy := g0.t gz
            have z0 := dz.cell 0
            have z1 := dz.cell 1
            have z2 := dz.cell 2
            have y0 := dz.frozen 0
            have y1 := dz.frozen 1
            have y2 := dz.frozen 2
            have lz := dz.lt
            clear HNONE HSOME
            go_wp2_with fail
            refine bodyPost_ret (res91 _ _ (w.heap.size + 1) _ _ _ _ rfl rfl (((dz.set_ 0 _).set_ 1 _).set_ 2 _)) rfl ?_
            exact HF.out _ (((gy.s (p := ⟨w.heap.size + 1, 0, none⟩) (by simp) _).s (p := ⟨w.heap.size + 1, 1, none⟩) (by simp) _).s (p := ⟨w.heap.size + 1, 2, none⟩) (by simp) _)
          · clear HNONE HSOME
            go_wp2_with fail
            go_roundw
            case rel => exact ⟨m + 1, by go_num, by omega, by omega, fun m' h1 h2 => by
              rcases Nat.lt_or_ge m' m with h | h
              · exact hnm.out m' h1 h
              · obtain rfl : m' = m := by omega
                rw [← HT.out]; exact HOK.out, gz⟩
            case measure => simp [intOf]; omega
        · have hmi : ¬ (m : Int) ≤ b := by omega
          clear HNONE HSOME
          go_wp2_with fail
          go_roundw
          case rel => exact ⟨k + 1, by omega, by go_num, fun j hj m' h1 h2 => by
            rcases Nat.lt_or_ge j k with h | h
            · exact hno.out j h m' h1 h2
            · obtain rfl : j = k := by omega
              rw [← HA.out] at h1
              rw [← HB.out] at h2
              exact hnm.out m' h1 (by omega), hG⟩
          case measure => simp [intOf]; omega
    · obtain rfl : k = P.length := by omega
      have dz := d0.keep hG
      have HF := Lib.hid (fun w' => HNONE.out w' hno.out)
      have gy := g0.t hG
      have z0 := dz.cell 0
      have z1 := dz.cell 1
      have z2 := dz.cell 2
      have y0 := dz.frozen 0
      have y1 := dz.frozen 1
      have y2 := dz.frozen 2
      have lz := dz.lt
      clear HNONE HSOME
      go_wp2_with fail
      refine bodyPost_ret (res91 _ _ (w.heap.size + 1) _ _ _ _ rfl rfl (((dz.set_ 0 _).set_ 1 _).set_ 2 _)) rfl ?_
      exact HF.out _ (((gy.s (p := ⟨w.heap.size + 1, 0, none⟩) (by simp) _).s (p := ⟨w.heap.size + 1, 1, none⟩) (by simp) _).s (p := ⟨w.heap.size + 1, 2, none⟩) (by simp) _)
end
end Go.Proofs.YtcekdljjmfkacaaGreat
