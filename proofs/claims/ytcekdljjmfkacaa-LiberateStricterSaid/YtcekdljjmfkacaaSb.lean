import Derived.Test.YtcekdljjmfkacaaSa
import Derived.Test.YtcekdljjmfkacaaQh
import Derived.Test.YtcekdljjmfkacaaOz
import Derived.Test.YtcekdljjmfkacaaSe
set_option linter.unusedSimpArgs false
set_option linter.unusedVariables false
namespace Go.Proofs.Ytcekdljjmfkacaa
open Go.RowKit Go.Shelf
attribute [local go_sem] Oper.semAt_some wide_fn wide_dep wideR_fn wideR_dep
theorem min3 (a b c n : Int) (w : World) (h1 : n ≤ a) (h2 : n ≤ b) (h3 : n ≤ c) (h : n = a ∨ n = b ∨ n = c) : (Builtin.min_ #[3, 3, 3] 3 #[.int .i64 a, .int .i64 b, .int .i64 c]).run Try.prog w = .ok (.int .i64 n) w := by
  simp only [Builtin.min_, List.foldlM]
  simp [go_sem, Builtin.min2]
  repeat' split
  all_goals omega
theorem max3 (a b c n : Int) (w : World) (h1 : a ≤ n) (h2 : b ≤ n) (h3 : c ≤ n) (h : n = a ∨ n = b ∨ n = c) : (Builtin.max_ #[3, 3, 3] 3 #[.int .i64 a, .int .i64 b, .int .i64 c]).run Try.prog w = .ok (.int .i64 n) w := by
  simp only [Builtin.max_, List.foldlM]
  simp [go_sem, Builtin.max2]
  repeat' split
  all_goals omega
/-- a release with other limits -/
def RO3 (RO : Array Value) (x y z : Int) : Array Value := ((RO.setIfInBounds 12 (.int .i64 x)).setIfInBounds 13 (.int .i64 y)).setIfInBounds 14 (.int .i64 z)
theorem IsRel.set3 {RO : Array Value} (h : IsRel RO) (x y z : Int) : IsRel (RO3 RO x y z) := by
  obtain ⟨x0, x1, p2, l2, k2, x3, p4, l4, k4, x5, x6, x7, p8, l8, k8, x9, x10, p11, l11, k11, x12, x13, x14, x15, x16, rfl⟩ := h
  exact ⟨_, _, _, _, _, _, _, _, _, _, _, _, _, _, _, _, _, _, _, _, _, _, _, _, _, rfl⟩
theorem IsRel.lim {RO : Array Value} (h : IsRel RO) : ∃ x y z, RO[12]? = some (.int .i64 x) ∧ RO[13]? = some (.int .i64 y) ∧ RO[14]? = some (.int .i64 z) := by
  obtain ⟨x0, x1, p2, l2, k2, x3, p4, l4, k4, x5, x6, x7, p8, l8, k8, x9, x10, p11, l11, k11, x12, x13, x14, x15, x16, rfl⟩ := h
  exact ⟨x12, x13, x14, rfl, rfl, rfl⟩
set_option maxRecDepth 100000 in
set_option maxHeartbeats 8000000 in
theorem Strict_walk (REL : Array Value) (QQ : Array Value → World → Prop) (i a b : Nat) (p0 p1 p2 lw lg lh px py hr Z s1 s2 m1 e1 m2 e2 : Int) (w : World) (hIs : IsRel REL) (hab : a ≤ b) (h40 : b ≤ a + 40) (hb : b ≤ 9999)
    (h12 : REL[12]? = some (.int .i64 lw)) (h13 : REL[13]? = some (.int .i64 lg)) (h14 : REL[14]? = some (.int .i64 lh)) (hl0 : 0 ≤ lw ∧ lw ≤ 999) (hl1 : 0 ≤ lg ∧ lg ≤ 999) (hl2 : 0 ≤ lh ∧ lh ≤ 999) (hp0 : 0 ≤ p0 ∧ p0 ≤ 999) (hp1 : 0 ≤ p1 ∧ p1 ≤ 999) (hp2 : 0 ≤ p2 ∧ p2 ≤ 999)
    (hV : ∀ W, G w W → Calls Try.prog 12 #[.agg REL, .int .i64 (i : Nat), .int .i64 (a : Nat)] W (BoolPost W))
    (hCp : ∀ W, G w W → Calls Try.prog 21 #[.agg REL] W fun e w' => ∃ RO, e = .returned (.agg RO) ∧ IsRel RO ∧ G W w' ∧ QQ RO w')
    (hQk : ∀ RO W W', QQ RO W → G W W' → QQ RO W')
    (hS1 : ∀ W, G w W → Calls Try.prog 17 #[.agg REL, .int .i64 (i : Nat), .int .i64 (a : Nat)] W fun e w' => e = .returned (.tuple #[.int .i64 s1, .int .i64 Z]) ∧ G W w')
    (hS2 : ∀ RO W, G w W → QQ RO W → Calls Try.prog 17 #[.agg (RO3 RO (max 0 (lw - p0)) (min 999 (lg + p1)) (max 0 (lh - p2))), .int .i64 (i : Nat), .int .i64 (a : Nat)] W fun e w' => e = .returned (.tuple #[.int .i64 s2, .int .i64 Z]) ∧ G W w')
    (hF1 : ∀ W, G w W → Calls Try.prog 20 #[.agg REL, .int .i64 (a : Nat), .int .i64 (b : Nat)] W fun e w' => e = .returned (.tuple #[.int .i64 m1, .int .i64 e1]) ∧ G W w')
    (hF2 : ∀ RO W, G w W → QQ RO W → Calls Try.prog 20 #[.agg (RO3 RO (max 0 (lw - p0)) (min 999 (lg + p1)) (max 0 (lh - p2))), .int .i64 (a : Nat), .int .i64 (b : Nat)] W fun e w' => e = .returned (.tuple #[.int .i64 m2, .int .i64 e2]) ∧ G W w')
    (hfin : Z = 3 ∨ (Z = 0 ∧ ((s1 = 1 ∧ (s2 = 1 ∨ s2 = 2 ∨ s2 = 3)) ∨ (s1 = 2 ∧ s2 = 2) ∨ (s1 = 3 ∧ (s2 = 2 ∨ s2 = 3))) ∧ ((e2 = 3 ∧ (e1 = 0 ∨ e1 = 3)) ∨ (e2 = 0 ∧ e1 = 0 ∧ m1 ≤ m2)))) :
    Calls Try.prog 7 #[.agg REL, .agg #[.int .i64 p0, .int .i64 p1, .int .i64 p2], .agg #[.int .i64 (i : Nat), .int .i64 (a : Nat), .int .i64 (b : Nat), .int .i64 px, .int .i64 py, .int .i64 hr]] w fun e w' => e = .returned (.bool true) ∧ G w w' := by
  have HIS := Lib.hid hIs
  have HV := Lib.hid hV
  have HCP := Lib.hid hCp
  have HQK := Lib.hid hQk
  have HS1 := Lib.hid hS1
  have HS2 := Lib.hid hS2
  have HF1 := Lib.hid hF1
  have HF2 := Lib.hid hF2
  have HFIN := Lib.hid hfin
  have HWK := Lib.hid (fun W : World => works_any W)
  clear hIs hV hCp hQk hS1 hS2 hF1 hF2 hfin
  obtain ⟨g0, b0, d0, c0⟩ := w3_spec6 w REL #[.int .i64 p0, .int .i64 p1, .int .i64 p2] #[.int .i64 (i : Nat), .int .i64 (a : Nat), .int .i64 (b : Nat), .int .i64 px, .int .i64 py, .int .i64 hr] 35 33 62
  go_enter Try.func7, Try.ntmps7
  go_upto_region 1 with fail
  change Code.wp _ _ _ _ (((w.alloc (.cells REL 35)).alloc (.cells #[.int .i64 p0, .int .i64 p1, .int .i64 p2] 33)).alloc (.cells #[.int .i64 (i : Nat), .int .i64 (a : Nat), .int .i64 (b : Nat), .int .i64 px, .int .i64 py, .int .i64 hr] 62))
  generalize ((w.alloc (.cells REL 35)).alloc (.cells #[.int .i64 p0, .int .i64 p1, .int .i64 p2] 33)).alloc (.cells #[.int .i64 (i : Nat), .int .i64 (a : Nat), .int .i64 (b : Nat), .int .i64 px, .int .i64 py, .int .i64 hr] 62) = w1 at *
  have x0 : w1.cell? ⟨w.heap.size + 1 + 1, 0, none⟩ = some (.int .i64 (i : Nat)) := c0.cell 0
  have x1 : w1.cell? ⟨w.heap.size + 1 + 1, 1, none⟩ = some (.int .i64 (a : Nat)) := c0.cell 1
  have lx := c0.lt
  refine wp_region_lit ?_
  refine wpList_load35 w.heap.size 3 HIS.out rfl rfl rfl b0 ?_
  try simp only [Act.put, List.getElem_toArray, List.getElem_cons_zero, List.getElem_cons_succ, List.setIfInBounds_toArray, List.set_cons_zero, List.set_cons_succ]
  refine wpList_plain rfl fun K hK => ?_
  go_simp
  refine hK _ _ ?_
  clear hK
  try simp only [Act.put, List.getElem_toArray, List.getElem_cons_zero, List.getElem_cons_succ, List.setIfInBounds_toArray, List.set_cons_zero, List.set_cons_succ]
  refine wpList_plain rfl fun K hK => ?_
  go_simp
  refine hK _ _ ?_
  clear hK
  try simp only [Act.put, List.getElem_toArray, List.getElem_cons_zero, List.getElem_cons_succ, List.setIfInBounds_toArray, List.set_cons_zero, List.set_cons_succ]
  refine wpList_plain rfl fun K hK => ?_
  go_simp
  refine hK _ _ ?_
  clear hK
  try simp only [Act.put, List.getElem_toArray, List.getElem_cons_zero, List.getElem_cons_succ, List.setIfInBounds_toArray, List.set_cons_zero, List.set_cons_succ]
  refine wpList_plain rfl fun K hK => ?_
  go_simp
  refine hK _ _ ?_
  clear hK
  try simp only [Act.put, List.getElem_toArray, List.getElem_cons_zero, List.getElem_cons_succ, List.setIfInBounds_toArray, List.set_cons_zero, List.set_cons_succ]
  refine wpList_plain rfl fun K hK => ?_
  go_simp
  refine (HV.out _ g0).mono ?_
  rintro e w2 ⟨bb, rfl, hG2⟩
  refine hK _ _ ?_
  clear hK K
  try simp only [Act.put, List.getElem_toArray, List.getElem_cons_zero, List.getElem_cons_succ, List.setIfInBounds_toArray, List.set_cons_zero, List.set_cons_succ]
  clear HV x0 x1 lx
  replace b0 := b0.keep hG2
  replace d0 := d0.keep hG2
  replace c0 := c0.keep hG2
  replace g0 := g0.t hG2
  clear hG2
  cases bb
  · have lx := c0.lt
    go_wp2_with (go_at_call 13; refine (HWK.out _).mono ?_; rintro e w9 ⟨rfl, hG9⟩)
    go_ret
    exact ⟨rfl, g0.t hG9⟩
  have x1 : w2.cell? ⟨w.heap.size + 1 + 1, 1, none⟩ = some (.int .i64 (a : Nat)) := c0.cell 1
  have x2 : w2.cell? ⟨w.heap.size + 1 + 1, 2, none⟩ = some (.int .i64 (b : Nat)) := c0.cell 2
  have y0 : w2.cell? ⟨w.heap.size + 1, 0, none⟩ = some (.int .i64 p0) := d0.cell 0
  have y1 : w2.cell? ⟨w.heap.size + 1, 1, none⟩ = some (.int .i64 p1) := d0.cell 1
  have y2 : w2.cell? ⟨w.heap.size + 1, 2, none⟩ = some (.int .i64 p2) := d0.cell 2
  have lx := c0.lt
  have ly := d0.lt
  obtain ⟨mn, hmn⟩ : ∃ mn : Int, mn = min p0 (min p1 p2) := ⟨_, rfl⟩
  obtain ⟨mx, hmx⟩ : ∃ mx : Int, mx = max p0 (max p1 p2) := ⟨_, rfl⟩
  have HMN := fun W : World => min3 p0 p1 p2 mn W (by omega) (by omega) (by omega) (by omega)
  have HMX := fun W : World => max3 p0 p1 p2 mx W (by omega) (by omega) (by omega) (by omega)
  have u1 : decide (mn < 0) = false := decide_eq_false (by omega)
  have u2 : decide (999 < mx) = false := decide_eq_false (by omega)
  have u3 : ¬ mn < 0 := by omega
  have u4 : ¬ 999 < mx := by omega
  obtain ⟨d, hd⟩ : ∃ d : Int, d = (b : Int) - a := ⟨_, rfl⟩
  have xd : IntKind.i64.wrap ((b : Int) - a) = d := by rw [hd]; exact IntWalk.i64_in _ (by omega)
  have t1 : decide ((b : Int) < a) = false := decide_eq_false (by omega)
  have t1' : decide (b < a) = false := decide_eq_false (by omega)
  have t2 : decide (40 < d) = false := decide_eq_false (by omega)
  have t3 : decide (9999 < (b : Int)) = false := decide_eq_false (by omega)
  have t3' : decide (9999 < b) = false := decide_eq_false (by omega)
  have t4 : ¬ b < a := by omega
  have t5 : ¬ 9999 < b := by omega
  have t6 : ¬ 40 < d := by omega
  clear hd hmn hmx
  go_upto_region 3 with fail
  clear t1 t1' t2 t3 t3' t4 t5 t6 xd u1 u2 u3 u4 HMN HMX x1 x2 y0 y1 y2 lx ly
  refine wp_region_lit ?_
  refine wpList_load35 w.heap.size 3 HIS.out rfl rfl rfl b0 ?_
  try simp only [Act.put, List.getElem_toArray, List.getElem_cons_zero, List.getElem_cons_succ, List.setIfInBounds_toArray, List.set_cons_zero, List.set_cons_succ]
  refine wpList_plain rfl fun K hK => ?_
  go_simp
  refine (HCP.out _ g0).mono ?_
  rintro e w3 ⟨RO, rfl, hRO, hG3, hq⟩
  refine hK _ _ ?_
  clear hK K
  try simp only [Act.put, List.getElem_toArray, List.getElem_cons_zero, List.getElem_cons_succ, List.setIfInBounds_toArray, List.set_cons_zero, List.set_cons_succ]
  clear HCP
  replace b0 := b0.keep hG3
  replace d0 := d0.keep hG3
  replace c0 := c0.keep hG3
  replace g0 := g0.t hG3
  clear hG3
  have lgO := c0.lt
  obtain ⟨gO, hgO⟩ : ∃ gO, gO = w3.heap.size := ⟨_, rfl⟩
  have hz : Blk (w3.alloc (.cells #[.int .i64 0, .int .i64 0, .slice none 0 0, .int .i64 0, .slice none 0 0, .int .i64 0, .int .i64 0, .int .i64 0, .slice none 0 0, .int .i64 0, .int .i64 0, .slice none 0 0, .int .i64 0, .int .i64 0, .int .i64 0, .int .i64 0, .int .i64 0] 35)) w3.heap.size 35 #[.int .i64 0, .int .i64 0, .slice none 0 0, .int .i64 0, .slice none 0 0, .int .i64 0, .int .i64 0, .int .i64 0, .slice none 0 0, .int .i64 0, .int .i64 0, .slice none 0 0, .int .i64 0, .int .i64 0, .int .i64 0, .int .i64 0, .int .i64 0] := Blk.new _ _ _
  have ga : G w3 (w3.alloc (.cells #[.int .i64 0, .int .i64 0, .slice none 0 0, .int .i64 0, .slice none 0 0, .int .i64 0, .int .i64 0, .int .i64 0, .slice none 0 0, .int .i64 0, .int .i64 0, .slice none 0 0, .int .i64 0, .int .i64 0, .int .i64 0, .int .i64 0, .int .i64 0] 35)) := (G.rf _).a _
  refine wpList_plain rfl fun K hK => ?_
  go_simp
  refine hK _ _ ?_
  clear hK
  try simp only [Act.put, List.getElem_toArray, List.getElem_cons_zero, List.getElem_cons_succ, List.setIfInBounds_toArray, List.set_cons_zero, List.set_cons_succ]
  rw [← hgO] at hz lgO ⊢
  have HgO := Lib.hid hgO
  have hg3 : w3.heap.size ≤ gO := Nat.le_of_eq hgO.symm
  clear hgO
  refine wpList_plain rfl fun K hK => ?_
  refine wp_store46 gO 7 65 (OLD := #[.int .i64 0, .int .i64 0, .slice none 0 0, .int .i64 0, .slice none 0 0, .int .i64 0, .int .i64 0, .int .i64 0, .slice none 0 0, .int .i64 0, .int .i64 0, .slice none 0 0, .int .i64 0, .int .i64 0, .int .i64 0, .int .i64 0, .int .i64 0]) (REL := RO) ⟨_, _, _, _, _, _, _, _, _, _, _, _, _, _, _, _, _, _, _, _, _, _, _, _, _, rfl⟩ hRO rfl rfl rfl hz fun W2 hB2 hF2 hG2 => ?_
  refine hK _ _ ?_
  have g32 := hG2 w3 hg3 ga
  clear hF2 hG2 hK hz ga
  try simp only [Act.put, List.getElem_toArray, List.getElem_cons_zero, List.getElem_cons_succ, List.setIfInBounds_toArray, List.set_cons_zero, List.set_cons_succ]
  replace b0 := b0.keep g32
  replace d0 := d0.keep g32
  replace c0 := c0.keep g32
  replace g0 := g0.t g32
  have hlt := hB2.lt
  obtain ⟨o0, o1, o2, ho0, ho1, ho2⟩ := hRO.lim
  have k0 := (hB2.cell 12).trans ho0
  have k1 := (hB2.cell 13).trans ho1
  have k2 := (hB2.cell 14).trans ho2
  have f0 := hB2.frozen 12
  have f1 := hB2.frozen 13
  have f2 := hB2.frozen 14
  have r0 := (b0.cell 12).trans h12
  have r1 := (b0.cell 13).trans h13
  have r2 := (b0.cell 14).trans h14
  have lb := b0.lt
  have y0 : W2.cell? ⟨w.heap.size + 1, 0, none⟩ = some (.int .i64 p0) := d0.cell 0
  have y1 : W2.cell? ⟨w.heap.size + 1, 1, none⟩ = some (.int .i64 p1) := d0.cell 1
  have y2 : W2.cell? ⟨w.heap.size + 1, 2, none⟩ = some (.int .i64 p2) := d0.cell 2
  have ly := d0.lt
  obtain ⟨v0, hv0⟩ : ∃ v : Int, v = lw - p0 := ⟨_, rfl⟩
  obtain ⟨v1, hv1⟩ : ∃ v : Int, v = lg + p1 := ⟨_, rfl⟩
  obtain ⟨v2, hv2⟩ : ∃ v : Int, v = lh - p2 := ⟨_, rfl⟩
  have q0 : IntKind.i64.wrap (lw - p0) = v0 := by rw [hv0]; exact IntWalk.i64_in _ (by omega)
  have q1 : IntKind.i64.wrap (lg + p1) = v1 := by rw [hv1]; exact IntWalk.i64_in _ (by omega)
  have q2 : IntKind.i64.wrap (lh - p2) = v2 := by rw [hv2]; exact IntWalk.i64_in _ (by omega)
  rw [← hv0, ← hv1, ← hv2] at HS2 HF2
  obtain ⟨L0, hL0⟩ : ∃ v : Int, v = max 0 v0 := ⟨_, rfl⟩
  obtain ⟨L1, hL1⟩ : ∃ v : Int, v = min 999 v1 := ⟨_, rfl⟩
  obtain ⟨L2, hL2⟩ : ∃ v : Int, v = max 0 v2 := ⟨_, rfl⟩
  have j0 := fun W : World => (max2 0 v0 W).trans (by rw [← hL0])
  have j1 := fun W : World => (min2 999 v1 W).trans (by rw [← hL1])
  have j2 := fun W : World => (max2 0 v2 W).trans (by rw [← hL2])
  rw [← hL0, ← hL1, ← hL2] at HS2 HF2
  clear hv0 hv1 hv2 hL0 hL1 hL2 ho0 ho1 ho2 h12 h13 h14
  go_upto_region 5 with fail
  clear k0 k1 k2 f0 f1 f2 r0 r1 r2 lb y0 y1 y2 ly q0 q1 q2 j0 j1 j2
  change Code.wp _ _ _ _ (((W2.setCell ⟨gO, 12, none⟩ (.int .i64 L0)).setCell ⟨gO, 13, none⟩ (.int .i64 L1)).setCell ⟨gO, 14, none⟩ (.int .i64 L2))
  have bO : Blk (((W2.setCell ⟨gO, 12, none⟩ (.int .i64 L0)).setCell ⟨gO, 13, none⟩ (.int .i64 L1)).setCell ⟨gO, 14, none⟩ (.int .i64 L2)) gO 35 (RO3 RO L0 L1 L2) := ((hB2.set_ 12 _).set_ 13 _).set_ 14 _
  have gz : G w3 (((W2.setCell ⟨gO, 12, none⟩ (.int .i64 L0)).setCell ⟨gO, 13, none⟩ (.int .i64 L1)).setCell ⟨gO, 14, none⟩ (.int .i64 L2)) := ((g32.s (p := ⟨gO, 12, none⟩) hg3 (.int .i64 L0)).s (p := ⟨gO, 13, none⟩) hg3 (.int .i64 L1)).s (p := ⟨gO, 14, none⟩) hg3 (.int .i64 L2)
  replace hq := HQK.out _ _ _ hq gz
  replace b0 := ((b0.far (p := ⟨gO, 12, none⟩) (by show w.heap.size ≠ gO; omega) (.int .i64 L0)).far (p := ⟨gO, 13, none⟩) (by show w.heap.size ≠ gO; omega) (.int .i64 L1)).far (p := ⟨gO, 14, none⟩) (by show w.heap.size ≠ gO; omega) (.int .i64 L2)
  replace c0 := ((c0.far (p := ⟨gO, 12, none⟩) (by show w.heap.size + 1 + 1 ≠ gO; omega) (.int .i64 L0)).far (p := ⟨gO, 13, none⟩) (by show w.heap.size + 1 + 1 ≠ gO; omega) (.int .i64 L1)).far (p := ⟨gO, 14, none⟩) (by show w.heap.size + 1 + 1 ≠ gO; omega) (.int .i64 L2)
  replace g0 := ((g0.s (p := ⟨gO, 12, none⟩) (by show w.heap.size ≤ gO; omega) (.int .i64 L0)).s (p := ⟨gO, 13, none⟩) (by show w.heap.size ≤ gO; omega) (.int .i64 L1)).s (p := ⟨gO, 14, none⟩) (by show w.heap.size ≤ gO; omega) (.int .i64 L2)
  have HRO3 := Lib.hid (hRO.set3 L0 L1 L2)
  clear gz g32 hB2 d0 hRO HgO hg3 lgO hlt
  generalize ((W2.setCell ⟨gO, 12, none⟩ (.int .i64 L0)).setCell ⟨gO, 13, none⟩ (.int .i64 L1)).setCell ⟨gO, 14, none⟩ (.int .i64 L2) = wc at *
  have x0 : wc.cell? ⟨w.heap.size + 1 + 1, 0, none⟩ = some (.int .i64 (i : Nat)) := c0.cell 0
  have x1 : wc.cell? ⟨w.heap.size + 1 + 1, 1, none⟩ = some (.int .i64 (a : Nat)) := c0.cell 1
  have lx := c0.lt
  refine wp_region_lit ?_
  refine wpList_load35 w.heap.size 3 HIS.out rfl rfl rfl b0 ?_
  try simp only [Act.put, List.getElem_toArray, List.getElem_cons_zero, List.getElem_cons_succ, List.setIfInBounds_toArray, List.set_cons_zero, List.set_cons_succ]
  go_upto_region 6 with (go_at_call 17; refine (HS1.out _ g0).mono ?_; rintro e wn ⟨rfl, hGn⟩)
  clear x0 x1 lx
  replace b0 := b0.keep hGn
  replace c0 := c0.keep hGn
  replace bO := bO.keep hGn
  replace g0 := g0.t hGn
  replace hq := HQK.out _ _ _ hq hGn
  clear hGn
  obtain ⟨wc, rfl⟩ : ∃ wc, wc = wn := ⟨_, rfl⟩
  have x0 : wc.cell? ⟨w.heap.size + 1 + 1, 0, none⟩ = some (.int .i64 (i : Nat)) := c0.cell 0
  have x1 : wc.cell? ⟨w.heap.size + 1 + 1, 1, none⟩ = some (.int .i64 (a : Nat)) := c0.cell 1
  have lx := c0.lt
  refine wp_region_lit ?_
  refine wpList_load35 gO 7 HRO3.out rfl rfl rfl bO ?_
  try simp only [Act.put, List.getElem_toArray, List.getElem_cons_zero, List.getElem_cons_succ, List.setIfInBounds_toArray, List.set_cons_zero, List.set_cons_succ]
  go_upto_region 7 with (go_at_call 17; refine (HS2.out _ _ g0 hq).mono ?_; rintro e wn ⟨rfl, hGn⟩)
  clear x0 x1 lx
  replace b0 := b0.keep hGn
  replace c0 := c0.keep hGn
  replace bO := bO.keep hGn
  replace g0 := g0.t hGn
  replace hq := HQK.out _ _ _ hq hGn
  clear hGn
  obtain ⟨wc, rfl⟩ : ∃ wc, wc = wn := ⟨_, rfl⟩
  have x1 : wc.cell? ⟨w.heap.size + 1 + 1, 1, none⟩ = some (.int .i64 (a : Nat)) := c0.cell 1
  have x2 : wc.cell? ⟨w.heap.size + 1 + 1, 2, none⟩ = some (.int .i64 (b : Nat)) := c0.cell 2
  have lx := c0.lt
  refine wp_region_lit ?_
  refine wpList_load35 w.heap.size 3 HIS.out rfl rfl rfl b0 ?_
  try simp only [Act.put, List.getElem_toArray, List.getElem_cons_zero, List.getElem_cons_succ, List.setIfInBounds_toArray, List.set_cons_zero, List.set_cons_succ]
  go_upto_region 8 with (go_at_call 20; refine (HF1.out _ g0).mono ?_; rintro e wn ⟨rfl, hGn⟩)
  clear x1 x2 lx
  replace b0 := b0.keep hGn
  replace c0 := c0.keep hGn
  replace bO := bO.keep hGn
  replace g0 := g0.t hGn
  replace hq := HQK.out _ _ _ hq hGn
  clear hGn
  obtain ⟨wc, rfl⟩ : ∃ wc, wc = wn := ⟨_, rfl⟩
  have x1 : wc.cell? ⟨w.heap.size + 1 + 1, 1, none⟩ = some (.int .i64 (a : Nat)) := c0.cell 1
  have x2 : wc.cell? ⟨w.heap.size + 1 + 1, 2, none⟩ = some (.int .i64 (b : Nat)) := c0.cell 2
  have lx := c0.lt
  refine wp_region_lit ?_
  refine wpList_load35 gO 7 HRO3.out rfl rfl rfl bO ?_
  try simp only [Act.put, List.getElem_toArray, List.getElem_cons_zero, List.getElem_cons_succ, List.setIfInBounds_toArray, List.set_cons_zero, List.set_cons_succ]
  go_upto_region 9 with (go_at_call 20; refine (HF2.out _ _ g0 hq).mono ?_; rintro e wn ⟨rfl, hGn⟩)
  clear x1 x2 lx
  replace b0 := b0.keep hGn
  replace c0 := c0.keep hGn
  replace bO := bO.keep hGn
  replace g0 := g0.t hGn
  replace hq := HQK.out _ _ _ hq hGn
  clear hGn
  obtain ⟨wc, rfl⟩ : ∃ wc, wc = wn := ⟨_, rfl⟩
  have hfin := HFIN.out
  clear HFIN HS1 HS2 HF1 HF2 HQK hq
  rcases hfin with rfl | ⟨rfl, hs, he⟩
  · go_wp2_with (go_at_call 13; refine (HWK.out _).mono ?_; rintro e w9 ⟨rfl, hG9⟩)
    go_ret
    exact ⟨rfl, g0.t hG9⟩
  rcases hs with ⟨rfl, rfl | rfl | rfl⟩ | ⟨rfl, rfl⟩ | ⟨rfl, rfl | rfl⟩
  · go_upto_region 15 with fail
    rcases he with ⟨rfl, rfl | rfl⟩ | ⟨rfl, rfl, hm⟩
    · go_wp2_with (go_at_call 13; refine (HWK.out _).mono ?_; rintro e w9 ⟨rfl, hG9⟩)
      go_ret
      exact ⟨rfl, g0.t hG9⟩
    · go_wp2_with (go_at_call 13; refine (HWK.out _).mono ?_; rintro e w9 ⟨rfl, hG9⟩)
      go_ret
      exact ⟨rfl, g0.t hG9⟩
    · have t1 : decide (m1 ≤ m2) = true := decide_eq_true hm
      go_wp2_with (go_at_call 13; refine (HWK.out _).mono ?_; rintro e w9 ⟨rfl, hG9⟩)
      go_ret
      exact ⟨rfl, g0.t hG9⟩
  · go_upto_region 15 with fail
    rcases he with ⟨rfl, rfl | rfl⟩ | ⟨rfl, rfl, hm⟩
    · go_wp2_with (go_at_call 13; refine (HWK.out _).mono ?_; rintro e w9 ⟨rfl, hG9⟩)
      go_ret
      exact ⟨rfl, g0.t hG9⟩
    · go_wp2_with (go_at_call 13; refine (HWK.out _).mono ?_; rintro e w9 ⟨rfl, hG9⟩)
      go_ret
      exact ⟨rfl, g0.t hG9⟩
    · have t1 : decide (m1 ≤ m2) = true := decide_eq_true hm
      go_wp2_with (go_at_call 13; refine (HWK.out _).mono ?_; rintro e w9 ⟨rfl, hG9⟩)
      go_ret
      exact ⟨rfl, g0.t hG9⟩
  · go_upto_region 15 with fail
    rcases he with ⟨rfl, rfl | rfl⟩ | ⟨rfl, rfl, hm⟩
    · go_wp2_with (go_at_call 13; refine (HWK.out _).mono ?_; rintro e w9 ⟨rfl, hG9⟩)
      go_ret
      exact ⟨rfl, g0.t hG9⟩
    · go_wp2_with (go_at_call 13; refine (HWK.out _).mono ?_; rintro e w9 ⟨rfl, hG9⟩)
      go_ret
      exact ⟨rfl, g0.t hG9⟩
    · have t1 : decide (m1 ≤ m2) = true := decide_eq_true hm
      go_wp2_with (go_at_call 13; refine (HWK.out _).mono ?_; rintro e w9 ⟨rfl, hG9⟩)
      go_ret
      exact ⟨rfl, g0.t hG9⟩
  · go_upto_region 15 with fail
    rcases he with ⟨rfl, rfl | rfl⟩ | ⟨rfl, rfl, hm⟩
    · go_wp2_with (go_at_call 13; refine (HWK.out _).mono ?_; rintro e w9 ⟨rfl, hG9⟩)
      go_ret
      exact ⟨rfl, g0.t hG9⟩
    · go_wp2_with (go_at_call 13; refine (HWK.out _).mono ?_; rintro e w9 ⟨rfl, hG9⟩)
      go_ret
      exact ⟨rfl, g0.t hG9⟩
    · have t1 : decide (m1 ≤ m2) = true := decide_eq_true hm
      go_wp2_with (go_at_call 13; refine (HWK.out _).mono ?_; rintro e w9 ⟨rfl, hG9⟩)
      go_ret
      exact ⟨rfl, g0.t hG9⟩
  · go_upto_region 15 with fail
    rcases he with ⟨rfl, rfl | rfl⟩ | ⟨rfl, rfl, hm⟩
    · go_wp2_with (go_at_call 13; refine (HWK.out _).mono ?_; rintro e w9 ⟨rfl, hG9⟩)
      go_ret
      exact ⟨rfl, g0.t hG9⟩
    · go_wp2_with (go_at_call 13; refine (HWK.out _).mono ?_; rintro e w9 ⟨rfl, hG9⟩)
      go_ret
      exact ⟨rfl, g0.t hG9⟩
    · have t1 : decide (m1 ≤ m2) = true := decide_eq_true hm
      go_wp2_with (go_at_call 13; refine (HWK.out _).mono ?_; rintro e w9 ⟨rfl, hG9⟩)
      go_ret
      exact ⟨rfl, g0.t hG9⟩
  · go_upto_region 15 with fail
    rcases he with ⟨rfl, rfl | rfl⟩ | ⟨rfl, rfl, hm⟩
    · go_wp2_with (go_at_call 13; refine (HWK.out _).mono ?_; rintro e w9 ⟨rfl, hG9⟩)
      go_ret
      exact ⟨rfl, g0.t hG9⟩
    · go_wp2_with (go_at_call 13; refine (HWK.out _).mono ?_; rintro e w9 ⟨rfl, hG9⟩)
      go_ret
      exact ⟨rfl, g0.t hG9⟩
    · have t1 : decide (m1 ≤ m2) = true := decide_eq_true hm
      go_wp2_with (go_at_call 13; refine (HWK.out _).mono ?_; rintro e w9 ⟨rfl, hG9⟩)
      go_ret
      exact ⟨rfl, g0.t hG9⟩
end Go.Proofs.Ytcekdljjmfkacaa
set_option linter.unusedSimpArgs false
set_option linter.unusedVariables false
namespace Go.Proofs.Ytcekdljjmfkacaa
open Go.RowKit Go.Shelf
attribute [local go_sem] Oper.semAt_some wide_fn wide_dep wideR_fn wideR_dep
/-- numbers that are asked of no release: outside the bounds -/
def OffS (p0 p1 p2 minute to : Int) : Prop := min p0 (min p1 p2) < 0 ∨ 999 < max p0 (max p1 p2) ∨ OffE minute to
set_option maxRecDepth 100000 in
set_option maxHeartbeats 8000000 in
theorem StrictOut_walk (REL : Array Value) (home minute to px py hr p0 p1 p2 : Int) (w : World) (hIs : IsRel REL) (hto : -9223372036854775808 ≤ to ∧ to ≤ 9223372036854775807)
    (hV : ∀ W, G w W → Calls Try.prog 12 #[.agg REL, .int .i64 home, .int .i64 minute] W (ValidPost W ((0 ≤ minute ∧ minute ≤ 9999) ∧ OffS p0 p1 p2 minute to))) :
    Calls Try.prog 7 #[.agg REL, .agg #[.int .i64 p0, .int .i64 p1, .int .i64 p2], .agg #[.int .i64 home, .int .i64 minute, .int .i64 to, .int .i64 px, .int .i64 py, .int .i64 hr]] w fun e w' => e = .returned (.bool true) ∧ G w w' := by
  have HIS := Lib.hid hIs
  have HV := Lib.hid hV
  have HWK := Lib.hid (fun W : World => works_any W)
  clear hIs hV
  obtain ⟨g0, b0, d0, c0⟩ := w3_spec6 w REL #[.int .i64 p0, .int .i64 p1, .int .i64 p2] #[.int .i64 home, .int .i64 minute, .int .i64 to, .int .i64 px, .int .i64 py, .int .i64 hr] 35 33 62
  go_enter Try.func7, Try.ntmps7
  go_upto_region 1 with fail
  change Code.wp _ _ _ _ (((w.alloc (.cells REL 35)).alloc (.cells #[.int .i64 p0, .int .i64 p1, .int .i64 p2] 33)).alloc (.cells #[.int .i64 home, .int .i64 minute, .int .i64 to, .int .i64 px, .int .i64 py, .int .i64 hr] 62))
  generalize ((w.alloc (.cells REL 35)).alloc (.cells #[.int .i64 p0, .int .i64 p1, .int .i64 p2] 33)).alloc (.cells #[.int .i64 home, .int .i64 minute, .int .i64 to, .int .i64 px, .int .i64 py, .int .i64 hr] 62) = w1 at *
  have x0 : w1.cell? ⟨w.heap.size + 1 + 1, 0, none⟩ = some (.int .i64 home) := c0.cell 0
  have x1 : w1.cell? ⟨w.heap.size + 1 + 1, 1, none⟩ = some (.int .i64 minute) := c0.cell 1
  have lx := c0.lt
  refine wp_region_lit ?_
  refine wpList_load35 w.heap.size 3 HIS.out rfl rfl rfl b0 ?_
  try simp only [Act.put, List.getElem_toArray, List.getElem_cons_zero, List.getElem_cons_succ, List.setIfInBounds_toArray, List.set_cons_zero, List.set_cons_succ]
  refine wpList_plain rfl fun K hK => ?_
  go_simp
  refine hK _ _ ?_
  clear hK
  try simp only [Act.put, List.getElem_toArray, List.getElem_cons_zero, List.getElem_cons_succ, List.setIfInBounds_toArray, List.set_cons_zero, List.set_cons_succ]
  refine wpList_plain rfl fun K hK => ?_
  go_simp
  refine hK _ _ ?_
  clear hK
  try simp only [Act.put, List.getElem_toArray, List.getElem_cons_zero, List.getElem_cons_succ, List.setIfInBounds_toArray, List.set_cons_zero, List.set_cons_succ]
  refine wpList_plain rfl fun K hK => ?_
  go_simp
  refine hK _ _ ?_
  clear hK
  try simp only [Act.put, List.getElem_toArray, List.getElem_cons_zero, List.getElem_cons_succ, List.setIfInBounds_toArray, List.set_cons_zero, List.set_cons_succ]
  refine wpList_plain rfl fun K hK => ?_
  go_simp
  refine hK _ _ ?_
  clear hK
  try simp only [Act.put, List.getElem_toArray, List.getElem_cons_zero, List.getElem_cons_succ, List.setIfInBounds_toArray, List.set_cons_zero, List.set_cons_succ]
  refine wpList_plain rfl fun K hK => ?_
  go_simp
  refine (HV.out _ g0).mono ?_
  rintro e w2 ⟨bb, rfl, hb, hG2⟩
  refine hK _ _ ?_
  clear hK K
  try simp only [Act.put, List.getElem_toArray, List.getElem_cons_zero, List.getElem_cons_succ, List.setIfInBounds_toArray, List.set_cons_zero, List.set_cons_succ]
  clear HV x0 x1 lx
  replace b0 := b0.keep hG2
  replace d0 := d0.keep hG2
  replace c0 := c0.keep hG2
  replace g0 := g0.t hG2
  clear hG2
  have lx := c0.lt
  cases bb
  · clear hb
    go_wp2_with (go_at_call 13; refine (HWK.out _).mono ?_; rintro e w9 ⟨rfl, hG9⟩)
    go_ret
    exact ⟨rfl, g0.t hG9⟩
  obtain ⟨⟨a1, a2⟩, hoff⟩ := hb rfl
  unfold OffS OffE at hoff
  clear hb
  have x1 : w2.cell? ⟨w.heap.size + 1 + 1, 1, none⟩ = some (.int .i64 minute) := c0.cell 1
  have x2 : w2.cell? ⟨w.heap.size + 1 + 1, 2, none⟩ = some (.int .i64 to) := c0.cell 2
  have y0 : w2.cell? ⟨w.heap.size + 1, 0, none⟩ = some (.int .i64 p0) := d0.cell 0
  have y1 : w2.cell? ⟨w.heap.size + 1, 1, none⟩ = some (.int .i64 p1) := d0.cell 1
  have y2 : w2.cell? ⟨w.heap.size + 1, 2, none⟩ = some (.int .i64 p2) := d0.cell 2
  have ly := d0.lt
  obtain ⟨mn, hmn⟩ : ∃ mn : Int, mn = min p0 (min p1 p2) := ⟨_, rfl⟩
  obtain ⟨mx, hmx⟩ : ∃ mx : Int, mx = max p0 (max p1 p2) := ⟨_, rfl⟩
  have HMN := fun W : World => min3 p0 p1 p2 mn W (by omega) (by omega) (by omega) (by omega)
  have HMX := fun W : World => max3 p0 p1 p2 mx W (by omega) (by omega) (by omega) (by omega)
  rw [← hmn, ← hmx] at hoff
  clear hmn hmx
  by_cases v1 : mn < 0
  · clear hoff a1 a2 hto
    have u1 : decide (mn < 0) = true := decide_eq_true v1
    go_wp2_with (go_at_call 13; refine (HWK.out _).mono ?_; rintro e w9 ⟨rfl, hG9⟩)
    go_ret
    exact ⟨rfl, g0.t hG9⟩
  have u1 : decide (mn < 0) = false := decide_eq_false v1
  by_cases v2 : 999 < mx
  · clear hoff a1 a2 hto
    have u2 : decide (999 < mx) = true := decide_eq_true v2
    go_wp2_with (go_at_call 13; refine (HWK.out _).mono ?_; rintro e w9 ⟨rfl, hG9⟩)
    go_ret
    exact ⟨rfl, g0.t hG9⟩
  have u2 : decide (999 < mx) = false := decide_eq_false v2
  by_cases q1 : to < minute
  · clear hoff a1 a2 hto
    have t1 : decide (to < minute) = true := decide_eq_true q1
    go_wp2_with (go_at_call 13; refine (HWK.out _).mono ?_; rintro e w9 ⟨rfl, hG9⟩)
    go_ret
    exact ⟨rfl, g0.t hG9⟩
  have t1 : decide (to < minute) = false := decide_eq_false q1
  obtain ⟨d, hd⟩ : ∃ d, d = to - minute := ⟨_, rfl⟩
  have xd : IntKind.i64.wrap (to - minute) = d := by rw [hd]; exact IntWalk.i64_in _ (by omega)
  rw [← hd] at hoff
  clear hd hto a1 a2
  by_cases q2 : 40 < d
  · clear hoff
    have t2 : decide (40 < d) = true := decide_eq_true q2
    go_wp2_with (go_at_call 13; refine (HWK.out _).mono ?_; rintro e w9 ⟨rfl, hG9⟩)
    go_ret
    exact ⟨rfl, g0.t hG9⟩
  have t2 : decide (40 < d) = false := decide_eq_false q2
  have q3 : 9999 < to := by omega
  have t3 : decide (9999 < to) = true := decide_eq_true q3
  clear hoff
  go_wp2_with (go_at_call 13; refine (HWK.out _).mono ?_; rintro e w9 ⟨rfl, hG9⟩)
  go_ret
  exact ⟨rfl, g0.t hG9⟩
/-- what Safe answers of a release -/
theorem rS {r : Rl} {w : World} (h : r.Ok w) {hi mi : Nat} (hh : hi < r.n) (hm : mi ≤ 9999) : Calls Try.prog 17 #[.agg r.v, .int .i64 (hi : Nat), .int .i64 (mi : Nat)] w fun e w' => e = .returned (.tuple #[.int .i64 (if r.err = 0 then r.safe hi mi else 0), .int .i64 r.err]) ∧ G w w' := by
  refine (rSafe_ok h hh hm).mono fun e w' hp => ?_
  obtain ⟨h1, h2⟩ := hp
  refine ⟨?_, h2⟩
  rw [h1]
  split <;> rfl
/-- what First answers of a release -/
theorem rF {r : Rl} {w : World} (h : r.Ok w) {a b : Nat} (ha : a ≤ 9999) (hb : b ≤ 9999) : Calls Try.prog 20 #[.agg r.v, .int .i64 (a : Nat), .int .i64 (b : Nat)] w fun e w' => e = .returned (.tuple #[.int .i64 (if r.err = 0 then (firstR (flyB r) a (b + 1 - a)).1 else 0), .int .i64 (if r.err = 0 then (firstR (flyB r) a (b + 1 - a)).2 else r.err)]) ∧ G w w' := rFirst_ok h ha hb
/-- if one may fly at all minutes at which one may in the other case, First is not later -/
theorem first_cmp {fly fly' : Nat → Bool} (a b : Nat) (h : ∀ m, fly' m = true → fly m = true) :
    ((firstR fly' a (b + 1 - a)).2 = 3 ∧ ((firstR fly a (b + 1 - a)).2 = 0 ∨ (firstR fly a (b + 1 - a)).2 = 3)) ∨ ((firstR fly' a (b + 1 - a)).2 = 0 ∧ (firstR fly a (b + 1 - a)).2 = 0 ∧ (firstR fly a (b + 1 - a)).1 ≤ (firstR fly' a (b + 1 - a)).1) := by
  have c1 := firstR_cases (fly := fly) (a := a) (b := b) (fm := (firstR fly a (b + 1 - a)).1) (fe := (firstR fly a (b + 1 - a)).2) rfl
  have c2 := firstR_cases (fly := fly') (a := a) (b := b) (fm := (firstR fly' a (b + 1 - a)).1) (fe := (firstR fly' a (b + 1 - a)).2) rfl
  rcases c2 with ⟨e2, j2, h1, h2, h3, h4, h5⟩ | ⟨e2, hn2⟩
  · rcases c1 with ⟨e1, j1, k1, k2, k3, k4, k5⟩ | ⟨e1, hn1⟩
    · refine .inr ⟨e2, e1, ?_⟩
      rw [k3, h3]
      rcases Nat.lt_or_ge j2 j1 with hlt | hge
      · have := k5 j2 h1 hlt
        rw [h j2 h4] at this
        cases this
      · omega
    · have := hn1 j2 h1 h2
      rw [h j2 h4] at this
      cases this
  · refine .inl ⟨e2, ?_⟩
    rcases c1 with ⟨e1, _⟩ | ⟨e1, _⟩
    · exact .inl e1
    · exact .inr e1
theorem anyU_false {p : Nat → Bool} {n : Nat} : anyU p n = false ↔ ∀ j, j < n → p j = false := by
  unfold anyU
  rw [List.any_eq_false]
  exact ⟨fun h j hj => by have := h j (List.mem_range.2 hj); simpa using this, fun h j hj => by have := h j (List.mem_range.1 hj); simpa using this⟩
theorem fly_iff {r : Rl} (h : r.Nums) (m : Nat) : flyB r m = true ↔ lightB r m = true ∧ ∀ j, j < r.n → r.blk m j = none := by
  rw [flyB_eq h, Bool.and_eq_true, Bool.not_eq_true', anyU_false]
  refine and_congr Iff.rfl ⟨fun h j hj => ?_, fun h j hj => ?_⟩
  · have := h j hj
    simpa using this
  · rw [h j hj]; rfl
/-- the copy of a release, with other limits -/
def Rl.cpy (r : Rl) (lw lg lh : Int) (gE capE gS capS : Nat) (aH : Option Addr) (cH : Nat) (aF : Option Addr) (cF : Nat) : Rl := { r with lw := lw, lg := lg, lh := lh, ea := some ⟨gE, 0, none⟩, ec := capE, sa := some ⟨gS, 0, none⟩, sc := capS, ha := aH, hc := cH, fa := aF, fc := cF }
/-- the parts of a copied release -/
def CpR (r : Rl) (RO : Array Value) (W : World) : Prop := ∃ w0 gE capE curE gS capS curS aH cH xH BH aF cF xF BF, RO = (r.cpy r.lw r.lg r.lh gE capE gS capS aH cH aF cF).v ∧ CpIn w0 r.east r.svs r.n r.k r.h r.f gE curE gS capS curS aH cH xH BH aF cF xF BF W
theorem CpR.keep {r : Rl} {RO : Array Value} {W W' : World} (h : CpR r RO W) (hG : G W W') : CpR r RO W' := by
  obtain ⟨w0, gE, capE, curE, gS, capS, curS, aH, cH, xH, BH, aF, cF, xF, BF, e, hc⟩ := h
  exact ⟨w0, gE, capE, curE, gS, capS, curS, aH, cH, xH, BH, aF, cF, xF, BF, e, hc.keep hG⟩
/-- room is told where there is some -/
def Rl.caps (r : Rl) : Prop := (r.sa = none → r.sc = 0) ∧ ((r.ha = none → r.hc = 0) ∧ r.n ≤ r.hc) ∧ (r.fa = none → r.fc = 0) ∧ r.k ≤ r.fc
theorem rCp {r : Rl} {w : World} (h : r.Ok w) (hc : r.caps) : Calls Try.prog 21 #[.agg r.v] w fun e w' => ∃ RO, e = .returned (.agg RO) ∧ IsRel RO ∧ G w w' ∧ CpR r RO w' := by
  have hN := h.nums
  have hl2 := (checkE_zero h.hk).2.1
  refine (rCopy_any r.north (r.cols : Nat) (r.lofts : Nat) r.wrong (r.bx : Nat) (r.bY : Nat) (r.sl : Nat) (r.sh : Nat) r.lw r.lg r.lh (r.hours : Nat) (r.dark : Nat) r.east r.svs r.n r.k r.h r.f r.ea r.sa r.ha r.fa r.ec r.sc r.hc r.fc w h.he h.hs h.hH h.hF (by have := hN.base; omega) (by have := hN.rows; omega) (by omega) (by have := hN.many; omega) (by have := h.hk12; omega) hc.1 hc.2.1 hc.2.2).mono fun e w' hp => ?_
  obtain ⟨gE, capE, curE, gS, capS, curS, aH, cH, xH, BH, aF, cF, xF, BF, rfl, hcp⟩ := hp
  exact ⟨_, rfl, rIs (r.cpy r.lw r.lg r.lh gE capE gS capS aH cH aF cF), hcp.hG, w, gE, capE, curE, gS, capS, curS, aH, cH, xH, BH, aF, cF, xF, BF, rfl, hcp⟩
theorem cpy_ok {r : Rl} {w W w0 : World} (h : r.Ok w) {lw lg lh : Int} (h0 : 0 ≤ lw ∧ lw ≤ 999) (h1 : 0 ≤ lg ∧ lg ≤ 999) (h2 : 0 ≤ lh ∧ lh ≤ 999) {gE capE : Nat} {curE : Array Value} {gS capS : Nat} {curS : Array Value} {aH : Option Addr} {cH : Nat} {xH : List Value} {BH : Nat} {aF : Option Addr} {cF : Nat} {xF : List Value} {BF : Nat}
    (hc : CpIn w0 r.east r.svs r.n r.k r.h r.f gE curE gS capS curS aH cH xH BH aF cF xF BF W) : (r.cpy lw lg lh gE capE gS capS aH cH aF cF).Ok W :=
  ⟨hc.ints, hc.svsAt, h.hk, ⟨h.hr.base, h.hr.many, h.hr.homes, h.hr.speed, by show isInB lw 0 999 = true; unfold isInB; simp; omega, by show isInB lg 0 999 = true; unfold isInB; simp; omega, by show isInB lh 0 999 = true; unfold isInB; simp; omega, h.hr.hrs, h.hr.drk⟩, hc.homes, hc.fronts, h.hk12, h.hfo⟩
end Go.Proofs.Ytcekdljjmfkacaa
set_option linter.unusedSimpArgs false
set_option linter.unusedVariables false
namespace Go.Proofs.Ytcekdljjmfkacaa
open Go.RowKit Go.Shelf
attribute [local go_sem] Oper.semAt_some wide_fn wide_dep wideR_fn wideR_dep
theorem caps_of {north cols lofts wrong bx bY sl sh lw lg lh hours dark : Int} {east : List Int} {svs : List Sv} {n k : Nat} {ea sa ha fa : Option Addr} {ec sc hc fc : Nat} {r : Rl} (hv : r.v = #[.int .i64 north, .int .i64 cols, .slice ea east.length ec, .int .i64 lofts, .slice sa svs.length sc, .int .i64 wrong, .int .i64 bx, .int .i64 bY, .slice ha n hc, .int .i64 sl, .int .i64 sh, .slice fa k fc, .int .i64 lw, .int .i64 lg, .int .i64 lh, .int .i64 hours, .int .i64 dark])
    (hcap : (sa = none → sc = 0) ∧ ((ha = none → hc = 0) ∧ n ≤ hc) ∧ (fa = none → fc = 0) ∧ k ≤ fc) : r.caps := by
  have e4 : Value.slice r.sa r.svs.length r.sc = .slice sa svs.length sc := Option.some.inj (congrArg (fun a => a[4]?) hv)
  have e8 : Value.slice r.ha r.n r.hc = .slice ha n hc := Option.some.inj (congrArg (fun a => a[8]?) hv)
  have e11 : Value.slice r.fa r.k r.fc = .slice fa k fc := Option.some.inj (congrArg (fun a => a[11]?) hv)
  injection e4 with a1 a2 a3
  injection e8 with b1 b2 b3
  injection e11 with c1 c2 c3
  unfold Rl.caps
  rw [a1, a3, b1, b2, b3, c1, c2, c3]
  exact hcap
/-- with narrower limits what was outside is so still, and nothing becomes inside -/
theorem safe_lim {r r2 : Rl} (hl : r2.lim.le r.lim) (hS : r2.S = r.S) (hst : ∀ i, r2.st i = r.st i) (hh : r2.hours = r.hours) (hns : ∀ i, r2.ns i = r.ns i) (i m : Nat) :
    (r2.blk m i = none → r.blk m i = none) ∧ ((r.safe i m = 1 ∧ (r2.safe i m = 1 ∨ r2.safe i m = 2 ∨ r2.safe i m = 3)) ∨ (r.safe i m = 2 ∧ r2.safe i m = 2) ∨ (r.safe i m = 3 ∧ (r2.safe i m = 2 ∨ r2.safe i m = 3))) := by
  have hb : r2.blk m i = none → r.blk m i = none := fun h => by
    unfold Rl.blk at *
    rw [hS, hst, hh, hns] at h
    refine blkR_mono (fun k hk t ht hin => ?_) h
    exact skIn_mono (Sk.le_rf _) hl hin
  refine ⟨hb, ?_⟩
  have hc := safeN_cases (S := r.S) (lim := r.lim) (st := r.st i) (mi := m) (H := r.hours) (ns := r.ns i)
  have hc2 := safeN_cases (S := r2.S) (lim := r2.lim) (st := r2.st i) (mi := m) (H := r2.hours) (ns := r2.ns i)
  rcases hc with h1 | h2 | h3
  · exact .inl ⟨h1, hc2⟩
  · refine .inr (.inl ⟨h2, ?_⟩)
    obtain ⟨k1, k, hk, ho⟩ := safeN_two.1 h2
    refine safeN_two.2 ⟨fun e => k1 (hb e), k, by rw [hns]; exact hk, ?_⟩
    unfold outB at *
    rw [hS, hst, hh]
    rw [List.all_eq_true] at *
    exact fun t ht => skOut_mono (Sk.le_rf _) hl (ho t ht)
  · refine .inr (.inr ⟨h3, ?_⟩)
    rcases hc2 with h | h | h
    · have := hb (safeN_one.1 h)
      have := safeN_one.2 this
      rw [h3] at this
      cases this
    · exact .inl h
    · exact .inr h
section
variable (north cols lofts wrong bx bY sl sh lw lg lh hours dark : Int) (east : List Int) (svs : List Sv) (n k : Nat) (h f : Nat → Nat → Int) (ea sa ha fa : Option Addr) (ec sc hc fc : Nat) (w : World)
set_option maxRecDepth 100000 in
set_option maxHeartbeats 4000000 in
theorem StrictLaw_any (L : Laid east svs n k h f ea sa ha fa w) (hcap : (sa = none → sc = 0) ∧ ((ha = none → hc = 0) ∧ n ≤ hc) ∧ (fa = none → fc = 0) ∧ k ≤ fc) (p0 p1 p2 home minute to px py hr : Int) (hto : -9223372036854775808 ≤ to ∧ to ≤ 9223372036854775807) : Calls Try.prog 7 #[.agg #[.int .i64 north, .int .i64 cols, .slice ea east.length ec, .int .i64 lofts, .slice sa svs.length sc, .int .i64 wrong, .int .i64 bx, .int .i64 bY, .slice ha n hc, .int .i64 sl, .int .i64 sh, .slice fa k fc, .int .i64 lw, .int .i64 lg, .int .i64 lh, .int .i64 hours, .int .i64 dark], .agg #[.int .i64 p0, .int .i64 p1, .int .i64 p2], .agg #[.int .i64 home, .int .i64 minute, .int .i64 to, .int .i64 px, .int .i64 py, .int .i64 hr]] w fun e w' => e = .returned (.bool true) ∧ G w w' := by
  have hV := fun (W : World) (hW : G w W) => valid_any north cols lofts wrong bx bY sl sh lw lg lh hours dark east svs n k h f ea sa ha fa ec sc hc fc W (L.keep hW) home minute
  by_cases hp : (COk north cols lofts wrong bx bY sl sh lw lg lh hours dark east svs n k h f ∧ (0 ≤ home ∧ home < n) ∧ (0 : Int) ≤ minute ∧ minute ≤ (9999 : Int)) ∧ ¬ OffS p0 p1 p2 minute to
  · obtain ⟨hp, hoff⟩ := hp
    obtain ⟨r, hv, hok, hrn, hrk, hre⟩ := to_Rl north cols lofts wrong bx bY sl sh lw lg lh hours dark east svs n k h f ea sa ha fa ec sc hc fc w L hp.1
    have hcaps : r.caps := caps_of hv hcap
    unfold OffS OffE at hoff
    obtain ⟨i, rfl⟩ : ∃ i : Nat, home = i := ⟨home.toNat, by omega⟩
    obtain ⟨m, rfl⟩ : ∃ m : Nat, minute = m := ⟨minute.toNat, by omega⟩
    obtain ⟨b, rfl⟩ : ∃ b : Nat, to = b := ⟨to.toNat, by omega⟩
    rw [← hv] at hV ⊢
    have hi : i < r.n := by omega
    obtain ⟨l0, l1, l2⟩ := hok.nums.lims
    have y0 : 0 ≤ max 0 (r.lw - p0) ∧ max 0 (r.lw - p0) ≤ 999 := by omega
    have y1 : 0 ≤ min 999 (r.lg + p1) ∧ min 999 (r.lg + p1) ≤ 999 := by omega
    have y2 : 0 ≤ max 0 (r.lh - p2) ∧ max 0 (r.lh - p2) ≤ 999 := by omega
    obtain ⟨r2, hr2⟩ : ∃ r2, r2 = r.cpy (max 0 (r.lw - p0)) (min 999 (r.lg + p1)) (max 0 (r.lh - p2)) 0 0 0 0 none 0 none 0 := ⟨_, rfl⟩
    have hlim : r2.lim.le r.lim := by
      rw [hr2]
      show (skLim (max 0 (r.lw - p0)) (min 999 (r.lg + p1)) (max 0 (r.lh - p2))).le (skLim r.lw r.lg r.lh)
      unfold skLim Sk.le
      simp only
      omega
    have hcmp := fun i m => safe_lim hlim (by rw [hr2]; rfl) (fun i => by rw [hr2]; rfl) (by rw [hr2]; rfl) (fun i => by rw [hr2]; rfl) i m
    have hN2 : r2.Nums := by
      have hN := hok.nums
      rw [hr2]
      exact ⟨hN.cols, hN.rows, hN.base, hN.homes, hN.many, hN.speed, hN.hours, hN.dark, ⟨y0, y1, y2⟩⟩
    have hfly : ∀ m, flyB r2 m = true → flyB r m = true := fun m hm => by
      rw [fly_iff hN2] at hm
      rw [fly_iff hok.nums]
      refine ⟨?_, fun j hj => (hcmp j m).1 (hm.2 j (by rw [hr2]; exact hj))⟩
      have := hm.1
      rw [hr2] at this
      exact this
    have herr : r2.err = r.err := by rw [hr2]; rfl
    have hfc := first_cmp m b hfly
    refine Strict_walk r.v (CpR r) i m b p0 p1 p2 r.lw r.lg r.lh px py hr r.err (if r.err = 0 then r.safe i m else 0) (if r.err = 0 then r2.safe i m else 0) (if r.err = 0 then (firstR (flyB r) m (b + 1 - m)).1 else 0) (if r.err = 0 then (firstR (flyB r) m (b + 1 - m)).2 else r.err) (if r.err = 0 then (firstR (flyB r2) m (b + 1 - m)).1 else 0) (if r.err = 0 then (firstR (flyB r2) m (b + 1 - m)).2 else r.err) w (rIs r) (by omega) (by omega) (by omega) rfl rfl rfl l0 l1 l2 (by omega) (by omega) (by omega)
      (fun W hW => (hV W hW).mono fun e w' hh => by obtain ⟨b, h1, _, h2⟩ := hh; exact ⟨b, h1, h2⟩) (fun W hW => rCp (hok.keep hW) hcaps) (fun RO W W' hq hG => hq.keep hG) (fun W hW => rS (hok.keep hW) hi (by omega)) (fun RO W hW hq => ?_) (fun W hW => rF (hok.keep hW) (by omega) (by omega)) (fun RO W hW hq => ?_) ?_
    · obtain ⟨w0, gE, capE, curE, gS, capS, curS, aH, cH, xH, BH, aF, cF, xF, BF, rfl, hcp⟩ := hq
      have ho := cpy_ok (capE := capE) hok y0 y1 y2 hcp
      rw [← herr, hr2]
      exact rS ho hi (by omega)
    · obtain ⟨w0, gE, capE, curE, gS, capS, curS, aH, cH, xH, BH, aF, cF, xF, BF, rfl, hcp⟩ := hq
      have ho := cpy_ok (capE := capE) hok y0 y1 y2 hcp
      rw [← herr, hr2]
      exact rF ho (by omega) (by omega)
    · rcases err_cases r with h0 | h3
      · refine .inr ⟨h0, ?_⟩
        simp only [h0, if_true]
        exact ⟨(hcmp i m).2, hfc⟩
      · exact .inl h3
  · refine StrictOut_walk #[.int .i64 north, .int .i64 cols, .slice ea east.length ec, .int .i64 lofts, .slice sa svs.length sc, .int .i64 wrong, .int .i64 bx, .int .i64 bY, .slice ha n hc, .int .i64 sl, .int .i64 sh, .slice fa k fc, .int .i64 lw, .int .i64 lg, .int .i64 lh, .int .i64 hours, .int .i64 dark] home minute to px py hr p0 p1 p2 w isRelV hto (fun W hW => (hV W hW).mono fun e w' hh => ?_)
    obtain ⟨b, h1, h2, h3⟩ := hh
    refine ⟨b, h1, fun hb => ?_, h3⟩
    have h4 := h2 hb
    exact ⟨h4.2.2, Classical.byContradiction fun hno => hp ⟨h4, hno⟩⟩
end
section
open Go.ChangeShapes Go.WideShapes Go.ChangeAt
variable {H : Type} {enc : TypeId × Value → H} {w : World}
set_option maxRecDepth 100000 in
/-- limits that are handed in -/
theorem lims_val {v : Value} {d : DataW H} {p : List MemPlace} {r : Reach} {b0 : Nat} (hv : Value.okWide Try.prog w r b0 33 v) (h : DataW.Trod enc Try.prog w 0 (fun _ => true) true 33 v d p) :
    ∃ a b c : Int, v = .agg #[.int .i64 a, .int .i64 b, .int .i64 c] := by
  obtain ⟨cs, rfl, hsz⟩ := okWide_struct Try.underlying33 hv
  obtain ⟨l⟩ := cs
  obtain ⟨fuel, hf0⟩ := h
  obtain ⟨a, b, c, e⟩ := lims_of hf0
  simp [Value.cells] at e
  exact ⟨a, b, c, by rw [e]⟩
end
end Go.Proofs.Ytcekdljjmfkacaa
