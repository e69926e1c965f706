import Derived.Test.YtcekdljjmfkacaaSb
set_option linter.unusedSimpArgs false
set_option linter.unusedVariables false
namespace Go.Proofs.Ytcekdljjmfkacaa
open Go.RowKit Go.Shelf
attribute [local go_sem] Oper.semAt_some wide_fn wide_dep wideR_fn wideR_dep
theorem own_baseL {X : World} {b b' N z : Nat} {e : TypeId} {v : Value} {xs : List Value} (h : X.ownsRow b e z v N xs) (hb : b' ≤ b) : X.ownsRow b' e z v N xs := by
  refine ⟨h.1, ?_⟩
  rcases h.2 with h0 | ⟨g, cap, cur, rfl, h1, h2⟩
  · exact .inl h0
  · exact .inr ⟨g, cap, cur, rfl, Nat.le_trans hb h1, h2⟩
theorem cellsL {W : World} {g : Nat} {t : TypeId} {l : List Value} (h : Blk W g t l.toArray) : ∀ j u, l[j]? = some u → W.cell? ((⟨g, 0, none⟩ : Addr).add j) = some u := by
  intro j u hj
  rw [add0, h.cell j]
  simpa using hj
/-- fronts with one more -/
def addF (f : Nat → Nat → Int) (k : Nat) (ff : Nat → Int) (i r : Nat) : Int := if i < k then f i r else ff r
theorem addF_get {xF : List Value} {k : Nat} {f : Nat → Nat → Int} (ff : Nat → Int) (hl : xF.length = k * 12) (hx : ∀ i, i < k → ∀ r, r < 12 → xF[i * 12 + r]? = some (.int .i64 (f i r))) : ∀ i, i < k + 1 → ∀ r, r < 12 → (xF ++ [.int .i64 (ff 0), .int .i64 (ff 1), .int .i64 (ff 2), .int .i64 (ff 3), .int .i64 (ff 4), .int .i64 (ff 5), .int .i64 (ff 6), .int .i64 (ff 7), .int .i64 (ff 8), .int .i64 (ff 9), .int .i64 (ff 10), .int .i64 (ff 11)])[i * 12 + r]? = some (.int .i64 (addF f k ff i r)) := by
  intro i hi r hr
  unfold addF
  by_cases h : i < k
  · rw [if_pos h, List.getElem?_append_left (by rw [hl]; omega)]
    exact hx i h r hr
  · rw [if_neg h, List.getElem?_append_right (by rw [hl]; omega), hl]
    obtain rfl : i = k := by omega
    rw [show i * 12 + r - i * 12 = r by omega]
    match r, hr with
    | 0, _ => rfl
    | 1, _ => rfl
    | 2, _ => rfl
    | 3, _ => rfl
    | 4, _ => rfl
    | 5, _ => rfl
    | 6, _ => rfl
    | 7, _ => rfl
    | 8, _ => rfl
    | 9, _ => rfl
    | 10, _ => rfl
    | 11, _ => rfl
set_option maxRecDepth 100000 in
set_option maxHeartbeats 8000000 in
theorem More_walk (REL : Array Value) (MK MK2 : Nat → Nat → Nat → Nat → Option Addr → Nat → Option Addr → Nat → Array Value) (PO : Prop) (east : List Int) (svs : List Sv) (n k : Nat) (h f : Nat → Nat → Int) (ff : Nat → Int) (fa : Option Addr) (fc : Nat) (i a b : Nat) (px py hr Z1 Z2 s1 s2 m1 e1 m2 e2 : Int) (w : World) (hIs : IsRel REL) (hab : a ≤ b) (h40 : b ≤ a + 40) (hb : b ≤ 9999) (hk : k < 12)
    (h11 : REL[11]? = some (.slice fa k fc)) (hMis : ∀ gE capE gS capS aH cH aF cF, IsRel (MK gE capE gS capS aH cH aF cF)) (hM11 : ∀ gE capE gS capS aH cH aF cF, (MK gE capE gS capS aH cH aF cF)[11]? = some (.slice aF k cF)) (hMset : ∀ gE capE gS capS aH cH aF cF a2 c2, (MK gE capE gS capS aH cH aF cF).setIfInBounds 11 (.slice a2 (k + 1) c2) = MK2 gE capE gS capS aH cH a2 c2) (hMis2 : ∀ gE capE gS capS aH cH aF cF, IsRel (MK2 gE capE gS capS aH cH aF cF))
    (hV : ∀ W, G w W → Calls Try.prog 12 #[.agg REL, .int .i64 (i : Nat), .int .i64 (a : Nat)] W (BoolPost W))
    (hCp : ∀ W, G w W → Calls Try.prog 21 #[.agg REL] W fun e w' => ∃ gE capE curE gS capS curS aH cH xH BH aF cF xF BF, e = .returned (.agg (MK gE capE gS capS aH cH aF cF)) ∧ CpIn W east svs n k h f gE curE gS capS curS aH cH xH BH aF cF xF BF w')
    (hCk : ∀ W w0 gE capE curE gS capS curS aH cH xH BH aF cF xF BF, G w W → CpIn w0 east svs n (k + 1) h (addF f k ff) gE curE gS capS curS aH cH xH BH aF cF xF BF W → Calls Try.prog 22 #[.agg (MK2 gE capE gS capS aH cH aF cF)] W (ErrPost W PO))
    (hS1 : ∀ W, G w W → Calls Try.prog 17 #[.agg REL, .int .i64 (i : Nat), .int .i64 (a : Nat)] W fun e w' => e = .returned (.tuple #[.int .i64 s1, .int .i64 Z1]) ∧ G W w')
    (hS2 : PO → ∀ W w0 gE capE curE gS capS curS aH cH xH BH aF cF xF BF, G w W → CpIn w0 east svs n (k + 1) h (addF f k ff) gE curE gS capS curS aH cH xH BH aF cF xF BF W → Calls Try.prog 17 #[.agg (MK2 gE capE gS capS aH cH aF cF), .int .i64 (i : Nat), .int .i64 (a : Nat)] W fun e w' => e = .returned (.tuple #[.int .i64 s2, .int .i64 Z2]) ∧ G W w')
    (hF1 : ∀ W, G w W → Calls Try.prog 20 #[.agg REL, .int .i64 (a : Nat), .int .i64 (b : Nat)] W fun e w' => e = .returned (.tuple #[.int .i64 m1, .int .i64 e1]) ∧ G W w')
    (hF2 : PO → ∀ W w0 gE capE curE gS capS curS aH cH xH BH aF cF xF BF, G w W → CpIn w0 east svs n (k + 1) h (addF f k ff) gE curE gS capS curS aH cH xH BH aF cF xF BF W → Calls Try.prog 20 #[.agg (MK2 gE capE gS capS aH cH aF cF), .int .i64 (a : Nat), .int .i64 (b : Nat)] W fun e w' => e = .returned (.tuple #[.int .i64 m2, .int .i64 e2]) ∧ G W w')
    (hfin : PO → Z2 = 3 ∨ (Z2 = 0 ∧ Z1 = 0 ∧ ((s1 = 3 ∧ (s2 = 1 ∨ s2 = 2 ∨ s2 = 3)) ∨ (s1 = 2 ∧ s2 = 2) ∨ (s1 = 1 ∧ s2 = 1)) ∧ ((e1 = 3 ∧ (e2 = 0 ∨ e2 = 3)) ∨ (e1 = 0 ∧ e2 = 0 ∧ m2 ≤ m1)))) :
    Calls Try.prog 6 #[.agg REL, .agg #[.int .i64 (ff 0), .int .i64 (ff 1), .int .i64 (ff 2), .int .i64 (ff 3), .int .i64 (ff 4), .int .i64 (ff 5), .int .i64 (ff 6), .int .i64 (ff 7), .int .i64 (ff 8), .int .i64 (ff 9), .int .i64 (ff 10), .int .i64 (ff 11)], .agg #[.int .i64 (i : Nat), .int .i64 (a : Nat), .int .i64 (b : Nat), .int .i64 px, .int .i64 py, .int .i64 hr]] w fun e w' => e = .returned (.bool true) ∧ G w w' := by
  have HIS := Lib.hid hIs
  have HV := Lib.hid hV
  have HCP := Lib.hid hCp
  have HCK := Lib.hid hCk
  have HS1 := Lib.hid hS1
  have HS2 := Lib.hid hS2
  have HF1 := Lib.hid hF1
  have HF2 := Lib.hid hF2
  have HFIN := Lib.hid hfin
  have HMI := Lib.hid hMis
  have HM11 := Lib.hid hM11
  have HMS := Lib.hid hMset
  have HMI2 := Lib.hid hMis2
  have HWK := Lib.hid (fun W : World => works_any W)
  clear hIs hV hCp hCk hS1 hS2 hF1 hF2 hfin hMis hM11 hMset hMis2
  obtain ⟨g0, b0, d0, c0⟩ := w3_spec6 w REL #[.int .i64 (ff 0), .int .i64 (ff 1), .int .i64 (ff 2), .int .i64 (ff 3), .int .i64 (ff 4), .int .i64 (ff 5), .int .i64 (ff 6), .int .i64 (ff 7), .int .i64 (ff 8), .int .i64 (ff 9), .int .i64 (ff 10), .int .i64 (ff 11)] #[.int .i64 (i : Nat), .int .i64 (a : Nat), .int .i64 (b : Nat), .int .i64 px, .int .i64 py, .int .i64 hr] 35 60 62
  go_enter Try.func6, Try.ntmps6
  go_upto_region 1 with fail
  change Code.wp _ _ _ _ (((w.alloc (.cells REL 35)).alloc (.cells #[.int .i64 (ff 0), .int .i64 (ff 1), .int .i64 (ff 2), .int .i64 (ff 3), .int .i64 (ff 4), .int .i64 (ff 5), .int .i64 (ff 6), .int .i64 (ff 7), .int .i64 (ff 8), .int .i64 (ff 9), .int .i64 (ff 10), .int .i64 (ff 11)] 60)).alloc (.cells #[.int .i64 (i : Nat), .int .i64 (a : Nat), .int .i64 (b : Nat), .int .i64 px, .int .i64 py, .int .i64 hr] 62))
  generalize ((w.alloc (.cells REL 35)).alloc (.cells #[.int .i64 (ff 0), .int .i64 (ff 1), .int .i64 (ff 2), .int .i64 (ff 3), .int .i64 (ff 4), .int .i64 (ff 5), .int .i64 (ff 6), .int .i64 (ff 7), .int .i64 (ff 8), .int .i64 (ff 9), .int .i64 (ff 10), .int .i64 (ff 11)] 60)).alloc (.cells #[.int .i64 (i : Nat), .int .i64 (a : Nat), .int .i64 (b : Nat), .int .i64 px, .int .i64 py, .int .i64 hr] 62) = w1 at *
  have x0 : w1.cell? ⟨w.heap.size + 1 + 1, 0, none⟩ = some (.int .i64 (i : Nat)) := c0.cell 0
  have x1 : w1.cell? ⟨w.heap.size + 1 + 1, 1, none⟩ = some (.int .i64 (a : Nat)) := c0.cell 1
  have lx := c0.lt
  refine wp_region_lit ?_
  refine wpList_load35 w.heap.size 3 HIS.out rfl rfl rfl b0 ?_
  try simp only [Act.put, List.getElem_toArray, List.getElem_cons_zero, List.getElem_cons_succ, List.setIfInBounds_toArray, List.set_cons_zero, List.set_cons_succ]
  refine wpList_plain rfl fun K hK => ?_
  go_simp
  refine hK _ _ ?_
  clear hK
  try simp only [Act.put, List.getElem_toArray, List.getElem_cons_zero, List.getElem_cons_succ, List.setIfInBounds_toArray, List.set_cons_zero, List.set_cons_succ]
  refine wpList_plain rfl fun K hK => ?_
  go_simp
  refine hK _ _ ?_
  clear hK
  try simp only [Act.put, List.getElem_toArray, List.getElem_cons_zero, List.getElem_cons_succ, List.setIfInBounds_toArray, List.set_cons_zero, List.set_cons_succ]
  refine wpList_plain rfl fun K hK => ?_
  go_simp
  refine hK _ _ ?_
  clear hK
  try simp only [Act.put, List.getElem_toArray, List.getElem_cons_zero, List.getElem_cons_succ, List.setIfInBounds_toArray, List.set_cons_zero, List.set_cons_succ]
  refine wpList_plain rfl fun K hK => ?_
  go_simp
  refine hK _ _ ?_
  clear hK
  try simp only [Act.put, List.getElem_toArray, List.getElem_cons_zero, List.getElem_cons_succ, List.setIfInBounds_toArray, List.set_cons_zero, List.set_cons_succ]
  refine wpList_plain rfl fun K hK => ?_
  go_simp
  refine (HV.out _ g0).mono ?_
  rintro e w2 ⟨bb, rfl, hG2⟩
  refine hK _ _ ?_
  clear hK K
  try simp only [Act.put, List.getElem_toArray, List.getElem_cons_zero, List.getElem_cons_succ, List.setIfInBounds_toArray, List.set_cons_zero, List.set_cons_succ]
  clear HV x0 x1 lx
  replace b0 := b0.keep hG2
  replace d0 := d0.keep hG2
  replace c0 := c0.keep hG2
  replace g0 := g0.t hG2
  clear hG2
  cases bb
  · have lx := c0.lt
    go_wp2_with (go_at_call 13; refine (HWK.out _).mono ?_; rintro e w9 ⟨rfl, hG9⟩)
    go_ret
    exact ⟨rfl, g0.t hG9⟩
  have x1 : w2.cell? ⟨w.heap.size + 1 + 1, 1, none⟩ = some (.int .i64 (a : Nat)) := c0.cell 1
  have x2 : w2.cell? ⟨w.heap.size + 1 + 1, 2, none⟩ = some (.int .i64 (b : Nat)) := c0.cell 2
  have y11 := (b0.cell 11).trans h11
  have lx := c0.lt
  have ly := b0.lt
  have u1 : decide ((12 : Int) ≤ (k : Int)) = false := decide_eq_false (by omega)
  have u2 : decide (12 ≤ k) = false := decide_eq_false (by omega)
  have u3 : ¬ 12 ≤ k := by omega
  obtain ⟨d, hd⟩ : ∃ d : Int, d = (b : Int) - a := ⟨_, rfl⟩
  have xd : IntKind.i64.wrap ((b : Int) - a) = d := by rw [hd]; exact IntWalk.i64_in _ (by omega)
  have t1 : decide ((b : Int) < a) = false := decide_eq_false (by omega)
  have t1' : decide (b < a) = false := decide_eq_false (by omega)
  have t2 : decide (40 < d) = false := decide_eq_false (by omega)
  have t3 : decide (9999 < (b : Int)) = false := decide_eq_false (by omega)
  have t3' : decide (9999 < b) = false := decide_eq_false (by omega)
  have t4 : ¬ b < a := by omega
  have t5 : ¬ 9999 < b := by omega
  have t6 : ¬ 40 < d := by omega
  clear hd
  go_upto_region 3 with fail
  clear t1 t1' t2 t3 t3' t4 t5 t6 xd u1 u2 u3 x1 x2 y11 lx ly
  refine wp_region_lit ?_
  refine wpList_load35 w.heap.size 3 HIS.out rfl rfl rfl b0 ?_
  try simp only [Act.put, List.getElem_toArray, List.getElem_cons_zero, List.getElem_cons_succ, List.setIfInBounds_toArray, List.set_cons_zero, List.set_cons_succ]
  refine wpList_plain rfl fun K hK => ?_
  go_simp
  refine (HCP.out _ g0).mono ?_
  rintro e w3 ⟨gE, capE, curE, gS, capS, curS, aH, cH, xH, BH, aF, cF, xF, BF, rfl, hcp⟩
  refine hK _ _ ?_
  clear hK K
  try simp only [Act.put, List.getElem_toArray, List.getElem_cons_zero, List.getElem_cons_succ, List.setIfInBounds_toArray, List.set_cons_zero, List.set_cons_succ]
  clear HCP
  have hG3 := hcp.hG
  have hsz2 : w.heap.size ≤ w2.heap.size := g0.size
  replace b0 := b0.keep hG3
  replace d0 := d0.keep hG3
  replace c0 := c0.keep hG3
  replace g0 := g0.t hG3
  clear hG3
  have hsz3 : w2.heap.size ≤ w3.heap.size := hcp.hG.size
  have lgO := c0.lt
  obtain ⟨gO, hgO⟩ : ∃ gO, gO = w3.heap.size := ⟨_, rfl⟩
  have hz : Blk (w3.alloc (.cells #[.int .i64 0, .int .i64 0, .slice none 0 0, .int .i64 0, .slice none 0 0, .int .i64 0, .int .i64 0, .int .i64 0, .slice none 0 0, .int .i64 0, .int .i64 0, .slice none 0 0, .int .i64 0, .int .i64 0, .int .i64 0, .int .i64 0, .int .i64 0] 35)) w3.heap.size 35 #[.int .i64 0, .int .i64 0, .slice none 0 0, .int .i64 0, .slice none 0 0, .int .i64 0, .int .i64 0, .int .i64 0, .slice none 0 0, .int .i64 0, .int .i64 0, .slice none 0 0, .int .i64 0, .int .i64 0, .int .i64 0, .int .i64 0, .int .i64 0] := Blk.new _ _ _
  have ga : G w3 (w3.alloc (.cells #[.int .i64 0, .int .i64 0, .slice none 0 0, .int .i64 0, .slice none 0 0, .int .i64 0, .int .i64 0, .int .i64 0, .slice none 0 0, .int .i64 0, .int .i64 0, .slice none 0 0, .int .i64 0, .int .i64 0, .int .i64 0, .int .i64 0, .int .i64 0] 35)) := (G.rf _).a _
  refine wpList_plain rfl fun K hK => ?_
  go_simp
  refine hK _ _ ?_
  clear hK
  try simp only [Act.put, List.getElem_toArray, List.getElem_cons_zero, List.getElem_cons_succ, List.setIfInBounds_toArray, List.set_cons_zero, List.set_cons_succ]
  rw [← hgO] at hz lgO ⊢
  have HgO := Lib.hid hgO
  have hg3 : w3.heap.size ≤ gO := Nat.le_of_eq hgO.symm
  clear hgO
  have hRO := HMI.out gE capE gS capS aH cH aF cF
  refine wpList_plain rfl fun K hK => ?_
  refine wp_store46 gO 7 51 (OLD := #[.int .i64 0, .int .i64 0, .slice none 0 0, .int .i64 0, .slice none 0 0, .int .i64 0, .int .i64 0, .int .i64 0, .slice none 0 0, .int .i64 0, .int .i64 0, .slice none 0 0, .int .i64 0, .int .i64 0, .int .i64 0, .int .i64 0, .int .i64 0]) (REL := MK gE capE gS capS aH cH aF cF) ⟨_, _, _, _, _, _, _, _, _, _, _, _, _, _, _, _, _, _, _, _, _, _, _, _, _, rfl⟩ hRO rfl rfl rfl hz fun W2 hB2 hF2 hG2 => ?_
  refine hK _ _ ?_
  have g32 := hG2 w3 hg3 ga
  clear hF2 hG2 hK hz ga
  try simp only [Act.put, List.getElem_toArray, List.getElem_cons_zero, List.getElem_cons_succ, List.setIfInBounds_toArray, List.set_cons_zero, List.set_cons_succ]
  replace b0 := b0.keep g32
  replace d0 := d0.keep g32
  replace c0 := c0.keep g32
  replace g0 := g0.t g32
  replace hcp := hcp.keep g32
  have hszW : w2.heap.size ≤ W2.heap.size := hcp.hG.size
  have lO := hB2.lt
  have k11 := (hB2.cell 11).trans (HM11.out gE capE gS capS aH cH aF cF)
  have z11 := hB2.frozen 11
  have y0 := d0.cell 0
  have y1 := d0.cell 1
  have y2 := d0.cell 2
  have y3 := d0.cell 3
  have y4 := d0.cell 4
  have y5 := d0.cell 5
  have y6 := d0.cell 6
  have y7 := d0.cell 7
  have y8 := d0.cell 8
  have y9 := d0.cell 9
  have y10 := d0.cell 10
  have y11 := d0.cell 11
  have ly := d0.lt
  obtain ⟨i60, hi60, hy0, hy1, hy2⟩ := info_parts info60
  have HBS := Lib.hid (own_baseL hcp.hF hcp.bd.2.2.2)
  go_wp2_with (at_builtin; refine wpList_append_own _ rfl _ _ 31 rfl w2.heap.size 60 i60 (.agg #[.int .i64 0, .int .i64 0, .int .i64 0, .int .i64 0, .int .i64 0, .int .i64 0, .int .i64 0, .int .i64 0, .int .i64 0, .int .i64 0, .int .i64 0, .int .i64 0]) 12 96 Try.underlying31 hi60 hy0 hy1 hy2 rfl (by decide) _ k xF rfl ?hown ⟨_, 0, none⟩ 1 1 [.int .i64 (ff 0), .int .i64 (ff 1), .int .i64 (ff 2), .int .i64 (ff 3), .int .i64 (ff 4), .int .i64 (ff 5), .int .i64 (ff 6), .int .i64 (ff 7), .int .i64 (ff 8), .int .i64 (ff 9), .int .i64 (ff 10), .int .i64 (ff 11)] rfl rfl (cellsL (Blk.new _ _ _)) (by simp [Value.oneCell']) (by unfold maxLen; omega) (by omega) ?hbase ?hrest)
  case hown => exact own_G HBS.out ((G.rf _).a _)
  case hbase => have := hszW; simp; omega
  intro v' w9 hown9 hg9 _
  clear k11 z11 lO ly y0 y1 y2 y3 y4 y5 y6 y7 y8 y9 y10 y11 hi60 hy0 hy1 hy2 HBS
  obtain ⟨WA, hWA⟩ : ∃ WA, WA = W2.alloc (.cells #[.int .i64 (ff 0), .int .i64 (ff 1), .int .i64 (ff 2), .int .i64 (ff 3), .int .i64 (ff 4), .int .i64 (ff 5), .int .i64 (ff 6), .int .i64 (ff 7), .int .i64 (ff 8), .int .i64 (ff 9), .int .i64 (ff 10), .int .i64 (ff 11)] 60) := ⟨_, rfl⟩
  have gA : G W2 WA := by rw [hWA]; exact (G.rf _).a _
  rw [← hWA] at hg9
  have hcpA := hcp.keep gA
  have bOA := hB2.keep gA
  have gw : G w w9 := grow_own (g0.t gA) (own_baseL hcpA.hF hcpA.bd.2.2.2) hsz2 hg9
  obtain ⟨a2, c2, rfl⟩ := own_slice hown9
  have hxl := hown9.1
  have hxl2 := hcpA.hF.1
  replace b0 := (b0.keep gA).grown hg9 (own_ne hcpA.hF (b0.keep gA) (by decide))
  replace c0 := (c0.keep gA).grown hg9 (own_ne hcpA.hF (c0.keep gA) (by decide))
  have bO := bOA.grown hg9 (own_ne hcpA.hF bOA (by decide))
  have nE := hcpA.hE.grown hg9 (own_ne hcpA.hF hcpA.hE (by decide))
  have nS : OwnSv w9 gS capS curS svs := ⟨hcpA.hS.1.grown hg9 (own_ne hcpA.hF hcpA.hS.1 (by decide)), hcpA.hS.2⟩
  have nH := hcpA.hH.kept hg9 (own_own hcpA.hH hcpA.hF (by decide))
  have hszA : w2.heap.size ≤ w9.heap.size := by have := hg9.size; have := gA.size; omega
  have gw2 : G w2 w9 := grow_own (hcp.hG.t gA) (own_baseL hcpA.hF hcpA.bd.2.2.2) (Nat.le_refl _) hg9
  have hcp9 : CpIn w2 east svs n (k + 1) h (addF f k ff) gE curE gS capS curS aH cH xH BH a2 c2 (xF ++ [.int .i64 (ff 0), .int .i64 (ff 1), .int .i64 (ff 2), .int .i64 (ff 3), .int .i64 (ff 4), .int .i64 (ff 5), .int .i64 (ff 6), .int .i64 (ff 7), .int .i64 (ff 8), .int .i64 (ff 9), .int .i64 (ff 10), .int .i64 (ff 11)]) w2.heap.size w9 := ⟨nE, hcpA.hEt, nS, nH, hcpA.hHx, hown9, addF_get ff hxl2 hcpA.hFx, ⟨hcpA.bd.1, hcpA.bd.2.1, hcpA.bd.2.2.1, Nat.le_refl _⟩, gw2⟩
  clear hcpA nE nS nH hcp hown9 hxl hxl2 bOA gA hWA hg9 hB2 g0 d0 hRO
  have lO := bO.lt
  have k11 := (bO.cell 11).trans (HM11.out gE capE gS capS aH cH aF cF)
  have z11 := bO.frozen 11
  go_upto_region 5 with fail
  clear k11 z11
  have hfar := heap_set w9 gO 11 (.slice a2 (k + 1) c2)
  have bO2 : Blk (w9.setCell ⟨gO, 11, none⟩ (.slice a2 (k + 1) c2)) gO 35 (MK2 gE capE gS capS aH cH a2 c2) := by
    rw [← HMS.out gE capE gS capS aH cH aF cF a2 c2]
    exact bO.set_ 11 _
  have hw2O : w2.heap.size ≤ gO := by omega
  replace hcp9 := hcp9.far bO (by decide) (by decide) (by decide) (by decide) hfar (gw2.s (p := ⟨gO, 11, none⟩) hw2O _)
  replace b0 := b0.far (p := ⟨gO, 11, none⟩) (by show w.heap.size ≠ gO; omega) (.slice a2 (k + 1) c2)
  replace c0 := c0.far (p := ⟨gO, 11, none⟩) (by show w.heap.size + 1 + 1 ≠ gO; omega) (.slice a2 (k + 1) c2)
  have g0 := gw.s (p := ⟨gO, 11, none⟩) (by show w.heap.size ≤ gO; omega) (.slice a2 (k + 1) c2)
  have HRO := Lib.hid (HMI2.out gE capE gS capS aH cH a2 c2)
  clear hfar bO gw gw2 g32 HgO hg3 lgO lO hszA hszW hsz3
  generalize w9.setCell ⟨gO, 11, none⟩ (.slice a2 (k + 1) c2) = wc at *
  have hcp := hcp9
  clear hcp9
  by_cases hPO : PO
  · have HS2p := Lib.hid (HS2.out hPO)
    have HF2p := Lib.hid (HF2.out hPO)
    have hfin := HFIN.out hPO
    clear HS2 HF2 HFIN
    refine wp_region_lit ?_
    refine wpList_load35 gO 7 HRO.out rfl rfl rfl bO2 ?_
    try simp only [Act.put, List.getElem_toArray, List.getElem_cons_zero, List.getElem_cons_succ, List.setIfInBounds_toArray, List.set_cons_zero, List.set_cons_succ]
    go_upto_region 7 with (go_at_call 22; refine (HCK.out _ _ gE capE curE gS capS curS aH cH xH BH a2 c2 _ _ g0 hcp).mono ?_; rintro e wn ⟨z, rfl, hzz, hGn⟩; obtain rfl : z = 0 := hzz.2 hPO; clear hzz)
    replace b0 := b0.keep hGn
    replace c0 := c0.keep hGn
    replace bO2 := bO2.keep hGn
    replace g0 := g0.t hGn
    replace hcp := hcp.keep hGn
    clear hGn HCK
    obtain ⟨wc, rfl⟩ : ∃ wc, wc = wn := ⟨_, rfl⟩
    have x0 : wc.cell? ⟨w.heap.size + 1 + 1, 0, none⟩ = some (.int .i64 (i : Nat)) := c0.cell 0
    have x1 : wc.cell? ⟨w.heap.size + 1 + 1, 1, none⟩ = some (.int .i64 (a : Nat)) := c0.cell 1
    have lx := c0.lt
    refine wp_region_lit ?_
    refine wpList_load35 w.heap.size 3 HIS.out rfl rfl rfl b0 ?_
    try simp only [Act.put, List.getElem_toArray, List.getElem_cons_zero, List.getElem_cons_succ, List.setIfInBounds_toArray, List.set_cons_zero, List.set_cons_succ]
    go_upto_region 8 with (go_at_call 17; refine (HS1.out _ g0).mono ?_; rintro e wn ⟨rfl, hGn⟩)
    clear x0 x1 lx
    replace b0 := b0.keep hGn
    replace c0 := c0.keep hGn
    replace bO2 := bO2.keep hGn
    replace g0 := g0.t hGn
    replace hcp := hcp.keep hGn
    clear hGn
    obtain ⟨wc, rfl⟩ : ∃ wc, wc = wn := ⟨_, rfl⟩
    have x0 : wc.cell? ⟨w.heap.size + 1 + 1, 0, none⟩ = some (.int .i64 (i : Nat)) := c0.cell 0
    have x1 : wc.cell? ⟨w.heap.size + 1 + 1, 1, none⟩ = some (.int .i64 (a : Nat)) := c0.cell 1
    have lx := c0.lt
    refine wp_region_lit ?_
    refine wpList_load35 gO 7 HRO.out rfl rfl rfl bO2 ?_
    try simp only [Act.put, List.getElem_toArray, List.getElem_cons_zero, List.getElem_cons_succ, List.setIfInBounds_toArray, List.set_cons_zero, List.set_cons_succ]
    go_upto_region 9 with (go_at_call 17; refine (HS2p.out _ _ gE capE curE gS capS curS aH cH xH BH a2 c2 _ _ g0 hcp).mono ?_; rintro e wn ⟨rfl, hGn⟩)
    clear x0 x1 lx
    replace b0 := b0.keep hGn
    replace c0 := c0.keep hGn
    replace bO2 := bO2.keep hGn
    replace g0 := g0.t hGn
    replace hcp := hcp.keep hGn
    clear hGn
    obtain ⟨wc, rfl⟩ : ∃ wc, wc = wn := ⟨_, rfl⟩
    rcases hfin with rfl | ⟨rfl, rfl, hs, he⟩
    · go_wp2_with (go_at_call 13; refine (HWK.out _).mono ?_; rintro e w9 ⟨rfl, hG9⟩)
      go_ret
      exact ⟨rfl, g0.t hG9⟩
    go_upto_region 11 with fail
    have x1 : wc.cell? ⟨w.heap.size + 1 + 1, 1, none⟩ = some (.int .i64 (a : Nat)) := c0.cell 1
    have x2 : wc.cell? ⟨w.heap.size + 1 + 1, 2, none⟩ = some (.int .i64 (b : Nat)) := c0.cell 2
    have lx := c0.lt
    refine wp_region_lit ?_
    refine wpList_load35 w.heap.size 3 HIS.out rfl rfl rfl b0 ?_
    try simp only [Act.put, List.getElem_toArray, List.getElem_cons_zero, List.getElem_cons_succ, List.setIfInBounds_toArray, List.set_cons_zero, List.set_cons_succ]
    go_upto_region 12 with (go_at_call 20; refine (HF1.out _ g0).mono ?_; rintro e wn ⟨rfl, hGn⟩)
    clear x1 x2 lx
    replace b0 := b0.keep hGn
    replace c0 := c0.keep hGn
    replace bO2 := bO2.keep hGn
    replace g0 := g0.t hGn
    replace hcp := hcp.keep hGn
    clear hGn
    obtain ⟨wc, rfl⟩ : ∃ wc, wc = wn := ⟨_, rfl⟩
    have x1 : wc.cell? ⟨w.heap.size + 1 + 1, 1, none⟩ = some (.int .i64 (a : Nat)) := c0.cell 1
    have x2 : wc.cell? ⟨w.heap.size + 1 + 1, 2, none⟩ = some (.int .i64 (b : Nat)) := c0.cell 2
    have lx := c0.lt
    refine wp_region_lit ?_
    refine wpList_load35 gO 7 HRO.out rfl rfl rfl bO2 ?_
    try simp only [Act.put, List.getElem_toArray, List.getElem_cons_zero, List.getElem_cons_succ, List.setIfInBounds_toArray, List.set_cons_zero, List.set_cons_succ]
    go_upto_region 13 with (go_at_call 20; refine (HF2p.out _ _ gE capE curE gS capS curS aH cH xH BH a2 c2 _ _ g0 hcp).mono ?_; rintro e wn ⟨rfl, hGn⟩)
    clear x1 x2 lx
    replace b0 := b0.keep hGn
    replace c0 := c0.keep hGn
    replace bO2 := bO2.keep hGn
    replace g0 := g0.t hGn
    replace hcp := hcp.keep hGn
    clear hGn
    obtain ⟨wc, rfl⟩ : ∃ wc, wc = wn := ⟨_, rfl⟩
    clear HS1 HS2p HF1 HF2p hcp
    rcases hs with ⟨rfl, rfl | rfl | rfl⟩ | ⟨rfl, rfl⟩ | ⟨rfl, rfl⟩
    · go_upto_region 15 with fail
      rcases he with ⟨rfl, rfl | rfl⟩ | ⟨rfl, rfl, hm⟩
      · go_wp2_with (go_at_call 13; refine (HWK.out _).mono ?_; rintro e w9 ⟨rfl, hG9⟩)
        go_ret
        exact ⟨rfl, g0.t hG9⟩
      · go_wp2_with (go_at_call 13; refine (HWK.out _).mono ?_; rintro e w9 ⟨rfl, hG9⟩)
        go_ret
        exact ⟨rfl, g0.t hG9⟩
      · have t1 : decide (m2 ≤ m1) = true := decide_eq_true hm
        go_wp2_with (go_at_call 13; refine (HWK.out _).mono ?_; rintro e w9 ⟨rfl, hG9⟩)
        go_ret
        exact ⟨rfl, g0.t hG9⟩
    · go_upto_region 15 with fail
      rcases he with ⟨rfl, rfl | rfl⟩ | ⟨rfl, rfl, hm⟩
      · go_wp2_with (go_at_call 13; refine (HWK.out _).mono ?_; rintro e w9 ⟨rfl, hG9⟩)
        go_ret
        exact ⟨rfl, g0.t hG9⟩
      · go_wp2_with (go_at_call 13; refine (HWK.out _).mono ?_; rintro e w9 ⟨rfl, hG9⟩)
        go_ret
        exact ⟨rfl, g0.t hG9⟩
      · have t1 : decide (m2 ≤ m1) = true := decide_eq_true hm
        go_wp2_with (go_at_call 13; refine (HWK.out _).mono ?_; rintro e w9 ⟨rfl, hG9⟩)
        go_ret
        exact ⟨rfl, g0.t hG9⟩
    · go_upto_region 15 with fail
      rcases he with ⟨rfl, rfl | rfl⟩ | ⟨rfl, rfl, hm⟩
      · go_wp2_with (go_at_call 13; refine (HWK.out _).mono ?_; rintro e w9 ⟨rfl, hG9⟩)
        go_ret
        exact ⟨rfl, g0.t hG9⟩
      · go_wp2_with (go_at_call 13; refine (HWK.out _).mono ?_; rintro e w9 ⟨rfl, hG9⟩)
        go_ret
        exact ⟨rfl, g0.t hG9⟩
      · have t1 : decide (m2 ≤ m1) = true := decide_eq_true hm
        go_wp2_with (go_at_call 13; refine (HWK.out _).mono ?_; rintro e w9 ⟨rfl, hG9⟩)
        go_ret
        exact ⟨rfl, g0.t hG9⟩
    · go_upto_region 15 with fail
      rcases he with ⟨rfl, rfl | rfl⟩ | ⟨rfl, rfl, hm⟩
      · go_wp2_with (go_at_call 13; refine (HWK.out _).mono ?_; rintro e w9 ⟨rfl, hG9⟩)
        go_ret
        exact ⟨rfl, g0.t hG9⟩
      · go_wp2_with (go_at_call 13; refine (HWK.out _).mono ?_; rintro e w9 ⟨rfl, hG9⟩)
        go_ret
        exact ⟨rfl, g0.t hG9⟩
      · have t1 : decide (m2 ≤ m1) = true := decide_eq_true hm
        go_wp2_with (go_at_call 13; refine (HWK.out _).mono ?_; rintro e w9 ⟨rfl, hG9⟩)
        go_ret
        exact ⟨rfl, g0.t hG9⟩
    · go_upto_region 15 with fail
      rcases he with ⟨rfl, rfl | rfl⟩ | ⟨rfl, rfl, hm⟩
      · go_wp2_with (go_at_call 13; refine (HWK.out _).mono ?_; rintro e w9 ⟨rfl, hG9⟩)
        go_ret
        exact ⟨rfl, g0.t hG9⟩
      · go_wp2_with (go_at_call 13; refine (HWK.out _).mono ?_; rintro e w9 ⟨rfl, hG9⟩)
        go_ret
        exact ⟨rfl, g0.t hG9⟩
      · have t1 : decide (m2 ≤ m1) = true := decide_eq_true hm
        go_wp2_with (go_at_call 13; refine (HWK.out _).mono ?_; rintro e w9 ⟨rfl, hG9⟩)
        go_ret
        exact ⟨rfl, g0.t hG9⟩
  · have lx := c0.lt
    refine wp_region_lit ?_
    refine wpList_load35 gO 7 HRO.out rfl rfl rfl bO2 ?_
    try simp only [Act.put, List.getElem_toArray, List.getElem_cons_zero, List.getElem_cons_succ, List.setIfInBounds_toArray, List.set_cons_zero, List.set_cons_succ]
    go_wp2_with (first | (go_at_call 22; refine (HCK.out _ _ gE capE curE gS capS curS aH cH xH BH a2 c2 _ _ g0 hcp).mono ?_; rintro e w10 ⟨z, rfl, hzz, hG10⟩; have hz0 : (z == 0) = false := (by simp; exact fun e => hPO (hzz.1 e)); clear hzz) | (go_at_call 13; refine (HWK.out _).mono ?_; rintro e w11 ⟨rfl, hG11⟩))
    go_ret
    exact ⟨rfl, (g0.t hG10).t hG11⟩
end Go.Proofs.Ytcekdljjmfkacaa
set_option linter.unusedSimpArgs false
set_option linter.unusedVariables false
namespace Go.Proofs.Ytcekdljjmfkacaa
open Go.RowKit Go.Shelf
attribute [local go_sem] Oper.semAt_some wide_fn wide_dep wideR_fn wideR_dep
/-- fronts and minutes that are asked of no release: outside the bounds -/
def OffM (k : Nat) (minute to : Int) : Prop := 12 ≤ k ∨ OffE minute to
set_option maxRecDepth 100000 in
set_option maxHeartbeats 8000000 in
theorem MoreOut_walk (REL : Array Value) (k : Nat) (fa : Option Addr) (fc : Nat) (ff : Nat → Int) (home minute to px py hr : Int) (w : World) (hIs : IsRel REL) (h11 : REL[11]? = some (.slice fa k fc)) (hto : -9223372036854775808 ≤ to ∧ to ≤ 9223372036854775807)
    (hV : ∀ W, G w W → Calls Try.prog 12 #[.agg REL, .int .i64 home, .int .i64 minute] W (ValidPost W ((0 ≤ minute ∧ minute ≤ 9999) ∧ OffM k minute to))) :
    Calls Try.prog 6 #[.agg REL, .agg #[.int .i64 (ff 0), .int .i64 (ff 1), .int .i64 (ff 2), .int .i64 (ff 3), .int .i64 (ff 4), .int .i64 (ff 5), .int .i64 (ff 6), .int .i64 (ff 7), .int .i64 (ff 8), .int .i64 (ff 9), .int .i64 (ff 10), .int .i64 (ff 11)], .agg #[.int .i64 home, .int .i64 minute, .int .i64 to, .int .i64 px, .int .i64 py, .int .i64 hr]] w fun e w' => e = .returned (.bool true) ∧ G w w' := by
  have HIS := Lib.hid hIs
  have HV := Lib.hid hV
  have HWK := Lib.hid (fun W : World => works_any W)
  clear hIs hV
  obtain ⟨g0, b0, d0, c0⟩ := w3_spec6 w REL #[.int .i64 (ff 0), .int .i64 (ff 1), .int .i64 (ff 2), .int .i64 (ff 3), .int .i64 (ff 4), .int .i64 (ff 5), .int .i64 (ff 6), .int .i64 (ff 7), .int .i64 (ff 8), .int .i64 (ff 9), .int .i64 (ff 10), .int .i64 (ff 11)] #[.int .i64 home, .int .i64 minute, .int .i64 to, .int .i64 px, .int .i64 py, .int .i64 hr] 35 60 62
  go_enter Try.func6, Try.ntmps6
  go_upto_region 1 with fail
  change Code.wp _ _ _ _ (((w.alloc (.cells REL 35)).alloc (.cells #[.int .i64 (ff 0), .int .i64 (ff 1), .int .i64 (ff 2), .int .i64 (ff 3), .int .i64 (ff 4), .int .i64 (ff 5), .int .i64 (ff 6), .int .i64 (ff 7), .int .i64 (ff 8), .int .i64 (ff 9), .int .i64 (ff 10), .int .i64 (ff 11)] 60)).alloc (.cells #[.int .i64 home, .int .i64 minute, .int .i64 to, .int .i64 px, .int .i64 py, .int .i64 hr] 62))
  generalize ((w.alloc (.cells REL 35)).alloc (.cells #[.int .i64 (ff 0), .int .i64 (ff 1), .int .i64 (ff 2), .int .i64 (ff 3), .int .i64 (ff 4), .int .i64 (ff 5), .int .i64 (ff 6), .int .i64 (ff 7), .int .i64 (ff 8), .int .i64 (ff 9), .int .i64 (ff 10), .int .i64 (ff 11)] 60)).alloc (.cells #[.int .i64 home, .int .i64 minute, .int .i64 to, .int .i64 px, .int .i64 py, .int .i64 hr] 62) = w1 at *
  have x0 : w1.cell? ⟨w.heap.size + 1 + 1, 0, none⟩ = some (.int .i64 home) := c0.cell 0
  have x1 : w1.cell? ⟨w.heap.size + 1 + 1, 1, none⟩ = some (.int .i64 minute) := c0.cell 1
  have lx := c0.lt
  refine wp_region_lit ?_
  refine wpList_load35 w.heap.size 3 HIS.out rfl rfl rfl b0 ?_
  try simp only [Act.put, List.getElem_toArray, List.getElem_cons_zero, List.getElem_cons_succ, List.setIfInBounds_toArray, List.set_cons_zero, List.set_cons_succ]
  refine wpList_plain rfl fun K hK => ?_
  go_simp
  refine hK _ _ ?_
  clear hK
  try simp only [Act.put, List.getElem_toArray, List.getElem_cons_zero, List.getElem_cons_succ, List.setIfInBounds_toArray, List.set_cons_zero, List.set_cons_succ]
  refine wpList_plain rfl fun K hK => ?_
  go_simp
  refine hK _ _ ?_
  clear hK
  try simp only [Act.put, List.getElem_toArray, List.getElem_cons_zero, List.getElem_cons_succ, List.setIfInBounds_toArray, List.set_cons_zero, List.set_cons_succ]
  refine wpList_plain rfl fun K hK => ?_
  go_simp
  refine hK _ _ ?_
  clear hK
  try simp only [Act.put, List.getElem_toArray, List.getElem_cons_zero, List.getElem_cons_succ, List.setIfInBounds_toArray, List.set_cons_zero, List.set_cons_succ]
  refine wpList_plain rfl fun K hK => ?_
  go_simp
  refine hK _ _ ?_
  clear hK
  try simp only [Act.put, List.getElem_toArray, List.getElem_cons_zero, List.getElem_cons_succ, List.setIfInBounds_toArray, List.set_cons_zero, List.set_cons_succ]
  refine wpList_plain rfl fun K hK => ?_
  go_simp
  refine (HV.out _ g0).mono ?_
  rintro e w2 ⟨bb, rfl, hb, hG2⟩
  refine hK _ _ ?_
  clear hK K
  try simp only [Act.put, List.getElem_toArray, List.getElem_cons_zero, List.getElem_cons_succ, List.setIfInBounds_toArray, List.set_cons_zero, List.set_cons_succ]
  clear HV x0 x1 lx
  replace b0 := b0.keep hG2
  replace d0 := d0.keep hG2
  replace c0 := c0.keep hG2
  replace g0 := g0.t hG2
  clear hG2
  have lx := c0.lt
  cases bb
  · clear hb
    go_wp2_with (go_at_call 13; refine (HWK.out _).mono ?_; rintro e w9 ⟨rfl, hG9⟩)
    go_ret
    exact ⟨rfl, g0.t hG9⟩
  obtain ⟨⟨a1, a2⟩, hoff⟩ := hb rfl
  unfold OffM OffE at hoff
  clear hb
  have x1 : w2.cell? ⟨w.heap.size + 1 + 1, 1, none⟩ = some (.int .i64 minute) := c0.cell 1
  have x2 : w2.cell? ⟨w.heap.size + 1 + 1, 2, none⟩ = some (.int .i64 to) := c0.cell 2
  have y11 := (b0.cell 11).trans h11
  have ly := b0.lt
  by_cases v1 : 12 ≤ k
  · clear hoff a1 a2 hto
    have u1 : decide ((12 : Int) ≤ (k : Int)) = true := decide_eq_true (by omega)
    have u2 : (12 : Int) ≤ (k : Int) := by omega
    go_wp2_with (go_at_call 13; refine (HWK.out _).mono ?_; rintro e w9 ⟨rfl, hG9⟩)
    go_ret
    exact ⟨rfl, g0.t hG9⟩
  have u1 : decide ((12 : Int) ≤ (k : Int)) = false := decide_eq_false (by omega)
  have u2 : decide (12 ≤ k) = false := decide_eq_false v1
  by_cases q1 : to < minute
  · clear hoff a1 a2 hto
    have t1 : decide (to < minute) = true := decide_eq_true q1
    go_wp2_with (go_at_call 13; refine (HWK.out _).mono ?_; rintro e w9 ⟨rfl, hG9⟩)
    go_ret
    exact ⟨rfl, g0.t hG9⟩
  have t1 : decide (to < minute) = false := decide_eq_false q1
  obtain ⟨d, hd⟩ : ∃ d, d = to - minute := ⟨_, rfl⟩
  have xd : IntKind.i64.wrap (to - minute) = d := by rw [hd]; exact IntWalk.i64_in _ (by omega)
  rw [← hd] at hoff
  clear hd hto a1 a2
  by_cases q2 : 40 < d
  · clear hoff
    have t2 : decide (40 < d) = true := decide_eq_true q2
    go_wp2_with (go_at_call 13; refine (HWK.out _).mono ?_; rintro e w9 ⟨rfl, hG9⟩)
    go_ret
    exact ⟨rfl, g0.t hG9⟩
  have t2 : decide (40 < d) = false := decide_eq_false q2
  have q3 : 9999 < to := by omega
  have t3 : decide (9999 < to) = true := decide_eq_true q3
  clear hoff
  go_wp2_with (go_at_call 13; refine (HWK.out _).mono ?_; rintro e w9 ⟨rfl, hG9⟩)
  go_ret
  exact ⟨rfl, g0.t hG9⟩
theorem st_lohi (r : Rl) (h : r.Nums) (i k : Nat) : r.st i k 2 ≤ r.st i k 3 := by
  unfold Rl.st
  split
  · show loT _ _ _ _ _ ≤ hiT _ _ _ _ _
    unfold loT hiT
    have hs := h.speed
    refine Nat.le_trans (Nat.div_le_div_left hs.2.1 (by omega)) (Nat.div_le_div_right (by omega))
  · exact Nat.le_refl _
/-- if less can be, what was known is known still -/
theorem safe_more {r r2 : Rl} (hN : r.Nums) (hsub : ∀ x y t, ((r2.S x y t).getD skAny).le ((r.S x y t).getD skAny)) (hgood : ∀ x y t, skNone ((r2.S x y t).getD skAny) = false) (hlim : r2.lim = r.lim) (hst : ∀ i, r2.st i = r.st i) (hh : r2.hours = r.hours) (hns : ∀ i, r2.ns i = r.ns i) (i m : Nat) :
    (r.blk m i = none → r2.blk m i = none) ∧ ((r.safe i m = 3 ∧ (r2.safe i m = 1 ∨ r2.safe i m = 2 ∨ r2.safe i m = 3)) ∨ (r.safe i m = 2 ∧ r2.safe i m = 2) ∨ (r.safe i m = 1 ∧ r2.safe i m = 1)) := by
  have hb : r.blk m i = none → r2.blk m i = none := fun h => by
    unfold Rl.blk at *
    rw [hst, hh, hns, hlim]
    refine blkR_mono (fun k hk t ht hin => ?_) h
    exact skIn_mono (hsub _ _ _) (Sk.le_rf _) hin
  refine ⟨hb, ?_⟩
  have hc := safeN_cases (S := r.S) (lim := r.lim) (st := r.st i) (mi := m) (H := r.hours) (ns := r.ns i)
  have hc2 := safeN_cases (S := r2.S) (lim := r2.lim) (st := r2.st i) (mi := m) (H := r2.hours) (ns := r2.ns i)
  rcases hc with h1 | h2 | h3
  · refine .inr (.inr ⟨h1, safeN_one.2 (hb (safeN_one.1 h1))⟩)
  · refine .inr (.inl ⟨h2, ?_⟩)
    obtain ⟨k1, k, hk, ho⟩ := safeN_two.1 h2
    have ho2 : outB r2.S r2.lim (r2.st i) m r2.hours k = true := by
      unfold outB at *
      rw [hlim, hst, hh]
      rw [List.all_eq_true] at *
      exact fun t ht => skOut_mono (hsub _ _ _) (Sk.le_rf _) (ho t ht)
    refine safeN_two.2 ⟨fun e => ?_, k, by rw [hns]; exact hk, ho2⟩
    have hin := blkR_none_iff.1 e k (by rw [hns]; exact hk)
    unfold outB at ho2
    rw [List.all_eq_true] at ho2
    have hle : m + r2.st i k 2 ≤ m + r2.st i k 3 := by rw [hst]; exact Nat.add_le_add_left (st_lohi r hN i k) m
    have hmem := hrsL_ne hle r2.hours
    have a1 := hin _ hmem
    have a2 := skOut_not (hgood _ _ _) (ho2 _ hmem)
    unfold insB at a1
    rw [a1] at a2
    cases a2
  · exact .inl ⟨h3, hc2⟩
/-- the copy of a release, with one more front -/
def Rl.add (r : Rl) (ff : Nat → Int) (gE capE gS capS : Nat) (aH : Option Addr) (cH : Nat) (aF : Option Addr) (cF : Nat) : Rl := { r with k := r.k + 1, f := addF r.f r.k ff, ea := some ⟨gE, 0, none⟩, ec := capE, sa := some ⟨gS, 0, none⟩, sc := capS, ha := aH, hc := cH, fa := aF, fc := cF }
theorem known_none {s s' : Sk} (h : s'.le s) (hn : skNone s' = false) : skNone s = false := by
  cases e : skNone s
  · rfl
  · rw [skNone_iff] at e
    have : skNone s' = true := by
      rw [skNone_iff]
      unfold Sk.le at h
      omega
    rw [this] at hn
    cases hn
theorem good_all {r : Rl} (hg : r.goodB = true) (x y t : Int) : skNone ((r.S x y t).getD skAny) = false := by
  have h := r.good_iff.1 hg
  unfold Rl.good at h
  cases e : r.S x y t with
  | none => rfl
  | some s => exact h x y t s e
section
variable (north cols lofts wrong bx bY sl sh lw lg lh hours dark : Int) (east : List Int) (svs : List Sv) (n k : Nat) (h f : Nat → Nat → Int) (ea sa ha fa : Option Addr) (ec sc hc fc : Nat) (w : World)
set_option maxRecDepth 100000 in
set_option maxHeartbeats 4000000 in
theorem MoreLaw_any (L : Laid east svs n k h f ea sa ha fa w) (hcap : (sa = none → sc = 0) ∧ ((ha = none → hc = 0) ∧ n ≤ hc) ∧ (fa = none → fc = 0) ∧ k ≤ fc) (ff : Nat → Int) (home minute to px py hr : Int) (hto : -9223372036854775808 ≤ to ∧ to ≤ 9223372036854775807) : Calls Try.prog 6 #[.agg #[.int .i64 north, .int .i64 cols, .slice ea east.length ec, .int .i64 lofts, .slice sa svs.length sc, .int .i64 wrong, .int .i64 bx, .int .i64 bY, .slice ha n hc, .int .i64 sl, .int .i64 sh, .slice fa k fc, .int .i64 lw, .int .i64 lg, .int .i64 lh, .int .i64 hours, .int .i64 dark], .agg #[.int .i64 (ff 0), .int .i64 (ff 1), .int .i64 (ff 2), .int .i64 (ff 3), .int .i64 (ff 4), .int .i64 (ff 5), .int .i64 (ff 6), .int .i64 (ff 7), .int .i64 (ff 8), .int .i64 (ff 9), .int .i64 (ff 10), .int .i64 (ff 11)], .agg #[.int .i64 home, .int .i64 minute, .int .i64 to, .int .i64 px, .int .i64 py, .int .i64 hr]] w fun e w' => e = .returned (.bool true) ∧ G w w' := by
  have hV := fun (W : World) (hW : G w W) => valid_any north cols lofts wrong bx bY sl sh lw lg lh hours dark east svs n k h f ea sa ha fa ec sc hc fc W (L.keep hW) home minute
  by_cases hp : (COk north cols lofts wrong bx bY sl sh lw lg lh hours dark east svs n k h f ∧ (0 ≤ home ∧ home < n) ∧ (0 : Int) ≤ minute ∧ minute ≤ (9999 : Int)) ∧ ¬ OffM k minute to
  · obtain ⟨hp, hoff⟩ := hp
    obtain ⟨r, hv, hok, hrn, hrk, hre⟩ := to_Rl north cols lofts wrong bx bY sl sh lw lg lh hours dark east svs n k h f ea sa ha fa ec sc hc fc w L hp.1
    have hcaps : r.caps := caps_of hv hcap
    unfold OffM OffE at hoff
    obtain ⟨i, rfl⟩ : ∃ i : Nat, home = i := ⟨home.toNat, by omega⟩
    obtain ⟨m, rfl⟩ : ∃ m : Nat, minute = m := ⟨minute.toNat, by omega⟩
    obtain ⟨b, rfl⟩ : ∃ b : Nat, to = b := ⟨to.toNat, by omega⟩
    rw [← hv] at hV ⊢
    have hi : i < r.n := by omega
    have hN := hok.nums
    have hl2 := (checkE_zero hok.hk).2.1
    obtain ⟨r2, hr2⟩ : ∃ r2, r2 = r.add ff 0 0 0 0 none 0 none 0 := ⟨_, rfl⟩
    have hadd : ∀ x y t, ((r2.S x y t).getD skAny).le ((r.S x y t).getD skAny) := fun x y t => by
      rw [hr2]
      show ((SD (addF r.f r.k ff) (r.k + 1) r.cols r.east.length r.hours r.east.length 0 0 x y t).getD skAny).le ((SD r.f r.k r.cols r.east.length r.hours r.east.length 0 0 x y t).getD skAny)
      unfold SD
      split
      · refine known_sub fun i hi => ⟨i, by omega, ?_⟩
        funext j
        unfold addF
        rw [if_pos hi]
      · exact Sk.le_rf _
    have hN2 : r2.Nums := by
      rw [hr2]
      exact ⟨hN.cols, hN.rows, hN.base, hN.homes, hN.many, hN.speed, hN.hours, hN.dark, hN.lims⟩
    have hlight : ∀ m, lightB r2 m = lightB r m := fun m => by rw [hr2]; rfl
    have hcmp := fun hg i m => safe_more hN hadd (good_all hg) (by rw [hr2]; rfl) (fun i => by rw [hr2]; rfl) (by rw [hr2]; rfl) (fun i => by rw [hr2]; rfl) i m
    have hgg : r2.err = 0 → r2.goodB = true := fun h0 => by
      unfold Rl.err at h0
      cases e : r2.goodB
      · rw [e] at h0; cases h0
      · rfl
    have hgr : r2.goodB = true → r.err = 0 := fun hg => by
      have : r.goodB = true := by
        rw [r.good_iff]
        intro x y t s hs
        have h1 := known_none (hadd x y t) (good_all hg x y t)
        rw [show r.S x y t = some s from hs] at h1
        exact h1
      unfold Rl.err
      rw [this]; rfl
    refine More_walk r.v (fun gE capE gS capS aH cH aF cF => (r.cpy r.lw r.lg r.lh gE capE gS capS aH cH aF cF).v) (fun gE capE gS capS aH cH aF cF => (r.add ff gE capE gS capS aH cH aF cF).v)
      (COk r.north (r.cols : Nat) (r.lofts : Nat) r.wrong (r.bx : Nat) (r.bY : Nat) (r.sl : Nat) (r.sh : Nat) r.lw r.lg r.lh (r.hours : Nat) (r.dark : Nat) r.east r.svs r.n (r.k + 1) r.h (addF r.f r.k ff)) r.east r.svs r.n r.k r.h r.f ff r.fa r.fc i m b px py hr r.err r2.err (if r.err = 0 then r.safe i m else 0) (if r2.err = 0 then r2.safe i m else 0) (if r.err = 0 then (firstR (flyB r) m (b + 1 - m)).1 else 0) (if r.err = 0 then (firstR (flyB r) m (b + 1 - m)).2 else r.err) (if r2.err = 0 then (firstR (flyB r2) m (b + 1 - m)).1 else 0) (if r2.err = 0 then (firstR (flyB r2) m (b + 1 - m)).2 else r2.err) w (rIs r) (by omega) (by omega) (by omega) (by omega) rfl
      (fun gE capE gS capS aH cH aF cF => rIs _) (fun gE capE gS capS aH cH aF cF => rfl) (fun gE capE gS capS aH cH aF cF a2 c2 => rfl) (fun gE capE gS capS aH cH aF cF => rIs _)
      (fun W hW => (hV W hW).mono fun e w' hh => by obtain ⟨b, h1, _, h2⟩ := hh; exact ⟨b, h1, h2⟩) (fun W hW => ?_) (fun W w0 gE capE curE gS capS curS aH cH xH BH aF cF xF BF hW hcp => ?_) (fun W hW => rS (hok.keep hW) hi (by omega)) (fun hPO W w0 gE capE curE gS capS curS aH cH xH BH aF cF xF BF hW hcp => ?_) (fun W hW => rF (hok.keep hW) (by omega) (by omega)) (fun hPO W w0 gE capE curE gS capS curS aH cH xH BH aF cF xF BF hW hcp => ?_) (fun hPO => ?_)
    · have h := hok.keep hW
      exact rCopy_any r.north (r.cols : Nat) (r.lofts : Nat) r.wrong (r.bx : Nat) (r.bY : Nat) (r.sl : Nat) (r.sh : Nat) r.lw r.lg r.lh (r.hours : Nat) (r.dark : Nat) r.east r.svs r.n r.k r.h r.f r.ea r.sa r.ha r.fa r.ec r.sc r.hc r.fc W h.he h.hs h.hH h.hF (by have := hN.base; omega) (by have := hN.rows; omega) (by omega) (by have := hN.many; omega) (by have := hok.hk12; omega) hcaps.1 hcaps.2.1 hcaps.2.2
    · exact refCheck_any r.north (r.cols : Nat) (r.lofts : Nat) r.wrong (r.bx : Nat) (r.bY : Nat) (r.sl : Nat) (r.sh : Nat) r.lw r.lg r.lh (r.hours : Nat) (r.dark : Nat) r.east r.svs r.n (r.k + 1) r.h (addF r.f r.k ff) (some ⟨gE, 0, none⟩) (some ⟨gS, 0, none⟩) aH aF capE capS cH cF W hcp.ints hcp.svsAt (by have := hN.rows; omega) (by omega) hcp.homes (by have := hN.many; omega) hcp.fronts
    · obtain ⟨⟨hk, hr'⟩, hk12, hfo⟩ := hPO
      have ho : (r.add ff gE capE gS capS aH cH aF cF).Ok W := ⟨hcp.ints, hcp.svsAt, hk, hr', hcp.homes, hcp.fronts, hk12, hfo⟩
      rw [hr2]
      exact rS ho hi (by omega)
    · obtain ⟨⟨hk, hr'⟩, hk12, hfo⟩ := hPO
      have ho : (r.add ff gE capE gS capS aH cH aF cF).Ok W := ⟨hcp.ints, hcp.svsAt, hk, hr', hcp.homes, hcp.fronts, hk12, hfo⟩
      rw [hr2]
      exact rF ho (by omega) (by omega)
    · rcases err_cases r2 with h0 | h3
      · have hg := hgg h0
        have h1 := hgr hg
        refine .inr ⟨h0, h1, ?_⟩
        simp only [h0, h1, if_true]
        refine ⟨(hcmp hg i m).2, first_cmp m b fun m hm => ?_⟩
        rw [fly_iff hN] at hm
        rw [fly_iff hN2, hlight]
        exact ⟨hm.1, fun j hj => (hcmp hg j m).1 (hm.2 j (by rw [hr2] at hj; exact hj))⟩
      · exact .inl h3
  · refine MoreOut_walk #[.int .i64 north, .int .i64 cols, .slice ea east.length ec, .int .i64 lofts, .slice sa svs.length sc, .int .i64 wrong, .int .i64 bx, .int .i64 bY, .slice ha n hc, .int .i64 sl, .int .i64 sh, .slice fa k fc, .int .i64 lw, .int .i64 lg, .int .i64 lh, .int .i64 hours, .int .i64 dark] k fa fc ff home minute to px py hr w isRelV rfl hto (fun W hW => (hV W hW).mono fun e w' hh => ?_)
    obtain ⟨b, h1, h2, h3⟩ := hh
    refine ⟨b, h1, fun hb => ?_, h3⟩
    have h4 := h2 hb
    exact ⟨h4.2.2, Classical.byContradiction fun hno => hp ⟨h4, hno⟩⟩
end
section
open Go.ChangeShapes Go.WideShapes Go.ChangeAt
variable {H : Type} {enc : TypeId × Value → H} {w : World}
set_option maxRecDepth 100000 in
/-- a front that is handed in -/
theorem front_val {v : Value} {d : DataW H} {p : List MemPlace} {r : Reach} {b0 : Nat} (hv : Value.okWide Try.prog w r b0 60 v) (h : DataW.Trod enc Try.prog w 0 (fun _ => true) true 60 v d p) :
    ∃ ff : Nat → Int, v = .agg #[.int .i64 (ff 0), .int .i64 (ff 1), .int .i64 (ff 2), .int .i64 (ff 3), .int .i64 (ff 4), .int .i64 (ff 5), .int .i64 (ff 6), .int .i64 (ff 7), .int .i64 (ff 8), .int .i64 (ff 9), .int .i64 (ff 10), .int .i64 (ff 11)] := by
  obtain ⟨cs, rfl, hsz⟩ := okWide_struct Try.underlying60 hv
  rw [k60] at hsz
  obtain ⟨l⟩ := cs
  obtain ⟨fuel, hf0⟩ := h
  obtain ⟨ff, hff⟩ := front_cells hf0
  simp [Value.cells] at hff
  match l, hsz with
  | [c0, c1, c2, c3, c4, c5, c6, c7, c8, c9, c10, c11], _ =>
    have h0 := hff 0 (by omega)
    have h1 := hff 1 (by omega)
    have h2 := hff 2 (by omega)
    have h3 := hff 3 (by omega)
    have h4 := hff 4 (by omega)
    have h5 := hff 5 (by omega)
    have h6 := hff 6 (by omega)
    have h7 := hff 7 (by omega)
    have h8 := hff 8 (by omega)
    have h9 := hff 9 (by omega)
    have h10 := hff 10 (by omega)
    have h11 := hff 11 (by omega)
    simp at h0 h1 h2 h3 h4 h5 h6 h7 h8 h9 h10 h11
    exact ⟨ff, by rw [h0, h1, h2, h3, h4, h5, h6, h7, h8, h9, h10, h11]⟩
end
end Go.Proofs.Ytcekdljjmfkacaa
