import Derived.Test.YtcekdljjmfkacaaGreatZr2
import Derived.Test.YtcekdljjmfkacaaGreatXf
set_option linter.unusedSimpArgs false
set_option linter.unusedVariables false
namespace Go.Proofs.YtcekdljjmfkacaaGreat
open Go.RowKit Go.Shelf
attribute [local go_sem] Oper.semAt_some wide_fn wide_dep wideR_fn wideR_dep
set_option maxRecDepth 100000 in
set_option maxHeartbeats 16000000 in
theorem WaysLaw_walk (REL : Array Value) (QQ : Array Value → World → Prop) (n k el sn N1 N2 hc fc : Nat) (home mi to px py hr ck zw zp zt s0 s1 s2 s3 s4 s5 : Int) (cw cp h f : Nat → Nat → Int) (ha fa : Option Addr) (w : World) (hIs : IsRel REL) (hN1 : N1 ≤ 1000) (hN2 : N2 ≤ 1000)
    (h8 : REL[8]? = some (.slice ha n hc)) (h11 : REL[11]? = some (.slice fa k fc)) (hRh : RowAt w ha n 2 h) (hRf : RowAt w fa k 12 f)
    (hFa : ∀ W, G w W → Calls Tryz.prog 6 #[.agg REL] W (FarRet W n k el sn))
    (hQk : ∀ RO W W', QQ RO W → G W W' → QQ RO W')
    (hQf : ∀ RO W, QQ RO W → ∃ ha' hc' fa' fc', RO[8]? = some (.slice ha' n hc') ∧ RowAt W ha' n 2 h ∧ RO[11]? = some (.slice fa' k fc') ∧ RowAt W fa' k 12 f)
    (hCp : (n ≤ 20 ∧ k ≤ 30 ∧ el ≤ 40 ∧ sn ≤ 60) → ∀ W, G w W → Calls Tryz.prog 8 #[.agg REL] W fun e w' => ∃ RO, e = .returned (.agg RO) ∧ IsRel RO ∧ G W w' ∧ QQ RO w')
    (hK1 : (n ≤ 20 ∧ k ≤ 30 ∧ el ≤ 40 ∧ sn ≤ 60) → ∀ W RO, G w W → QQ RO W → Calls Tryz.prog 9 #[.agg RO] W fun e w' => e = .returned (.int .i64 ck) ∧ G W w')
    (hK2 : (n ≤ 20 ∧ k ≤ 30 ∧ el ≤ 40 ∧ sn ≤ 60) → ∀ W, G w W → Calls Tryz.prog 10 #[.agg REL] W fun e w' => e = .returned (.int .i64 ck) ∧ G W w')
    (hW1 : (n ≤ 20 ∧ k ≤ 30 ∧ el ≤ 40 ∧ sn ≤ 60) → ∀ W RO, G w W → QQ RO W → Calls Tryz.prog 11 #[.agg RO, .int .i64 home] W fun e w' => ∃ ra rc, e = .returned (.tuple #[.slice ra N1 rc, .int .i64 zw]) ∧ RowAt w' ra N1 2 cw ∧ G W w')
    (hW2 : (n ≤ 20 ∧ k ≤ 30 ∧ el ≤ 40 ∧ sn ≤ 60) → ∀ W, G w W → Calls Tryz.prog 12 #[.agg REL, .int .i64 home] W fun e w' => ∃ ra rc, e = .returned (.tuple #[.slice ra N1 rc, .int .i64 zw]) ∧ RowAt w' ra N1 2 cw ∧ G W w')
    (hP1 : (n ≤ 20 ∧ k ≤ 30 ∧ el ≤ 40 ∧ sn ≤ 60) → ∀ W RO, G w W → QQ RO W → Calls Tryz.prog 13 #[.agg RO, .int .i64 home, .int .i64 mi] W fun e w' => ∃ ra rc, e = .returned (.tuple #[.slice ra N2 rc, .int .i64 zp]) ∧ RowAt w' ra N2 2 cp ∧ G W w')
    (hP2 : (n ≤ 20 ∧ k ≤ 30 ∧ el ≤ 40 ∧ sn ≤ 60) → ∀ W, G w W → Calls Tryz.prog 14 #[.agg REL, .int .i64 home, .int .i64 mi] W fun e w' => ∃ ra rc, e = .returned (.tuple #[.slice ra N2 rc, .int .i64 zp]) ∧ RowAt w' ra N2 2 cp ∧ G W w')
    (hT1 : (n ≤ 20 ∧ k ≤ 30 ∧ el ≤ 40 ∧ sn ≤ 60) → ∀ W RO, G w W → QQ RO W → Calls Tryz.prog 15 #[.agg RO, .agg #[.int .i64 px, .int .i64 py], .int .i64 hr] W fun e w' => e = .returned (.tuple #[.agg #[.int .i64 s0, .int .i64 s1, .int .i64 s2, .int .i64 s3, .int .i64 s4, .int .i64 s5], .int .i64 zt]) ∧ G W w')
    (hT2 : (n ≤ 20 ∧ k ≤ 30 ∧ el ≤ 40 ∧ sn ≤ 60) → ∀ W, G w W → Calls Tryz.prog 16 #[.agg REL, .agg #[.int .i64 px, .int .i64 py], .int .i64 hr] W fun e w' => e = .returned (.tuple #[.agg #[.int .i64 s0, .int .i64 s1, .int .i64 s2, .int .i64 s3, .int .i64 s4, .int .i64 s5], .int .i64 zt]) ∧ G W w') :
    Calls Tryz.prog 3 #[.agg REL, .agg #[.int .i64 home, .int .i64 mi, .int .i64 to, .int .i64 px, .int .i64 py, .int .i64 hr]] w fun e w' => e = .returned (.bool true) ∧ G w w' := by
  have HIS := Lib.hid hIs
  have HFA := Lib.hid hFa
  have HQK := Lib.hid hQk
  have HQF := Lib.hid hQf
  have HRH := Lib.hid hRh
  have HRF := Lib.hid hRf
  have HCP0 := Lib.hid hCp
  have HK10 := Lib.hid hK1
  have HK20 := Lib.hid hK2
  have HW10 := Lib.hid hW1
  have HW20 := Lib.hid hW2
  have HP10 := Lib.hid hP1
  have HP20 := Lib.hid hP2
  have HT10 := Lib.hid hT1
  have HT20 := Lib.hid hT2
  have HWK := Lib.hid (fun W : World => works_any W)
  clear hIs hFa hQk hQf hRh hRf hCp hK1 hK2 hW1 hW2 hP1 hP2 hT1 hT2
  have g0 : G w ((w.alloc (.cells REL 35)).alloc (.cells #[.int .i64 home, .int .i64 mi, .int .i64 to, .int .i64 px, .int .i64 py, .int .i64 hr] 37)) := ((G.rf _).a _).a _
  have b0 : Blk ((w.alloc (.cells REL 35)).alloc (.cells #[.int .i64 home, .int .i64 mi, .int .i64 to, .int .i64 px, .int .i64 py, .int .i64 hr] 37)) w.heap.size 35 REL := (Blk.new w 35 REL).keep ((G.rf _).a _)
  have c0 : Blk ((w.alloc (.cells REL 35)).alloc (.cells #[.int .i64 home, .int .i64 mi, .int .i64 to, .int .i64 px, .int .i64 py, .int .i64 hr] 37)) (w.heap.size + 1) 37 #[.int .i64 home, .int .i64 mi, .int .i64 to, .int .i64 px, .int .i64 py, .int .i64 hr] := Blk.new1 w _ 37 _
  go_enter Tryz.func3, Tryz.ntmps3
  go_upto_region 1 with fail
  change Code.wp _ _ _ _ ((w.alloc (.cells REL 35)).alloc (.cells #[.int .i64 home, .int .i64 mi, .int .i64 to, .int .i64 px, .int .i64 py, .int .i64 hr] 37))
  generalize (w.alloc (.cells REL 35)).alloc (.cells #[.int .i64 home, .int .i64 mi, .int .i64 to, .int .i64 px, .int .i64 py, .int .i64 hr] 37) = w1 at *
  refine wp_region_lit ?_
  refine wpList_load35 w.heap.size 2 HIS.out rfl rfl rfl b0 ?_
  try simp only [Act.put, List.getElem_toArray, List.getElem_cons_zero, List.getElem_cons_succ, List.setIfInBounds_toArray, List.set_cons_zero, List.set_cons_succ]
  refine wpList_plain rfl fun K hK => ?_
  go_simp
  refine (HFA.out _ g0).mono ?_
  rintro e w2 ⟨bb, rfl, hbd, hG2⟩
  refine hK _ _ ?_
  clear hK K
  try simp only [Act.put, List.getElem_toArray, List.getElem_cons_zero, List.getElem_cons_succ, List.setIfInBounds_toArray, List.set_cons_zero, List.set_cons_succ]
  clear HFA
  replace b0 := b0.keep hG2
  replace c0 := c0.keep hG2
  replace g0 := g0.t hG2
  clear hG2
  have lx := c0.lt
  cases bb
  case true =>
    go_wp2_with (go_at_call 7; refine (HWK.out _).mono ?_; rintro e w9 ⟨rfl, hG9⟩)
    go_ret
    exact ⟨rfl, g0.t hG9⟩
  have HBD := hbd rfl
  have HCP := Lib.hid (HCP0.out HBD)
  have HK1 := Lib.hid (HK10.out HBD)
  have HK2 := Lib.hid (HK20.out HBD)
  have HW1 := Lib.hid (HW10.out HBD)
  have HW2 := Lib.hid (HW20.out HBD)
  have HP1 := Lib.hid (HP10.out HBD)
  have HP2 := Lib.hid (HP20.out HBD)
  have HT1 := Lib.hid (HT10.out HBD)
  have HT2 := Lib.hid (HT20.out HBD)
  clear HCP0 HK10 HK20 HW10 HW20 HP10 HP20 HT10 HT20 hbd
  have hnk : n ≤ 1000 ∧ k ≤ 1000 := ⟨by omega, by omega⟩
  clear HBD
  go_upto_region 3 with fail
  clear lx
  refine wp_region_lit ?_
  refine wpList_load35 w.heap.size 2 HIS.out rfl rfl rfl b0 ?_
  try simp only [Act.put, List.getElem_toArray, List.getElem_cons_zero, List.getElem_cons_succ, List.setIfInBounds_toArray, List.set_cons_zero, List.set_cons_succ]
  refine wpList_plain rfl fun K hK => ?_
  go_simp
  refine (HCP.out _ g0).mono ?_
  rintro e w3 ⟨RO, rfl, hRO, hG3, hq⟩
  refine hK _ _ ?_
  clear hK K
  try simp only [Act.put, List.getElem_toArray, List.getElem_cons_zero, List.getElem_cons_succ, List.setIfInBounds_toArray, List.set_cons_zero, List.set_cons_succ]
  clear HCP
  replace b0 := b0.keep hG3
  replace c0 := c0.keep hG3
  replace g0 := g0.t hG3
  clear hG3
  have lgO := c0.lt
  obtain ⟨gO, hgO⟩ : ∃ gO, gO = w3.heap.size := ⟨_, rfl⟩
  have hz : Blk (w3.alloc (.cells #[.int .i64 0, .int .i64 0, .slice none 0 0, .int .i64 0, .slice none 0 0, .int .i64 0, .int .i64 0, .int .i64 0, .slice none 0 0, .int .i64 0, .int .i64 0, .slice none 0 0, .int .i64 0, .int .i64 0, .int .i64 0, .int .i64 0, .int .i64 0] 35)) w3.heap.size 35 #[.int .i64 0, .int .i64 0, .slice none 0 0, .int .i64 0, .slice none 0 0, .int .i64 0, .int .i64 0, .int .i64 0, .slice none 0 0, .int .i64 0, .int .i64 0, .slice none 0 0, .int .i64 0, .int .i64 0, .int .i64 0, .int .i64 0, .int .i64 0] := Blk.new _ _ _
  have ga : G w3 (w3.alloc (.cells #[.int .i64 0, .int .i64 0, .slice none 0 0, .int .i64 0, .slice none 0 0, .int .i64 0, .int .i64 0, .int .i64 0, .slice none 0 0, .int .i64 0, .int .i64 0, .slice none 0 0, .int .i64 0, .int .i64 0, .int .i64 0, .int .i64 0, .int .i64 0] 35)) := (G.rf _).a _
  refine wpList_plain rfl fun K hK => ?_
  go_simp
  refine hK _ _ ?_
  clear hK
  try simp only [Act.put, List.getElem_toArray, List.getElem_cons_zero, List.getElem_cons_succ, List.setIfInBounds_toArray, List.set_cons_zero, List.set_cons_succ]
  rw [← hgO] at hz lgO ⊢
  have hg3 : w3.heap.size ≤ gO := Nat.le_of_eq hgO.symm
  clear hgO
  refine wpList_plain rfl fun K hK => ?_
  refine wp_store46 gO 5 22 (OLD := #[.int .i64 0, .int .i64 0, .slice none 0 0, .int .i64 0, .slice none 0 0, .int .i64 0, .int .i64 0, .int .i64 0, .slice none 0 0, .int .i64 0, .int .i64 0, .slice none 0 0, .int .i64 0, .int .i64 0, .int .i64 0, .int .i64 0, .int .i64 0]) (REL := RO) ⟨_, _, _, _, _, _, _, _, _, _, _, _, _, _, _, _, _, _, _, _, _, _, _, _, _, rfl⟩ hRO rfl rfl rfl hz fun W2 hB2 hF2 hG2 => ?_
  refine hK _ _ ?_
  have g32 := hG2 w3 hg3 ga
  clear hF2 hG2 hK hz ga
  try simp only [Act.put, List.getElem_toArray, List.getElem_cons_zero, List.getElem_cons_succ, List.setIfInBounds_toArray, List.set_cons_zero, List.set_cons_succ]
  replace b0 := b0.keep g32
  replace c0 := c0.keep g32
  replace g0 := g0.t g32
  replace hq := HQK.out _ _ _ hq g32
  clear g32 hg3
  have bO := hB2
  clear hB2
  have HRO := Lib.hid hRO
  clear hRO
  obtain ⟨wc, rfl⟩ : ∃ wc, wc = W2 := ⟨_, rfl⟩
  go_upto_region 4 with fail
  have hSk : ∀ W', G wc W' → (Blk W' w.heap.size 35 REL ∧ Blk W' gO 35 RO) := fun W' hW => ⟨b0.keep hW, bO.keep hW⟩
  refine wp_region_Y (S := fun W' => Blk W' w.heap.size 35 REL ∧ Blk W' gO 35 RO) 4 5 rfl (by kernel_rfl) (hSk _ (G.rf _).d) (fun hS => ?_)
  have ga := (G.rf wc).d
  refine wpAnyY_take (i := 0) (v := .agg RO) rfl (by kernel_rfl) (by kernel_rfl) (by kernel_rfl) (by kernel_rfl) (fun _ _ _ h => h) (Or.inl ⟨by kernel_rfl, ?_⟩) hS ?_
  · intro w' hSw; exact load46o w' gO 5 HRO.out _ _ rfl (by kernel_rfl) hSw.2
  try simp only [Act.put, List.getElem_toArray, List.getElem_cons_zero, List.getElem_cons_succ, List.setIfInBounds_toArray, List.set_cons_zero, List.set_cons_succ]
  refine wpAnyY_take (i := 2) (v := .agg REL) rfl (by kernel_rfl) (by kernel_rfl) (by kernel_rfl) (by kernel_rfl) (fun _ _ _ h => h) (Or.inl ⟨by kernel_rfl, ?_⟩) hS ?_
  · intro w' hSw; exact load46o w' w.heap.size 2 HIS.out _ _ rfl (by kernel_rfl) hSw.1
  try simp only [Act.put, List.getElem_toArray, List.getElem_cons_zero, List.getElem_cons_succ, List.setIfInBounds_toArray, List.set_cons_zero, List.set_cons_succ]
  refine wpAnyY_oneSW (i := 1) (by kernel_rfl) rfl (by kernel_rfl) (fun K1 hK1 => ?_)
  go_simp
  refine (HK1.out _ _ (g0.t ga) (HQK.out _ _ _ hq ga)).mono ?_
  rintro e w4 ⟨rfl, hG4⟩
  replace ga := ga.t hG4
  refine hK1.out _ _ (hSk _ ga) (fun hS => ?_)
  clear hK1
  try simp only [Act.put, List.getElem_toArray, List.getElem_cons_zero, List.getElem_cons_succ, List.setIfInBounds_toArray, List.set_cons_zero, List.set_cons_succ]
  refine wpAnyY_oneSW (i := 3) (by kernel_rfl) rfl (by kernel_rfl) (fun K3 hK3 => ?_)
  go_simp
  refine (HK2.out _ (g0.t ga)).mono ?_
  rintro e w5 ⟨rfl, hG5⟩
  replace ga := ga.t hG5
  refine hK3.out _ _ (hSk _ ga) (fun hS => ?_)
  clear hK3
  try simp only [Act.put, List.getElem_toArray, List.getElem_cons_zero, List.getElem_cons_succ, List.setIfInBounds_toArray, List.set_cons_zero, List.set_cons_succ]
  refine wpAnyY_oneW (i := 4) (by kernel_rfl) rfl (by kernel_rfl) (by kernel_rfl) (fun K4 hK4 => ?_)
  go_simp
  refine hK4.out _ _ ?_
  clear hK4
  try simp only [Act.put, List.getElem_toArray, List.getElem_cons_zero, List.getElem_cons_succ, List.setIfInBounds_toArray, List.set_cons_zero, List.set_cons_succ]
  refine wpAnyY_done (by kernel_rfl) ?_ _
  clear hS hSk
  replace hq := HQK.out _ _ _ hq ga
  replace b0 := b0.keep ga
  replace c0 := c0.keep ga
  replace bO := bO.keep ga
  replace g0 := g0.t ga
  clear ga HK1 HK2

  obtain ⟨wc, rfl⟩ : ∃ wc, wc = w5 := ⟨_, rfl⟩
  go_upto_region 6 with fail
  have x0 : wc.cell? ⟨w.heap.size + 1, 0, none⟩ = some (.int .i64 home) := c0.cell 0
  have lx := c0.lt
  refine wp_region_lit ?_
  refine wpList_load35 gO 5 HRO.out rfl rfl rfl bO ?_
  try simp only [Act.put, List.getElem_toArray, List.getElem_cons_zero, List.getElem_cons_succ, List.setIfInBounds_toArray, List.set_cons_zero, List.set_cons_succ]
  go_upto_region 7 with (go_at_call 11; refine (HW1.out _ _ g0 hq).mono ?_; rintro e wn ⟨r1, q1, rfl, hr1, hGn⟩)
  clear x0 lx
  replace b0 := b0.keep hGn
  replace c0 := c0.keep hGn
  replace bO := bO.keep hGn
  replace g0 := g0.t hGn
  replace hq := HQK.out _ _ _ hq hGn
  clear hGn
  obtain ⟨wc, rfl⟩ : ∃ wc, wc = wn := ⟨_, rfl⟩
  have x0 : wc.cell? ⟨w.heap.size + 1, 0, none⟩ = some (.int .i64 home) := c0.cell 0
  have lx := c0.lt
  refine wp_region_lit ?_
  refine wpList_load35 w.heap.size 2 HIS.out rfl rfl rfl b0 ?_
  try simp only [Act.put, List.getElem_toArray, List.getElem_cons_zero, List.getElem_cons_succ, List.setIfInBounds_toArray, List.set_cons_zero, List.set_cons_succ]
  go_upto_region 8 with (go_at_call 12; refine (HW2.out _ g0).mono ?_; rintro e wn ⟨r2, q2, rfl, hr2, hGn⟩)
  clear x0 lx
  replace b0 := b0.keep hGn
  replace c0 := c0.keep hGn
  replace bO := bO.keep hGn
  replace g0 := g0.t hGn
  replace hq := HQK.out _ _ _ hq hGn
  replace hr1 := hr1.below hGn
  clear hGn
  obtain ⟨wc, rfl⟩ : ∃ wc, wc = wn := ⟨_, rfl⟩
  have x0 : wc.cell? ⟨w.heap.size + 1, 0, none⟩ = some (.int .i64 home) := c0.cell 0
  have x1 : wc.cell? ⟨w.heap.size + 1, 1, none⟩ = some (.int .i64 mi) := c0.cell 1
  have lx := c0.lt
  refine wp_region_lit ?_
  refine wpList_load35 gO 5 HRO.out rfl rfl rfl bO ?_
  try simp only [Act.put, List.getElem_toArray, List.getElem_cons_zero, List.getElem_cons_succ, List.setIfInBounds_toArray, List.set_cons_zero, List.set_cons_succ]
  go_upto_region 9 with (go_at_call 13; refine (HP1.out _ _ g0 hq).mono ?_; rintro e wn ⟨r3, q3, rfl, hr3, hGn⟩)
  clear x0 x1 lx
  replace b0 := b0.keep hGn
  replace c0 := c0.keep hGn
  replace bO := bO.keep hGn
  replace g0 := g0.t hGn
  replace hq := HQK.out _ _ _ hq hGn
  replace hr1 := hr1.below hGn
  replace hr2 := hr2.below hGn
  clear hGn
  obtain ⟨wc, rfl⟩ : ∃ wc, wc = wn := ⟨_, rfl⟩
  have x0 : wc.cell? ⟨w.heap.size + 1, 0, none⟩ = some (.int .i64 home) := c0.cell 0
  have x1 : wc.cell? ⟨w.heap.size + 1, 1, none⟩ = some (.int .i64 mi) := c0.cell 1
  have lx := c0.lt
  refine wp_region_lit ?_
  refine wpList_load35 w.heap.size 2 HIS.out rfl rfl rfl b0 ?_
  try simp only [Act.put, List.getElem_toArray, List.getElem_cons_zero, List.getElem_cons_succ, List.setIfInBounds_toArray, List.set_cons_zero, List.set_cons_succ]
  go_upto_region 10 with (go_at_call 14; refine (HP2.out _ g0).mono ?_; rintro e wn ⟨r4, q4, rfl, hr4, hGn⟩)
  clear x0 x1 lx
  replace b0 := b0.keep hGn
  replace c0 := c0.keep hGn
  replace bO := bO.keep hGn
  replace g0 := g0.t hGn
  replace hq := HQK.out _ _ _ hq hGn
  replace hr1 := hr1.below hGn
  replace hr2 := hr2.below hGn
  replace hr3 := hr3.below hGn
  clear hGn
  obtain ⟨wc, rfl⟩ : ∃ wc, wc = wn := ⟨_, rfl⟩
  have x3 : wc.cell? ⟨w.heap.size + 1, 3, none⟩ = some (.int .i64 px) := c0.cell 3
  have x4 : wc.cell? ⟨w.heap.size + 1, 4, none⟩ = some (.int .i64 py) := c0.cell 4
  have x5 : wc.cell? ⟨w.heap.size + 1, 5, none⟩ = some (.int .i64 hr) := c0.cell 5
  have lx := c0.lt
  refine wp_region_lit ?_
  refine wpList_load35 gO 5 HRO.out rfl rfl rfl bO ?_
  try simp only [Act.put, List.getElem_toArray, List.getElem_cons_zero, List.getElem_cons_succ, List.setIfInBounds_toArray, List.set_cons_zero, List.set_cons_succ]
  go_upto_region 11 with (go_at_call 15; refine (HT1.out _ _ g0 hq).mono ?_; rintro e wn ⟨rfl, hGn⟩)
  clear x3 x4 x5 lx
  have gX : G wn (wn.alloc (.cells #[.int .i64 s0, .int .i64 s1, .int .i64 s2, .int .i64 s3, .int .i64 s4, .int .i64 s5] 49)) := (G.rf _).a _
  have S1 : Blk (wn.alloc (.cells #[.int .i64 s0, .int .i64 s1, .int .i64 s2, .int .i64 s3, .int .i64 s4, .int .i64 s5] 49)) wn.heap.size 49 #[.int .i64 s0, .int .i64 s1, .int .i64 s2, .int .i64 s3, .int .i64 s4, .int .i64 s5] := Blk.new _ _ _
  replace hGn := hGn.t gX
  clear gX
  obtain ⟨gS1, hgS1⟩ : ∃ g, g = wn.heap.size := ⟨_, rfl⟩
  rw [← hgS1] at S1 ⊢
  clear hgS1
  generalize wn.alloc (.cells #[.int .i64 s0, .int .i64 s1, .int .i64 s2, .int .i64 s3, .int .i64 s4, .int .i64 s5] 49) = wd at *
  replace b0 := b0.keep hGn
  replace c0 := c0.keep hGn
  replace bO := bO.keep hGn
  replace g0 := g0.t hGn
  replace hq := HQK.out _ _ _ hq hGn
  replace hr1 := hr1.below hGn
  replace hr2 := hr2.below hGn
  replace hr3 := hr3.below hGn
  replace hr4 := hr4.below hGn
  clear hGn
  obtain ⟨wc, rfl⟩ : ∃ wc, wc = wd := ⟨_, rfl⟩
  have x3 : wc.cell? ⟨w.heap.size + 1, 3, none⟩ = some (.int .i64 px) := c0.cell 3
  have x4 : wc.cell? ⟨w.heap.size + 1, 4, none⟩ = some (.int .i64 py) := c0.cell 4
  have x5 : wc.cell? ⟨w.heap.size + 1, 5, none⟩ = some (.int .i64 hr) := c0.cell 5
  have lx := c0.lt
  refine wp_region_lit ?_
  refine wpList_load35 w.heap.size 2 HIS.out rfl rfl rfl b0 ?_
  try simp only [Act.put, List.getElem_toArray, List.getElem_cons_zero, List.getElem_cons_succ, List.setIfInBounds_toArray, List.set_cons_zero, List.set_cons_succ]
  go_upto_region 12 with (go_at_call 16; refine (HT2.out _ g0).mono ?_; rintro e wn ⟨rfl, hGn⟩)
  clear x3 x4 x5 lx
  have gX : G wn (wn.alloc (.cells #[.int .i64 s0, .int .i64 s1, .int .i64 s2, .int .i64 s3, .int .i64 s4, .int .i64 s5] 49)) := (G.rf _).a _
  have S2 : Blk (wn.alloc (.cells #[.int .i64 s0, .int .i64 s1, .int .i64 s2, .int .i64 s3, .int .i64 s4, .int .i64 s5] 49)) wn.heap.size 49 #[.int .i64 s0, .int .i64 s1, .int .i64 s2, .int .i64 s3, .int .i64 s4, .int .i64 s5] := Blk.new _ _ _
  replace hGn := hGn.t gX
  clear gX
  obtain ⟨gS2, hgS2⟩ : ∃ g, g = wn.heap.size := ⟨_, rfl⟩
  rw [← hgS2] at S2 ⊢
  clear hgS2
  generalize wn.alloc (.cells #[.int .i64 s0, .int .i64 s1, .int .i64 s2, .int .i64 s3, .int .i64 s4, .int .i64 s5] 49) = wd at *
  replace b0 := b0.keep hGn
  replace c0 := c0.keep hGn
  replace bO := bO.keep hGn
  replace g0 := g0.t hGn
  replace hq := HQK.out _ _ _ hq hGn
  replace hr1 := hr1.below hGn
  replace hr2 := hr2.below hGn
  replace hr3 := hr3.below hGn
  replace hr4 := hr4.below hGn
  replace S1 := S1.keep hGn
  clear hGn
  obtain ⟨wc, rfl⟩ : ∃ wc, wc = wd := ⟨_, rfl⟩
  obtain ⟨ha', hc', fa', fc', r8, rH, r11, rF⟩ := HQF.out _ _ hq
  have HH1 := Lib.hid (fun (W : World) (hW : G wc W) => samePoints_any r1 r2 q1 q2 N1 cw W (hr1.below hW) (hr2.below hW) hN1)
  have HH2 := Lib.hid (fun (W : World) (hW : G wc W) => sameSpans_any r3 r4 q3 q4 N2 cp W (hr3.below hW) (hr4.below hW) hN2)
  have HH3 := Lib.hid (fun (W : World) (hW : G wc W) => samePoints_any ha' ha hc' hc n h W (rH.below hW) (HRH.out.below (g0.t hW)) hnk.1)
  have HH4 := Lib.hid (fun (W : World) (hW : G wc W) => sameFronts_any fa' fa fc' fc k f W (rF.below hW) (HRF.out.below (g0.t hW)) hnk.2)
  have heq := fun W : World => eq49 s0 s1 s2 s3 s4 s5 W
  have gk : G wc wc := G.rf _
  clear HW1 HW2 HP1 HP2 HT1 HT2 hq hr1 hr2 hr3 hr4 rH rF HQF HRH HRF HQK HIS HRO c0
  have u0 : wc.cell? ⟨gS1, 0, none⟩ = some (.int .i64 s0) := S1.cell 0
  have u1 : wc.cell? ⟨gS1, 1, none⟩ = some (.int .i64 s1) := S1.cell 1
  have u2 : wc.cell? ⟨gS1, 2, none⟩ = some (.int .i64 s2) := S1.cell 2
  have u3 : wc.cell? ⟨gS1, 3, none⟩ = some (.int .i64 s3) := S1.cell 3
  have u4 : wc.cell? ⟨gS1, 4, none⟩ = some (.int .i64 s4) := S1.cell 4
  have u5 : wc.cell? ⟨gS1, 5, none⟩ = some (.int .i64 s5) := S1.cell 5
  have v0 : wc.cell? ⟨gS2, 0, none⟩ = some (.int .i64 s0) := S2.cell 0
  have v1 : wc.cell? ⟨gS2, 1, none⟩ = some (.int .i64 s1) := S2.cell 1
  have v2 : wc.cell? ⟨gS2, 2, none⟩ = some (.int .i64 s2) := S2.cell 2
  have v3 : wc.cell? ⟨gS2, 3, none⟩ = some (.int .i64 s3) := S2.cell 3
  have v4 : wc.cell? ⟨gS2, 4, none⟩ = some (.int .i64 s4) := S2.cell 4
  have v5 : wc.cell? ⟨gS2, 5, none⟩ = some (.int .i64 s5) := S2.cell 5
  have o8 := (bO.cell 8).trans r8
  have o11 := (bO.cell 11).trans r11
  have p8 := (b0.cell 8).trans h8
  have p11 := (b0.cell 11).trans h11
  have lo := bO.lt
  have lb := b0.lt
  have l1 := S1.lt
  have l2 := S2.lt
  go_wp2_with (first | (go_at_call 17; refine (HH1.out _ gk).mono ?_; rintro e w11 ⟨rfl, hG11⟩; clear HH1; clear u0 u1 u2 u3 u4 u5 v0 v1 v2 v3 v4 v5 o8 o11 p8 p11 lo lb l1 l2; replace gk := gk.t hG11; replace b0 := b0.keep hG11; replace bO := bO.keep hG11; replace S1 := S1.keep hG11; replace S2 := S2.keep hG11; clear hG11; have u0 : w11.cell? ⟨gS1, 0, none⟩ = some (.int .i64 s0) := S1.cell 0; have u1 : w11.cell? ⟨gS1, 1, none⟩ = some (.int .i64 s1) := S1.cell 1; have u2 : w11.cell? ⟨gS1, 2, none⟩ = some (.int .i64 s2) := S1.cell 2; have u3 : w11.cell? ⟨gS1, 3, none⟩ = some (.int .i64 s3) := S1.cell 3; have u4 : w11.cell? ⟨gS1, 4, none⟩ = some (.int .i64 s4) := S1.cell 4; have u5 : w11.cell? ⟨gS1, 5, none⟩ = some (.int .i64 s5) := S1.cell 5; have v0 : w11.cell? ⟨gS2, 0, none⟩ = some (.int .i64 s0) := S2.cell 0; have v1 : w11.cell? ⟨gS2, 1, none⟩ = some (.int .i64 s1) := S2.cell 1; have v2 : w11.cell? ⟨gS2, 2, none⟩ = some (.int .i64 s2) := S2.cell 2; have v3 : w11.cell? ⟨gS2, 3, none⟩ = some (.int .i64 s3) := S2.cell 3; have v4 : w11.cell? ⟨gS2, 4, none⟩ = some (.int .i64 s4) := S2.cell 4; have v5 : w11.cell? ⟨gS2, 5, none⟩ = some (.int .i64 s5) := S2.cell 5; have o8 := (bO.cell 8).trans r8; have o11 := (bO.cell 11).trans r11; have p8 := (b0.cell 8).trans h8; have p11 := (b0.cell 11).trans h11; have lo := bO.lt; have lb := b0.lt; have l1 := S1.lt; have l2 := S2.lt) | (go_at_call 18; refine (HH2.out _ gk).mono ?_; rintro e w12 ⟨rfl, hG12⟩; clear HH2; clear u0 u1 u2 u3 u4 u5 v0 v1 v2 v3 v4 v5 o8 o11 p8 p11 lo lb l1 l2; replace gk := gk.t hG12; replace b0 := b0.keep hG12; replace bO := bO.keep hG12; replace S1 := S1.keep hG12; replace S2 := S2.keep hG12; clear hG12; have u0 : w12.cell? ⟨gS1, 0, none⟩ = some (.int .i64 s0) := S1.cell 0; have u1 : w12.cell? ⟨gS1, 1, none⟩ = some (.int .i64 s1) := S1.cell 1; have u2 : w12.cell? ⟨gS1, 2, none⟩ = some (.int .i64 s2) := S1.cell 2; have u3 : w12.cell? ⟨gS1, 3, none⟩ = some (.int .i64 s3) := S1.cell 3; have u4 : w12.cell? ⟨gS1, 4, none⟩ = some (.int .i64 s4) := S1.cell 4; have u5 : w12.cell? ⟨gS1, 5, none⟩ = some (.int .i64 s5) := S1.cell 5; have v0 : w12.cell? ⟨gS2, 0, none⟩ = some (.int .i64 s0) := S2.cell 0; have v1 : w12.cell? ⟨gS2, 1, none⟩ = some (.int .i64 s1) := S2.cell 1; have v2 : w12.cell? ⟨gS2, 2, none⟩ = some (.int .i64 s2) := S2.cell 2; have v3 : w12.cell? ⟨gS2, 3, none⟩ = some (.int .i64 s3) := S2.cell 3; have v4 : w12.cell? ⟨gS2, 4, none⟩ = some (.int .i64 s4) := S2.cell 4; have v5 : w12.cell? ⟨gS2, 5, none⟩ = some (.int .i64 s5) := S2.cell 5; have o8 := (bO.cell 8).trans r8; have o11 := (bO.cell 11).trans r11; have p8 := (b0.cell 8).trans h8; have p11 := (b0.cell 11).trans h11; have lo := bO.lt; have lb := b0.lt; have l1 := S1.lt; have l2 := S2.lt) | (go_at_call 17; refine (HH3.out _ gk).mono ?_; rintro e w13 ⟨rfl, hG13⟩; clear HH3; clear u0 u1 u2 u3 u4 u5 v0 v1 v2 v3 v4 v5 o8 o11 p8 p11 lo lb l1 l2; replace gk := gk.t hG13; replace b0 := b0.keep hG13; replace bO := bO.keep hG13; replace S1 := S1.keep hG13; replace S2 := S2.keep hG13; clear hG13; have u0 : w13.cell? ⟨gS1, 0, none⟩ = some (.int .i64 s0) := S1.cell 0; have u1 : w13.cell? ⟨gS1, 1, none⟩ = some (.int .i64 s1) := S1.cell 1; have u2 : w13.cell? ⟨gS1, 2, none⟩ = some (.int .i64 s2) := S1.cell 2; have u3 : w13.cell? ⟨gS1, 3, none⟩ = some (.int .i64 s3) := S1.cell 3; have u4 : w13.cell? ⟨gS1, 4, none⟩ = some (.int .i64 s4) := S1.cell 4; have u5 : w13.cell? ⟨gS1, 5, none⟩ = some (.int .i64 s5) := S1.cell 5; have v0 : w13.cell? ⟨gS2, 0, none⟩ = some (.int .i64 s0) := S2.cell 0; have v1 : w13.cell? ⟨gS2, 1, none⟩ = some (.int .i64 s1) := S2.cell 1; have v2 : w13.cell? ⟨gS2, 2, none⟩ = some (.int .i64 s2) := S2.cell 2; have v3 : w13.cell? ⟨gS2, 3, none⟩ = some (.int .i64 s3) := S2.cell 3; have v4 : w13.cell? ⟨gS2, 4, none⟩ = some (.int .i64 s4) := S2.cell 4; have v5 : w13.cell? ⟨gS2, 5, none⟩ = some (.int .i64 s5) := S2.cell 5; have o8 := (bO.cell 8).trans r8; have o11 := (bO.cell 11).trans r11; have p8 := (b0.cell 8).trans h8; have p11 := (b0.cell 11).trans h11; have lo := bO.lt; have lb := b0.lt; have l1 := S1.lt; have l2 := S2.lt) | (go_at_call 19; refine (HH4.out _ gk).mono ?_; rintro e w14 ⟨rfl, hG14⟩; clear HH4; clear u0 u1 u2 u3 u4 u5 v0 v1 v2 v3 v4 v5 o8 o11 p8 p11 lo lb l1 l2; replace gk := gk.t hG14; replace b0 := b0.keep hG14; replace bO := bO.keep hG14; replace S1 := S1.keep hG14; replace S2 := S2.keep hG14; clear hG14; have u0 : w14.cell? ⟨gS1, 0, none⟩ = some (.int .i64 s0) := S1.cell 0; have u1 : w14.cell? ⟨gS1, 1, none⟩ = some (.int .i64 s1) := S1.cell 1; have u2 : w14.cell? ⟨gS1, 2, none⟩ = some (.int .i64 s2) := S1.cell 2; have u3 : w14.cell? ⟨gS1, 3, none⟩ = some (.int .i64 s3) := S1.cell 3; have u4 : w14.cell? ⟨gS1, 4, none⟩ = some (.int .i64 s4) := S1.cell 4; have u5 : w14.cell? ⟨gS1, 5, none⟩ = some (.int .i64 s5) := S1.cell 5; have v0 : w14.cell? ⟨gS2, 0, none⟩ = some (.int .i64 s0) := S2.cell 0; have v1 : w14.cell? ⟨gS2, 1, none⟩ = some (.int .i64 s1) := S2.cell 1; have v2 : w14.cell? ⟨gS2, 2, none⟩ = some (.int .i64 s2) := S2.cell 2; have v3 : w14.cell? ⟨gS2, 3, none⟩ = some (.int .i64 s3) := S2.cell 3; have v4 : w14.cell? ⟨gS2, 4, none⟩ = some (.int .i64 s4) := S2.cell 4; have v5 : w14.cell? ⟨gS2, 5, none⟩ = some (.int .i64 s5) := S2.cell 5; have o8 := (bO.cell 8).trans r8; have o11 := (bO.cell 11).trans r11; have p8 := (b0.cell 8).trans h8; have p11 := (b0.cell 11).trans h11; have lo := bO.lt; have lb := b0.lt; have l1 := S1.lt; have l2 := S2.lt) | (go_at_call 7; refine (HWK.out _).mono ?_; rintro e w9 ⟨rfl, hG9⟩))
  go_ret
  exact ⟨by first | rfl | simp, (g0.t gk).t hG9⟩
end Go.Proofs.YtcekdljjmfkacaaGreat
