import Derived.Test.YtcekdljjmfkacaaGreatZr2
import Derived.Test.YtcekdljjmfkacaaGreatXf
set_option linter.unusedSimpArgs false
set_option linter.unusedVariables false
namespace Go.Proofs.YtcekdljjmfkacaaGreat
open Go.RowKit Go.Shelf
attribute [local go_sem] Oper.semAt_some wide_fn wide_dep wideR_fn wideR_dep
set_option maxRecDepth 100000 in
set_option maxHeartbeats 8000000 in
theorem SafeLaw_walk (REL : Array Value) (QQ : Array Value → World → Prop) (n k el sn N : Nat) (home mi to px py hr a z y : Int) (c : Nat → Nat → Int) (w : World) (hIs : IsRel REL) (hN : N ≤ 1000)
    (hFa : ∀ W, G w W → Calls Tryz.prog 6 #[.agg REL] W (FarRet W n k el sn))
    (hQk : ∀ RO W W', QQ RO W → G W W' → QQ RO W')
    (hCp : (n ≤ 20 ∧ k ≤ 30 ∧ el ≤ 40 ∧ sn ≤ 60) → ∀ W, G w W → Calls Tryz.prog 8 #[.agg REL] W fun e w' => ∃ RO, e = .returned (.agg RO) ∧ IsRel RO ∧ G W w' ∧ QQ RO w')
    (hA : (n ≤ 20 ∧ k ≤ 30 ∧ el ≤ 40 ∧ sn ≤ 60) → ∀ W RO, G w W → QQ RO W → Calls Tryz.prog 20 #[.agg RO, .int .i64 home, .int .i64 mi] W fun e w' => e = .returned (.tuple #[.int .i64 a, .int .i64 z]) ∧ G W w')
    (hB : (n ≤ 20 ∧ k ≤ 30 ∧ el ≤ 40 ∧ sn ≤ 60) → ∀ W, G w W → Calls Tryz.prog 21 #[.agg REL, .int .i64 home, .int .i64 mi] W fun e w' => e = .returned (.tuple #[.int .i64 a, .int .i64 z]) ∧ G W w')
    (hC : (n ≤ 20 ∧ k ≤ 30 ∧ el ≤ 40 ∧ sn ≤ 60) → ∀ W RO, G w W → QQ RO W → Calls Tryz.prog 22 #[.agg RO, .int .i64 mi] W fun e w' => ∃ ra rc, e = .returned (.tuple #[.slice ra N rc, .int .i64 y]) ∧ RowAt w' ra N 3 c ∧ G W w')
    (hD : (n ≤ 20 ∧ k ≤ 30 ∧ el ≤ 40 ∧ sn ≤ 60) → ∀ W, G w W → Calls Tryz.prog 23 #[.agg REL, .int .i64 mi] W fun e w' => ∃ ra rc, e = .returned (.tuple #[.slice ra N rc, .int .i64 y]) ∧ RowAt w' ra N 3 c ∧ G W w') :
    Calls Tryz.prog 4 #[.agg REL, .agg #[.int .i64 home, .int .i64 mi, .int .i64 to, .int .i64 px, .int .i64 py, .int .i64 hr]] w fun e w' => e = .returned (.bool true) ∧ G w w' := by
  have HIS := Lib.hid hIs
  have HFA := Lib.hid hFa
  have HQK := Lib.hid hQk
  have HCP0 := Lib.hid hCp
  have HA0 := Lib.hid hA
  have HB0 := Lib.hid hB
  have HC0 := Lib.hid hC
  have HD0 := Lib.hid hD
  have HWK := Lib.hid (fun W : World => works_any W)
  clear hIs hFa hQk hCp hA hB hC hD
  have g0 : G w ((w.alloc (.cells REL 35)).alloc (.cells #[.int .i64 home, .int .i64 mi, .int .i64 to, .int .i64 px, .int .i64 py, .int .i64 hr] 37)) := ((G.rf _).a _).a _
  have b0 : Blk ((w.alloc (.cells REL 35)).alloc (.cells #[.int .i64 home, .int .i64 mi, .int .i64 to, .int .i64 px, .int .i64 py, .int .i64 hr] 37)) w.heap.size 35 REL := (Blk.new w 35 REL).keep ((G.rf _).a _)
  have c0 : Blk ((w.alloc (.cells REL 35)).alloc (.cells #[.int .i64 home, .int .i64 mi, .int .i64 to, .int .i64 px, .int .i64 py, .int .i64 hr] 37)) (w.heap.size + 1) 37 #[.int .i64 home, .int .i64 mi, .int .i64 to, .int .i64 px, .int .i64 py, .int .i64 hr] := Blk.new1 w _ 37 _
  go_enter Tryz.func4, Tryz.ntmps4
  go_upto_region 1 with fail
  change Code.wp _ _ _ _ ((w.alloc (.cells REL 35)).alloc (.cells #[.int .i64 home, .int .i64 mi, .int .i64 to, .int .i64 px, .int .i64 py, .int .i64 hr] 37))
  generalize (w.alloc (.cells REL 35)).alloc (.cells #[.int .i64 home, .int .i64 mi, .int .i64 to, .int .i64 px, .int .i64 py, .int .i64 hr] 37) = w1 at *
  refine wp_region_lit ?_
  refine wpList_load35 w.heap.size 2 HIS.out rfl rfl rfl b0 ?_
  try simp only [Act.put, List.getElem_toArray, List.getElem_cons_zero, List.getElem_cons_succ, List.setIfInBounds_toArray, List.set_cons_zero, List.set_cons_succ]
  refine wpList_plain rfl fun K hK => ?_
  go_simp
  refine (HFA.out _ g0).mono ?_
  rintro e w2 ⟨bb, rfl, hbd, hG2⟩
  refine hK _ _ ?_
  clear hK K
  try simp only [Act.put, List.getElem_toArray, List.getElem_cons_zero, List.getElem_cons_succ, List.setIfInBounds_toArray, List.set_cons_zero, List.set_cons_succ]
  clear HFA
  replace b0 := b0.keep hG2
  replace c0 := c0.keep hG2
  replace g0 := g0.t hG2
  clear hG2
  have lx := c0.lt
  cases bb
  case true =>
    go_wp2_with (go_at_call 7; refine (HWK.out _).mono ?_; rintro e w9 ⟨rfl, hG9⟩)
    go_ret
    exact ⟨rfl, g0.t hG9⟩
  have HBD := hbd rfl
  have HCP := Lib.hid (HCP0.out HBD)
  have HA := Lib.hid (HA0.out HBD)
  have HB := Lib.hid (HB0.out HBD)
  have HC := Lib.hid (HC0.out HBD)
  have HD := Lib.hid (HD0.out HBD)
  clear HCP0 HA0 HB0 HC0 HD0 hbd HBD
  go_upto_region 3 with fail
  clear lx
  refine wp_region_lit ?_
  refine wpList_load35 w.heap.size 2 HIS.out rfl rfl rfl b0 ?_
  try simp only [Act.put, List.getElem_toArray, List.getElem_cons_zero, List.getElem_cons_succ, List.setIfInBounds_toArray, List.set_cons_zero, List.set_cons_succ]
  refine wpList_plain rfl fun K hK => ?_
  go_simp
  refine (HCP.out _ g0).mono ?_
  rintro e w3 ⟨RO, rfl, hRO, hG3, hq⟩
  refine hK _ _ ?_
  clear hK K
  try simp only [Act.put, List.getElem_toArray, List.getElem_cons_zero, List.getElem_cons_succ, List.setIfInBounds_toArray, List.set_cons_zero, List.set_cons_succ]
  clear HCP
  replace b0 := b0.keep hG3
  replace c0 := c0.keep hG3
  replace g0 := g0.t hG3
  clear hG3
  have lgO := c0.lt
  obtain ⟨gO, hgO⟩ : ∃ gO, gO = w3.heap.size := ⟨_, rfl⟩
  have hz : Blk (w3.alloc (.cells #[.int .i64 0, .int .i64 0, .slice none 0 0, .int .i64 0, .slice none 0 0, .int .i64 0, .int .i64 0, .int .i64 0, .slice none 0 0, .int .i64 0, .int .i64 0, .slice none 0 0, .int .i64 0, .int .i64 0, .int .i64 0, .int .i64 0, .int .i64 0] 35)) w3.heap.size 35 #[.int .i64 0, .int .i64 0, .slice none 0 0, .int .i64 0, .slice none 0 0, .int .i64 0, .int .i64 0, .int .i64 0, .slice none 0 0, .int .i64 0, .int .i64 0, .slice none 0 0, .int .i64 0, .int .i64 0, .int .i64 0, .int .i64 0, .int .i64 0] := Blk.new _ _ _
  have ga : G w3 (w3.alloc (.cells #[.int .i64 0, .int .i64 0, .slice none 0 0, .int .i64 0, .slice none 0 0, .int .i64 0, .int .i64 0, .int .i64 0, .slice none 0 0, .int .i64 0, .int .i64 0, .slice none 0 0, .int .i64 0, .int .i64 0, .int .i64 0, .int .i64 0, .int .i64 0] 35)) := (G.rf _).a _
  refine wpList_plain rfl fun K hK => ?_
  go_simp
  refine hK _ _ ?_
  clear hK
  try simp only [Act.put, List.getElem_toArray, List.getElem_cons_zero, List.getElem_cons_succ, List.setIfInBounds_toArray, List.set_cons_zero, List.set_cons_succ]
  rw [← hgO] at hz lgO ⊢
  have hg3 : w3.heap.size ≤ gO := Nat.le_of_eq hgO.symm
  clear hgO
  refine wpList_plain rfl fun K hK => ?_
  refine wp_store46 gO 5 18 (OLD := #[.int .i64 0, .int .i64 0, .slice none 0 0, .int .i64 0, .slice none 0 0, .int .i64 0, .int .i64 0, .int .i64 0, .slice none 0 0, .int .i64 0, .int .i64 0, .slice none 0 0, .int .i64 0, .int .i64 0, .int .i64 0, .int .i64 0, .int .i64 0]) (REL := RO) ⟨_, _, _, _, _, _, _, _, _, _, _, _, _, _, _, _, _, _, _, _, _, _, _, _, _, rfl⟩ hRO rfl rfl rfl hz fun W2 hB2 hF2 hG2 => ?_
  refine hK _ _ ?_
  have g32 := hG2 w3 hg3 ga
  clear hF2 hG2 hK hz ga
  try simp only [Act.put, List.getElem_toArray, List.getElem_cons_zero, List.getElem_cons_succ, List.setIfInBounds_toArray, List.set_cons_zero, List.set_cons_succ]
  replace b0 := b0.keep g32
  replace c0 := c0.keep g32
  replace g0 := g0.t g32
  replace hq := HQK.out _ _ _ hq g32
  clear g32 hg3
  have bO := hB2
  clear hB2
  have HRO := Lib.hid hRO
  clear hRO
  obtain ⟨wc, rfl⟩ : ∃ wc, wc = W2 := ⟨_, rfl⟩
  go_upto_region 4 with fail
  have x0 : wc.cell? ⟨w.heap.size + 1, 0, none⟩ = some (.int .i64 home) := c0.cell 0
  have x1 : wc.cell? ⟨w.heap.size + 1, 1, none⟩ = some (.int .i64 mi) := c0.cell 1
  have lx := c0.lt
  refine wp_region_lit ?_
  refine wpList_load35 gO 5 HRO.out rfl rfl rfl bO ?_
  try simp only [Act.put, List.getElem_toArray, List.getElem_cons_zero, List.getElem_cons_succ, List.setIfInBounds_toArray, List.set_cons_zero, List.set_cons_succ]
  go_upto_region 5 with (go_at_call 20; refine (HA.out _ _ g0 hq).mono ?_; rintro e wn ⟨rfl, hGn⟩)
  clear x0 x1 lx
  replace b0 := b0.keep hGn
  replace c0 := c0.keep hGn
  replace bO := bO.keep hGn
  replace g0 := g0.t hGn
  replace hq := HQK.out _ _ _ hq hGn
  clear hGn
  obtain ⟨wc, rfl⟩ : ∃ wc, wc = wn := ⟨_, rfl⟩
  have x0 : wc.cell? ⟨w.heap.size + 1, 0, none⟩ = some (.int .i64 home) := c0.cell 0
  have x1 : wc.cell? ⟨w.heap.size + 1, 1, none⟩ = some (.int .i64 mi) := c0.cell 1
  have lx := c0.lt
  refine wp_region_lit ?_
  refine wpList_load35 w.heap.size 2 HIS.out rfl rfl rfl b0 ?_
  try simp only [Act.put, List.getElem_toArray, List.getElem_cons_zero, List.getElem_cons_succ, List.setIfInBounds_toArray, List.set_cons_zero, List.set_cons_succ]
  go_upto_region 6 with (go_at_call 21; refine (HB.out _ g0).mono ?_; rintro e wn ⟨rfl, hGn⟩)
  clear x0 x1 lx
  replace b0 := b0.keep hGn
  replace c0 := c0.keep hGn
  replace bO := bO.keep hGn
  replace g0 := g0.t hGn
  replace hq := HQK.out _ _ _ hq hGn
  clear hGn
  obtain ⟨wc, rfl⟩ : ∃ wc, wc = wn := ⟨_, rfl⟩
  have x1 : wc.cell? ⟨w.heap.size + 1, 1, none⟩ = some (.int .i64 mi) := c0.cell 1
  have lx := c0.lt
  refine wp_region_lit ?_
  refine wpList_load35 gO 5 HRO.out rfl rfl rfl bO ?_
  try simp only [Act.put, List.getElem_toArray, List.getElem_cons_zero, List.getElem_cons_succ, List.setIfInBounds_toArray, List.set_cons_zero, List.set_cons_succ]
  go_upto_region 7 with (go_at_call 22; refine (HC.out _ _ g0 hq).mono ?_; rintro e wn ⟨ra, rc, rfl, hr1, hGn⟩)
  clear x1 lx
  replace b0 := b0.keep hGn
  replace c0 := c0.keep hGn
  replace bO := bO.keep hGn
  replace g0 := g0.t hGn
  replace hq := HQK.out _ _ _ hq hGn
  clear hGn
  obtain ⟨wc, rfl⟩ : ∃ wc, wc = wn := ⟨_, rfl⟩
  have x1 : wc.cell? ⟨w.heap.size + 1, 1, none⟩ = some (.int .i64 mi) := c0.cell 1
  have lx := c0.lt
  refine wp_region_lit ?_
  refine wpList_load35 w.heap.size 2 HIS.out rfl rfl rfl b0 ?_
  try simp only [Act.put, List.getElem_toArray, List.getElem_cons_zero, List.getElem_cons_succ, List.setIfInBounds_toArray, List.set_cons_zero, List.set_cons_succ]
  go_upto_region 8 with (go_at_call 23; refine (HD.out _ g0).mono ?_; rintro e wn ⟨rb, rd, rfl, hr2, hGn⟩)
  clear x1 lx
  replace b0 := b0.keep hGn
  replace c0 := c0.keep hGn
  replace bO := bO.keep hGn
  replace g0 := g0.t hGn
  replace hq := HQK.out _ _ _ hq hGn
  replace hr1 := hr1.below hGn
  clear hGn
  obtain ⟨wc, rfl⟩ : ∃ wc, wc = wn := ⟨_, rfl⟩
  have HSB := Lib.hid (sameBlocks_any ra rb rc rd N c wc hr1 hr2 hN)
  clear HA HB HC HD hq hr1 hr2
  go_wp2_with (first | (go_at_call 24; refine (HSB.out).mono ?_; rintro e w8 ⟨rfl, hG8⟩) | (go_at_call 7; refine (HWK.out _).mono ?_; rintro e w9 ⟨rfl, hG9⟩))
  go_ret
  exact ⟨by first | rfl | simp, (g0.t hG8).t hG9⟩
end Go.Proofs.YtcekdljjmfkacaaGreat
