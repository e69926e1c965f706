import Derived.Test.YtcekdljjmfkacaaNg
set_option linter.unusedSimpArgs false
set_option linter.unusedVariables false
namespace Go.Proofs.Ytcekdljjmfkacaa
open Go.RowKit
attribute [local go_sem] Oper.semAt_some
theorem WMap.look2 {W : World} {m n : Nat} {S : Int → Int → Int → Option Sk} (h : WMap W m n S) {x y t : Int} (hx : i64b x) (hy : i64b y) (ht : i64b t) :
    (Instr.lookup 110 (.map (some m)) (spotV x y t) true).run Try.prog W = .ok (.tuple #[.agg ((S x y t).getD sk0).v, .bool (S x y t).isSome]) W := by
  obtain ⟨D, h1, h2⟩ := h
  obtain ⟨l, hl⟩ := spotKey hx hy ht
  obtain ⟨v, ps, hrun, hv⟩ := h1.look_ok lawSpot Try.underlying110 (zeroSky W) (skR_mk sk0) hl
  obtain ⟨s, rfl, hs⟩ := skR_inv hv
  obtain ⟨e1, e2⟩ := h2 x y t hx hy ht l hl
  simp only [Prod.mk.injEq] at hs
  rw [e1] at hrun
  cases hS : S x y t with
  | none =>
    rw [hS] at e1 hrun
    have : D.atKey l (skD sk0) = skD sk0 := Maps.atKey_of_not_has e1 _
    have es : s = sk0 := skD_inj (hs.1.symm.trans this)
    subst es
    exact hrun
  | some s' =>
    rw [hS] at hrun
    have es : s = s' := skD_inj (hs.1.symm.trans (e2 s' hS _))
    subst es
    exact hrun
section
variable (m n F : Nat) (FC : Array Value) (S : Int → Int → Int → Option Sk) (x y t : Int) (w : World)
set_option maxRecDepth 100000 in
set_option maxHeartbeats 4000000 in
theorem skyAt_any (hB : Blk w F 112 FC) (h18 : FC[18]? = some (.map (some m))) (hW : WMap w m n S) (hx : i64b x) (hy : i64b y) (ht : i64b t) :
    Calls Try.prog 46 #[.pointer (some ⟨F, 0, none⟩), .agg #[.int .i64 x, .int .i64 y, .int .i64 t]] w fun e w' => e = .returned (.agg ((S x y t).getD skAny).v) ∧ G w w' := by
  have HAny := Lib.hid (fun W : World => anySky_any W)
  obtain ⟨g0, b0, b1⟩ := w2_spec w #[.int .i64 x, .int .i64 y, .int .i64 t] sk0.v 105 102
  have hB0 := hB.keep g0
  have hW0 := hW.keep g0
  obtain ⟨ro, hro⟩ : ∃ ro, ro = S x y t := ⟨_, rfl⟩
  have HRO := Lib.hid hro
  have hlook : ∀ W', G ((w.alloc (.cells #[.int .i64 x, .int .i64 y, .int .i64 t] 105)).alloc (.cells sk0.v 102)) W' → (Instr.lookup 110 (.map (some m)) (.agg #[.int .i64 x, .int .i64 y, .int .i64 t]) true).run Try.prog W' = .ok (.tuple #[.agg (ro.getD sk0).v, .bool ro.isSome]) W' := fun W' hG => by rw [hro]; exact (hW0.keep hG).look2 hx hy ht
  rw [← hro]
  clear hro hW hW0 hB
  go_enter Try.func46, Try.ntmps46
  go_upto_region 1 with fail
  change Code.wp _ _ _ _ ((w.alloc (.cells #[.int .i64 x, .int .i64 y, .int .i64 t] 105)).alloc (.cells sk0.v 102))
  generalize (w.alloc (.cells #[.int .i64 x, .int .i64 y, .int .i64 t] 105)).alloc (.cells sk0.v 102) = w1 at *
  have hSk : ∀ W', G w1 W' → (Blk W' w.heap.size 105 #[.int .i64 x, .int .i64 y, .int .i64 t] ∧ W'.cell? ⟨F, 18, none⟩ = some (.map (some m)) ∧ (Instr.lookup 110 (.map (some m)) (.agg #[.int .i64 x, .int .i64 y, .int .i64 t]) true).run Try.prog W' = .ok (.tuple #[.agg (ro.getD sk0).v, .bool ro.isSome]) W') := fun W' hG => ⟨b0.keep hG, ((hB0.keep hG).cell 18).trans h18, hlook W' hG⟩
  have h1size : w.heap.size + 2 ≤ w1.heap.size := by have := b1.lt; omega
  refine wp_region_Y (S := fun W' => Blk W' w.heap.size 105 #[.int .i64 x, .int .i64 y, .int .i64 t] ∧ W'.cell? ⟨F, 18, none⟩ = some (.map (some m)) ∧ (Instr.lookup 110 (.map (some m)) (.agg #[.int .i64 x, .int .i64 y, .int .i64 t]) true).run Try.prog W' = .ok (.tuple #[.agg (ro.getD sk0).v, .bool ro.isSome]) W') 11 12 rfl (by kernel_rfl) (hSk _ (G.rf _).d) (fun hS => ?_)
  refine wpAnyY_take (i := 0) (v := ?_) rfl (by kernel_rfl) (by kernel_rfl) (by kernel_rfl) (by kernel_rfl) (fun _ _ _ h => h) (Or.inl ⟨by kernel_rfl, ?_⟩) hS ?_
  rotate_left
  · intro w' hSw; go_simp; with_reducible rfl
  try simp only [Act.put, List.getElem_toArray, List.getElem_cons_zero, List.getElem_cons_succ, List.setIfInBounds_toArray, List.set_cons_zero, List.set_cons_succ]
  refine wpAnyY_take (i := 1) (v := ?_) rfl (by kernel_rfl) (by kernel_rfl) (by kernel_rfl) (by kernel_rfl) (fun _ _ _ h => h) (Or.inl ⟨by kernel_rfl, ?_⟩) hS ?_
  rotate_left
  · intro w' hSw; go_simp; with_reducible rfl
  try simp only [Act.put, List.getElem_toArray, List.getElem_cons_zero, List.getElem_cons_succ, List.setIfInBounds_toArray, List.set_cons_zero, List.set_cons_succ]
  refine wpAnyY_take (i := 2) (v := ?_) rfl (by kernel_rfl) (by kernel_rfl) (by kernel_rfl) (by kernel_rfl) (fun _ _ _ h => h) (Or.inl ⟨by kernel_rfl, ?_⟩) hS ?_
  rotate_left
  · intro w' hSw; go_simp; with_reducible rfl
  try simp only [Act.put, List.getElem_toArray, List.getElem_cons_zero, List.getElem_cons_succ, List.setIfInBounds_toArray, List.set_cons_zero, List.set_cons_succ]
  refine wpAnyY_take (i := 3) (v := ?_) rfl (by kernel_rfl) (by kernel_rfl) (by kernel_rfl) (by kernel_rfl) (fun _ _ _ h => h) (Or.inl ⟨by kernel_rfl, ?_⟩) hS ?_
  rotate_left
  · intro w' hSw; have y18 := hSw.2.1; go_simp; with_reducible rfl
  try simp only [Act.put, List.getElem_toArray, List.getElem_cons_zero, List.getElem_cons_succ, List.setIfInBounds_toArray, List.set_cons_zero, List.set_cons_succ]
  refine wpAnyY_take (i := 4) (v := ?_) rfl (by kernel_rfl) (by kernel_rfl) (by kernel_rfl) (by kernel_rfl) (fun _ _ _ h => h) (Or.inl ⟨by kernel_rfl, ?_⟩) hS ?_
  rotate_left
  · intro w' hSw; have e0 := hSw.1.cell 0; have e1 := hSw.1.cell 1; have e2 := hSw.1.cell 2; go_simp; with_reducible rfl
  try simp only [Act.put, List.getElem_toArray, List.getElem_cons_zero, List.getElem_cons_succ, List.setIfInBounds_toArray, List.set_cons_zero, List.set_cons_succ]
  refine wpAnyY_take (i := 5) (v := ?_) rfl (by kernel_rfl) (by kernel_rfl) (by kernel_rfl) (by kernel_rfl) (fun _ _ _ h => h) (Or.inl ⟨by kernel_rfl, ?_⟩) hS ?_
  rotate_left
  · intro w' hSw; have hl := hSw.2.2; go_simp; with_reducible rfl
  try simp only [Act.put, List.getElem_toArray, List.getElem_cons_zero, List.getElem_cons_succ, List.setIfInBounds_toArray, List.set_cons_zero, List.set_cons_succ]
  refine wpAnyY_take (i := 6) (v := ?_) rfl (by kernel_rfl) (by kernel_rfl) (by kernel_rfl) (by kernel_rfl) (fun _ _ _ h => h) (Or.inl ⟨by kernel_rfl, ?_⟩) hS ?_
  rotate_left
  · intro w' hSw; go_simp; with_reducible rfl
  try simp only [Act.put, List.getElem_toArray, List.getElem_cons_zero, List.getElem_cons_succ, List.setIfInBounds_toArray, List.set_cons_zero, List.set_cons_succ]
  refine wpAnyY_take (i := 7) (v := ?_) rfl (by kernel_rfl) (by kernel_rfl) (by kernel_rfl) (by kernel_rfl) (fun _ _ _ h => h) (Or.inl ⟨by kernel_rfl, ?_⟩) hS ?_
  rotate_left
  · intro w' hSw; go_simp; with_reducible rfl
  try simp only [Act.put, List.getElem_toArray, List.getElem_cons_zero, List.getElem_cons_succ, List.setIfInBounds_toArray, List.set_cons_zero, List.set_cons_succ]
  refine wpAnyY_take (i := 8) (v := ?_) rfl (by kernel_rfl) (by kernel_rfl) (by kernel_rfl) (by kernel_rfl) (fun _ _ _ h => h) (Or.inl ⟨by kernel_rfl, ?_⟩) hS ?_
  rotate_left
  · intro w' hSw; go_simp; with_reducible rfl
  try simp only [Act.put, List.getElem_toArray, List.getElem_cons_zero, List.getElem_cons_succ, List.setIfInBounds_toArray, List.set_cons_zero, List.set_cons_succ]
  have gd := (G.rf w1).d
  refine wpAnyY_oneSW (i := 9) (by kernel_rfl) rfl (by kernel_rfl) (fun K9 hK9 => ?_)
  go_simp
  refine hK9.out _ _ (hSk _ (gd.a _)) (fun hS => ?_)
  try simp only [Act.put, List.getElem_toArray, List.getElem_cons_zero, List.getElem_cons_succ, List.setIfInBounds_toArray, List.set_cons_zero, List.set_cons_succ]
  refine wpAnyY_oneSW (i := 10) (by kernel_rfl) rfl (by kernel_rfl) (fun K10 hK10 => ?_)
  refine wp_store102 w1.drew.heap.size 5 14 (x := sk0) (s := ro.getD sk0) rfl rfl rfl (Blk.new w1.drew 102 _) fun W2 hB2 hF2 hG2 => ?_
  have hG4 : G w1 W2 := hG2 w1 (Nat.le_refl _) (gd.a _)
  refine hK10.out _ _ (hSk _ hG4) (fun hS => ?_)
  try simp only [Act.put, List.getElem_toArray, List.getElem_cons_zero, List.getElem_cons_succ, List.setIfInBounds_toArray, List.set_cons_zero, List.set_cons_succ]
  refine wpAnyY_oneW (i := 11) (by kernel_rfl) rfl (by kernel_rfl) (by kernel_rfl) (fun K11 hK11 => ?_)
  go_simp
  refine hK11.out _ _ ?_
  try simp only [Act.put, List.getElem_toArray, List.getElem_cons_zero, List.getElem_cons_succ, List.setIfInBounds_toArray, List.set_cons_zero, List.set_cons_succ]
  refine wpAnyY_done (by kernel_rfl) ?_ _
  have hn5 : w.heap.size + 2 ≤ w1.heap.size := h1size
  replace hB2 : Blk W2 w1.heap.size 102 (ro.getD sk0).v := hB2
  obtain ⟨n5, hn5e⟩ : ∃ n, n = w1.heap.size := ⟨_, rfl⟩
  rw [← hn5e] at hB2 hn5 ⊢
  have hz := b1.keep hG4
  have hGw := g0.t hG4
  clear hS hSk hK9 hK10 hK11 hF2 hG2 hn5e hlook gd b0 b1 hB0 h1size
  cases hr : ro with
  | none =>
    subst hr
    go_upto_region 4 with fail
    refine wp_region_lit ?_
    refine wpList_plain rfl fun K hK => ?_
    go_simp
    refine (HAny.out _).mono ?_
    rintro e w5 ⟨rfl, hG5⟩
    refine hK _ _ ?_
    clear hK
    try simp only [Act.put, List.getElem_toArray, List.getElem_cons_zero, List.getElem_cons_succ, List.setIfInBounds_toArray, List.set_cons_zero, List.set_cons_succ]
    refine wpList_store102 (w.heap.size + 1) 4 18 (x := sk0) (s := skAny) rfl rfl rfl rfl (hz.keep hG5) fun W5 hB5 hF5 hG6 => ?_
    try simp only [Act.put, List.getElem_toArray, List.getElem_cons_zero, List.getElem_cons_succ, List.setIfInBounds_toArray, List.set_cons_zero, List.set_cons_succ]
    have hGG := hG6 w (by omega) (hGw.t hG5)
    clear hF5 hG6
    go_wp2_with fail
    exact bodyPost_ret (resSky Try.f46 4 _ _ (w.heap.size + 1) skAny rfl rfl hB5) rfl ⟨rfl, hGG⟩
  | some s =>
    subst hr
    go_upto_region 3 with fail
    refine wp_region_lit ?_
    refine wpList_load102 n5 5 rfl rfl rfl hB2 ?_
    try simp only [Act.put, List.getElem_toArray, List.getElem_cons_zero, List.getElem_cons_succ, List.setIfInBounds_toArray, List.set_cons_zero, List.set_cons_succ]
    refine wpList_store102 (w.heap.size + 1) 4 17 (x := sk0) rfl rfl rfl rfl hz fun W5 hB5 hF5 hG5 => ?_
    try simp only [Act.put, List.getElem_toArray, List.getElem_cons_zero, List.getElem_cons_succ, List.setIfInBounds_toArray, List.set_cons_zero, List.set_cons_succ]
    have hGG := hG5 w (by omega) hGw
    clear hF5 hG5
    go_wp2_with fail
    exact bodyPost_ret (resSky Try.f46 4 _ _ (w.heap.size + 1) s rfl rfl hB5) rfl ⟨rfl, hGG⟩
end
end Go.Proofs.Ytcekdljjmfkacaa
