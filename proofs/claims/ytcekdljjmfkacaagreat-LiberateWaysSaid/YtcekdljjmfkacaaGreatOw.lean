import Derived.Test.YtcekdljjmfkacaaGreatXf
set_option linter.unusedSimpArgs false
set_option linter.unusedVariables false
namespace Go.Proofs.YtcekdljjmfkacaaGreat
open Go.RowKit Go.Shelf
attribute [local go_sem] Oper.semAt_some wide_fn wide_dep wideR_fn wideR_dep
def WayPost (w : World) (L : List (Nat × Nat)) (e : Ending) (w' : World) : Prop := ∃ v, e = .returned (.tuple #[v, .int .i64 0]) ∧ w'.ownsRow w.heap.size 27 2 v L.length (ptsV L) ∧ G w w'
set_option maxRecDepth 100000 in
set_option maxHeartbeats 4000000 in
theorem Way_walk (REL : Array Value) (bx bY hx hy i n hc gH oH : Nat) (w : World) (hIs : IsRel REL) (h6 : REL[6]? = some (.int .i64 (bx : Nat))) (h7 : REL[7]? = some (.int .i64 (bY : Nat))) (h8 : REL[8]? = some (.slice (some ⟨gH, oH, none⟩) n hc)) (hin : i < n) (hgH : gH < w.heap.size)
    (p0 : w.cell? ⟨gH, oH + i * 2, none⟩ = some (.int .i64 (hx : Nat))) (p1 : w.cell? ⟨gH, oH + i * 2 + 1, none⟩ = some (.int .i64 (hy : Nat))) (b1 : bx ≤ 99) (b2 : bY ≤ 99) (b3 : hx ≤ 99) (b4 : hy ≤ 99)
    (hI : ∀ W, Calls Tryz.prog 39 #[.agg REL, .int .i64 (i : Nat)] W fun e w' => e = .returned (.bool true) ∧ G W w') (hQ : ∀ W, G w W → Calls Tryz.prog 38 #[.agg REL, .bool true] W fun e w' => e = .returned (.int .i64 0) ∧ G W w') :
    Calls Tryz.prog 11 #[.agg REL, .int .i64 (i : Nat)] w (WayPost w (pbK bx bY hx hy (stepsN bx bY hx hy) (stepsN bx bY hx hy))) := by
  have HIS := Lib.hid hIs
  have HI := Lib.hid hI
  have HQ := Lib.hid hQ
  have HB := Lib.hid (fun (W : World) => lPlacesBetween_any bx bY hx hy W b1 b2 b3 b4)
  clear hIs hI hQ
  have hini : (i : Int) < n := by omega
  generalize pbK bx bY hx hy (stepsN bx bY hx hy) (stepsN bx bY hx hy) = L at *
  have HPP : Hid (∀ w' v, w'.ownsRow w.heap.size 27 2 v L.length (ptsV L) → G w w' → WayPost w L (.returned (.tuple #[v, .int .i64 0])) w') := fun w' v a b => ⟨v, rfl, a, b⟩
  generalize WayPost w L = PP at *
  have g0 : G w (w.alloc (.cells REL 35)) := (G.rf _).a _
  have b0 : Blk (w.alloc (.cells REL 35)) w.heap.size 35 REL := Blk.new w 35 REL
  go_enter Tryz.func11, Tryz.ntmps11
  go_upto_region 1 with fail
  change Code.wp _ _ _ _ (w.alloc (.cells REL 35))
  generalize w.alloc (.cells REL 35) = w1 at *
  refine wp_region_Y (S := fun W' => Blk W' w.heap.size 35 REL) 5 6 rfl (by kernel_rfl) (b0.keep (G.rf _).d) (fun hS => ?_)
  have ga := (G.rf w1).d
  refine wpAnyY_take (i := 0) (v := .agg REL) rfl (by kernel_rfl) (by kernel_rfl) (by kernel_rfl) (by kernel_rfl) (fun _ _ _ h => h) (Or.inl ⟨by kernel_rfl, ?_⟩) hS ?_
  · intro w' hSw; exact load46o w' w.heap.size 2 HIS.out _ _ rfl (by kernel_rfl) hSw
  try simp only [Act.put, List.getElem_toArray, List.getElem_cons_zero, List.getElem_cons_succ, List.setIfInBounds_toArray, List.set_cons_zero, List.set_cons_succ]
  refine wpAnyY_take (i := 1) (v := .agg REL) rfl (by kernel_rfl) (by kernel_rfl) (by kernel_rfl) (by kernel_rfl) (fun _ _ _ h => h) (Or.inl ⟨by kernel_rfl, ?_⟩) hS ?_
  · intro w' hSw; exact load46o w' w.heap.size 2 HIS.out _ _ rfl (by kernel_rfl) hSw
  try simp only [Act.put, List.getElem_toArray, List.getElem_cons_zero, List.getElem_cons_succ, List.setIfInBounds_toArray, List.set_cons_zero, List.set_cons_succ]
  refine wpAnyY_take (i := 2) (v := ?_) rfl (by kernel_rfl) (by kernel_rfl) (by kernel_rfl) (by kernel_rfl) (fun _ _ _ h => h) (Or.inl ⟨by kernel_rfl, ?_⟩) hS ?_
  rotate_left
  · intro w' hSw; go_simp; with_reducible rfl
  try simp only [Act.put, List.getElem_toArray, List.getElem_cons_zero, List.getElem_cons_succ, List.setIfInBounds_toArray, List.set_cons_zero, List.set_cons_succ]
  refine wpAnyY_oneSW (i := 3) (by kernel_rfl) rfl (by kernel_rfl) (fun K3 hK3 => ?_)
  go_simp
  refine (HI.out _).mono ?_
  rintro e wc3 ⟨rfl, hG3⟩
  replace ga := ga.t hG3
  refine hK3.out _ _ (b0.keep ga) (fun hS => ?_)
  try simp only [Act.put, List.getElem_toArray, List.getElem_cons_zero, List.getElem_cons_succ, List.setIfInBounds_toArray, List.set_cons_zero, List.set_cons_succ]
  refine wpAnyY_oneSW (i := 4) (by kernel_rfl) rfl (by kernel_rfl) (fun K4 hK4 => ?_)
  go_simp
  refine (HQ.out _ (g0.t ga)).mono ?_
  rintro e wc4 ⟨rfl, hG4⟩
  replace ga := ga.t hG4
  refine hK4.out _ _ (b0.keep ga) (fun hS => ?_)
  try simp only [Act.put, List.getElem_toArray, List.getElem_cons_zero, List.getElem_cons_succ, List.setIfInBounds_toArray, List.set_cons_zero, List.set_cons_succ]
  refine wpAnyY_oneW (i := 5) (by kernel_rfl) rfl (by kernel_rfl) (by kernel_rfl) (fun K5 hK5 => ?_)
  go_simp
  refine hK5.out _ _ ?_
  try simp only [Act.put, List.getElem_toArray, List.getElem_cons_zero, List.getElem_cons_succ, List.setIfInBounds_toArray, List.set_cons_zero, List.set_cons_succ]
  refine wpAnyY_done (by kernel_rfl) ?_ _
  clear hS HI HQ
  replace b0 := b0.keep ga
  replace g0 := g0.t ga
  clear ga
  have lH := Nat.lt_of_lt_of_le hgH g0.size
  have q0 := ((bcellB g0).1 gH _ hgH).trans p0
  have q1 := ((bcellB g0).1 gH _ hgH).trans p1
  have hSk : ∀ W', G wc4 W' → (Blk W' w.heap.size 35 REL ∧ W'.cell? ⟨gH, oH + i * 2, none⟩ = some (.int .i64 (hx : Nat)) ∧ W'.cell? ⟨gH, oH + i * 2 + 1, none⟩ = some (.int .i64 (hy : Nat))) := fun W' h => ⟨b0.keep h, ((bcellB h).1 gH _ lH).trans q0, ((bcellB h).1 gH _ lH).trans q1⟩
  clear q0 q1 p0 p1
  go_wp2_with fail
  refine wp_region_Y (S := fun W' => Blk W' w.heap.size 35 REL ∧ W'.cell? ⟨gH, oH + i * 2, none⟩ = some (.int .i64 (hx : Nat)) ∧ W'.cell? ⟨gH, oH + i * 2 + 1, none⟩ = some (.int .i64 (hy : Nat))) 9 10 rfl (by kernel_rfl) (hSk _ (G.rf _).d) (fun hS => ?_)
  refine wpAnyY_take (i := 0) (v := ?_) rfl (by kernel_rfl) (by kernel_rfl) (by kernel_rfl) (by kernel_rfl) (fun _ _ _ h => h) (Or.inl ⟨by kernel_rfl, ?_⟩) hS ?_
  rotate_left
  · intro w' hSw; go_simp; with_reducible rfl
  try simp only [Act.put, List.getElem_toArray, List.getElem_cons_zero, List.getElem_cons_succ, List.setIfInBounds_toArray, List.set_cons_zero, List.set_cons_succ]
  refine wpAnyY_take (i := 1) (v := ?_) rfl (by kernel_rfl) (by kernel_rfl) (by kernel_rfl) (by kernel_rfl) (fun _ _ _ h => h) (Or.inl ⟨by kernel_rfl, ?_⟩) hS ?_
  rotate_left
  · intro w' hSw; have e6 := (hSw.1.cell 6).trans h6; have e7 := (hSw.1.cell 7).trans h7; have lb := hSw.1.lt; go_simp; with_reducible rfl
  try simp only [Act.put, List.getElem_toArray, List.getElem_cons_zero, List.getElem_cons_succ, List.setIfInBounds_toArray, List.set_cons_zero, List.set_cons_succ]
  refine wpAnyY_take (i := 2) (v := ?_) rfl (by kernel_rfl) (by kernel_rfl) (by kernel_rfl) (by kernel_rfl) (fun _ _ _ h => h) (Or.inl ⟨by kernel_rfl, ?_⟩) hS ?_
  rotate_left
  · intro w' hSw; go_simp; with_reducible rfl
  try simp only [Act.put, List.getElem_toArray, List.getElem_cons_zero, List.getElem_cons_succ, List.setIfInBounds_toArray, List.set_cons_zero, List.set_cons_succ]
  refine wpAnyY_take (i := 3) (v := ?_) rfl (by kernel_rfl) (by kernel_rfl) (by kernel_rfl) (by kernel_rfl) (fun _ _ _ h => h) (Or.inl ⟨by kernel_rfl, ?_⟩) hS ?_
  rotate_left
  · intro w' hSw; have e8 := (hSw.1.cell 8).trans h8; have lb := hSw.1.lt; go_simp; with_reducible rfl
  try simp only [Act.put, List.getElem_toArray, List.getElem_cons_zero, List.getElem_cons_succ, List.setIfInBounds_toArray, List.set_cons_zero, List.set_cons_succ]
  refine wpAnyY_take (i := 4) (v := ?_) rfl (by kernel_rfl) (by kernel_rfl) (by kernel_rfl) (by kernel_rfl) (fun _ _ _ h => h) (Or.inl ⟨by kernel_rfl, ?_⟩) hS ?_
  rotate_left
  · intro w' hSw; go_simp; with_reducible rfl
  try simp only [Act.put, List.getElem_toArray, List.getElem_cons_zero, List.getElem_cons_succ, List.setIfInBounds_toArray, List.set_cons_zero, List.set_cons_succ]
  refine wpAnyY_take (i := 5) (v := ?_) rfl (by kernel_rfl) (by kernel_rfl) (by kernel_rfl) (by kernel_rfl) (fun _ _ _ h => h) (Or.inl ⟨by kernel_rfl, ?_⟩) hS ?_
  rotate_left
  · intro w' hSw; go_simp; with_reducible rfl
  try simp only [Act.put, List.getElem_toArray, List.getElem_cons_zero, List.getElem_cons_succ, List.setIfInBounds_toArray, List.set_cons_zero, List.set_cons_succ]
  refine wpAnyY_take (i := 6) (v := ?_) rfl (by kernel_rfl) (by kernel_rfl) (by kernel_rfl) (by kernel_rfl) (fun _ _ _ h => h) (Or.inl ⟨by kernel_rfl, ?_⟩) hS ?_
  rotate_left
  · intro w' hSw; have e0 := hSw.2.1; have e1 := hSw.2.2; go_simp; with_reducible rfl
  try simp only [Act.put, List.getElem_toArray, List.getElem_cons_zero, List.getElem_cons_succ, List.setIfInBounds_toArray, List.set_cons_zero, List.set_cons_succ]
  have ga := (G.rf wc4).d
  refine wpAnyY_oneSW (i := 7) (by kernel_rfl) rfl (by kernel_rfl) (fun K7 hK7 => ?_)
  go_simp
  refine (HB.out _).mono ?_
  rintro e wc5 ⟨v, rfl, hown, hG7⟩
  have gz := g0.t (ga.t hG7)
  have hown2 := own_weaken hown (show w.heap.size ≤ wc4.drew.heap.size from (g0.t ga).size)
  have HF := Lib.hid (HPP.out _ v hown2 gz)
  clear hown hown2
  replace ga := ga.t hG7
  refine hK7.out _ _ (hSk _ ga) (fun hS => ?_)
  try simp only [Act.put, List.getElem_toArray, List.getElem_cons_zero, List.getElem_cons_succ, List.setIfInBounds_toArray, List.set_cons_zero, List.set_cons_succ]
  refine wpAnyY_oneSW (i := 8) (by kernel_rfl) rfl (by kernel_rfl) (fun K8 hK8 => ?_)
  go_simp
  refine hK8.out _ _ (hSk _ ga) (fun hS => ?_)
  try simp only [Act.put, List.getElem_toArray, List.getElem_cons_zero, List.getElem_cons_succ, List.setIfInBounds_toArray, List.set_cons_zero, List.set_cons_succ]
  refine wpAnyY_oneW (i := 9) (by kernel_rfl) rfl (by kernel_rfl) (by kernel_rfl) (fun K9 hK9 => ?_)
  go_simp
  refine hK9.out _ _ ?_
  try simp only [Act.put, List.getElem_toArray, List.getElem_cons_zero, List.getElem_cons_succ, List.setIfInBounds_toArray, List.set_cons_zero, List.set_cons_succ]
  refine wpAnyY_done (by kernel_rfl) ?_ _
  clear hS hSk
  go_wp2_with fail
  exact HF.out
theorem rWay_ok {r : Rl} {w : World} (h : r.Ok w) {i : Nat} (hi : i < r.n) : Calls Tryz.prog 11 #[.agg r.v, .int .i64 (i : Nat)] w (WayPost w (r.P i)) := by
  have hN := h.nums
  have hb := hN.base
  have hh := hN.homes i hi
  have hc := hN.cols
  have hr := hN.rows
  have hm := hN.many
  rcases h.hH with hz | ⟨gH, oH, e, hgH, hcell⟩
  · omega
  have p0 := hcell i hi 0 (by omega)
  have p1 := hcell i hi 1 (by omega)
  rw [Nat.add_zero] at p0
  refine Way_walk r.v r.bx r.bY (r.hx i) (r.hy i) i r.n r.hc gH oH w (rIs r) rfl rfl (by show some (Value.slice r.ha r.n r.hc) = _; rw [e]) hi hgH p0 p1 (by omega) (by omega) (by omega) (by omega) (fun W => ?_) (fun W hW => ?_)
  · have := rHome r i W hm
    rwa [show isInB (i : Int) 0 ((r.n : Int) - 1) = true by simp [isInB]; omega] at this
  · have hk := h.keep hW
    exact relQuestion_ok r.north r.cols r.lofts r.wrong r.bx r.bY r.sl r.sh r.lw r.lg r.lh r.hours r.dark r.east r.svs r.n r.k r.h r.f r.ea r.sa r.ha r.fa r.ec r.sc r.hc r.fc W hk.he hk.hs hk.hk hk.hr hk.hH hk.hF hk.hk12 hk.hfo
end Go.Proofs.YtcekdljjmfkacaaGreat
