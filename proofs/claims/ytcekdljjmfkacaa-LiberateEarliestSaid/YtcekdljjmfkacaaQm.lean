import Derived.Test.YtcekdljjmfkacaaQk
import Derived.Test.YtcekdljjmfkacaaOv
set_option linter.unusedSimpArgs false
set_option linter.unusedVariables false
namespace Go.Proofs.Ytcekdljjmfkacaa
open Go.RowKit Go.Shelf
attribute [local go_sem] Oper.semAt_some wide_fn wide_dep wideR_fn wideR_dep
/-- minutes that are asked of no release: outside the bounds -/
def OffE (minute to : Int) : Prop := to < minute ∨ 40 < to - minute ∨ 9999 < to
set_option maxRecDepth 100000 in
set_option maxHeartbeats 8000000 in
theorem EarlyOut_walk (REL : Array Value) (home minute to px py hr : Int) (w : World) (hIs : IsRel REL) (hto : -9223372036854775808 ≤ to ∧ to ≤ 9223372036854775807)
    (hV : ∀ W, G w W → Calls Try.prog 12 #[.agg REL, .int .i64 home, .int .i64 minute] W (ValidPost W ((0 ≤ minute ∧ minute ≤ 9999) ∧ OffE minute to))) :
    Calls Try.prog 9 #[.agg REL, .agg #[.int .i64 home, .int .i64 minute, .int .i64 to, .int .i64 px, .int .i64 py, .int .i64 hr]] w fun e w' => e = .returned (.bool true) ∧ G w w' := by
  have HIS := Lib.hid hIs
  have HV := Lib.hid hV
  have HWK := Lib.hid (fun W : World => works_any W)
  clear hIs hV
  have g0 : G w ((w.alloc (.cells REL 35)).alloc (.cells #[.int .i64 home, .int .i64 minute, .int .i64 to, .int .i64 px, .int .i64 py, .int .i64 hr] 62)) := ((G.rf _).a _).a _
  have b0 : Blk ((w.alloc (.cells REL 35)).alloc (.cells #[.int .i64 home, .int .i64 minute, .int .i64 to, .int .i64 px, .int .i64 py, .int .i64 hr] 62)) w.heap.size 35 REL := (Blk.new w 35 REL).keep ((G.rf _).a _)
  have c0 : Blk ((w.alloc (.cells REL 35)).alloc (.cells #[.int .i64 home, .int .i64 minute, .int .i64 to, .int .i64 px, .int .i64 py, .int .i64 hr] 62)) (w.heap.size + 1) 62 #[.int .i64 home, .int .i64 minute, .int .i64 to, .int .i64 px, .int .i64 py, .int .i64 hr] := by
    have := Blk.new (w.alloc (.cells REL 35)) 62 #[.int .i64 home, .int .i64 minute, .int .i64 to, .int .i64 px, .int .i64 py, .int .i64 hr]
    rwa [show (w.alloc (.cells REL 35)).heap.size = w.heap.size + 1 by simp] at this
  go_enter Try.func9, Try.ntmps9
  go_upto_region 1 with fail
  change Code.wp _ _ _ _ ((w.alloc (.cells REL 35)).alloc (.cells #[.int .i64 home, .int .i64 minute, .int .i64 to, .int .i64 px, .int .i64 py, .int .i64 hr] 62))
  generalize (w.alloc (.cells REL 35)).alloc (.cells #[.int .i64 home, .int .i64 minute, .int .i64 to, .int .i64 px, .int .i64 py, .int .i64 hr] 62) = w1 at *
  have x0 : w1.cell? ⟨w.heap.size + 1, 0, none⟩ = some (.int .i64 home) := c0.cell 0
  have x1 : w1.cell? ⟨w.heap.size + 1, 1, none⟩ = some (.int .i64 minute) := c0.cell 1
  have lx := c0.lt
  refine wp_region_lit ?_
  refine wpList_load35 w.heap.size 2 HIS.out rfl rfl rfl b0 ?_
  try simp only [Act.put, List.getElem_toArray, List.getElem_cons_zero, List.getElem_cons_succ, List.setIfInBounds_toArray, List.set_cons_zero, List.set_cons_succ]
  refine wpList_plain rfl fun K hK => ?_
  go_simp
  refine hK _ _ ?_
  clear hK
  try simp only [Act.put, List.getElem_toArray, List.getElem_cons_zero, List.getElem_cons_succ, List.setIfInBounds_toArray, List.set_cons_zero, List.set_cons_succ]
  refine wpList_plain rfl fun K hK => ?_
  go_simp
  refine hK _ _ ?_
  clear hK
  try simp only [Act.put, List.getElem_toArray, List.getElem_cons_zero, List.getElem_cons_succ, List.setIfInBounds_toArray, List.set_cons_zero, List.set_cons_succ]
  refine wpList_plain rfl fun K hK => ?_
  go_simp
  refine hK _ _ ?_
  clear hK
  try simp only [Act.put, List.getElem_toArray, List.getElem_cons_zero, List.getElem_cons_succ, List.setIfInBounds_toArray, List.set_cons_zero, List.set_cons_succ]
  refine wpList_plain rfl fun K hK => ?_
  go_simp
  refine hK _ _ ?_
  clear hK
  try simp only [Act.put, List.getElem_toArray, List.getElem_cons_zero, List.getElem_cons_succ, List.setIfInBounds_toArray, List.set_cons_zero, List.set_cons_succ]
  refine wpList_plain rfl fun K hK => ?_
  go_simp
  refine (HV.out _ g0).mono ?_
  rintro e w2 ⟨b, rfl, hb, hG2⟩
  refine hK _ _ ?_
  clear hK K HV x0 x1 lx
  try simp only [Act.put, List.getElem_toArray, List.getElem_cons_zero, List.getElem_cons_succ, List.setIfInBounds_toArray, List.set_cons_zero, List.set_cons_succ]
  replace b0 := b0.keep hG2
  replace c0 := c0.keep hG2
  replace g0 := g0.t hG2
  clear hG2
  have lx := c0.lt
  have lb := b0.lt
  cases b
  · clear hb
    go_wp2_with (go_at_call 13; refine (HWK.out _).mono ?_; rintro e w3 ⟨rfl, hG3⟩)
    go_ret
    exact ⟨rfl, g0.t hG3⟩
  obtain ⟨⟨a1, a2⟩, hoff⟩ := hb rfl
  unfold OffE at hoff
  clear hb
  have x1 : w2.cell? ⟨w.heap.size + 1, 1, none⟩ = some (.int .i64 minute) := c0.cell 1
  have x2 : w2.cell? ⟨w.heap.size + 1, 2, none⟩ = some (.int .i64 to) := c0.cell 2
  by_cases q1 : to < minute
  · clear hoff a1 a2 hto
    have t1 : decide (to < minute) = true := decide_eq_true q1
    go_wp2_with (go_at_call 13; refine (HWK.out _).mono ?_; rintro e w3 ⟨rfl, hG3⟩)
    go_ret
    exact ⟨rfl, g0.t hG3⟩
  have t1 : decide (to < minute) = false := decide_eq_false q1
  obtain ⟨d, hd⟩ : ∃ d, d = to - minute := ⟨_, rfl⟩
  have xd : IntKind.i64.wrap (to - minute) = d := by rw [hd]; exact IntWalk.i64_in _ (by omega)
  rw [← hd] at hoff
  clear hd hto a1 a2
  by_cases q2 : 40 < d
  · clear hoff
    have t2 : decide (40 < d) = true := decide_eq_true q2
    go_wp2_with (go_at_call 13; refine (HWK.out _).mono ?_; rintro e w3 ⟨rfl, hG3⟩)
    go_ret
    exact ⟨rfl, g0.t hG3⟩
  have t2 : decide (40 < d) = false := decide_eq_false q2
  have q3 : 9999 < to := by omega
  have t3 : decide (9999 < to) = true := decide_eq_true q3
  clear hoff
  go_wp2_with (go_at_call 13; refine (HWK.out _).mono ?_; rintro e w3 ⟨rfl, hG3⟩)
  go_ret
  exact ⟨rfl, g0.t hG3⟩
end Go.Proofs.Ytcekdljjmfkacaa
