import Derived.Test.YtcekdljjmfkacaaQj
import Derived.Test.YtcekdljjmfkacaaOz
import Derived.Deep.Cut
import Derived.Test.YtcekdljjmfkacaaOv
set_option linter.unusedSimpArgs false
set_option linter.unusedVariables false
namespace Go.Proofs.Ytcekdljjmfkacaa
open Go.RowKit Go.Shelf
theorem rnd0_zero : rnd 0 0 = 0 := by decide +kernel
theorem sqI_self (north : Int) (east : List Int) (a b : Int) : sqI north east a b a b = 0 := by
  simp [sqI]
/-- the reference and the program count the same latest minute -/
theorem hiR_eq {r : Rl} (h : r.Nums) {j : Nat} (hj : j < r.n) : hiR r j = r.st j (r.ns j - 1) 3 := by
  have hns := Rl.ns_le h hj
  have hl : lenS r.north r.east (r.P j) (r.ns j - 1) = 0 := by
    unfold lenS
    rw [show min (r.ns j - 1 + 1) ((r.P j).length - 1) = r.ns j - 1 by show min (r.ns j - 1 + 1) (r.ns j - 1) = _; omega, sqI_self]
    exact rnd0_zero
  simp only [Rl.st, if_pos (show r.ns j - 1 < r.ns j by omega)]
  unfold hiR hiT
  rw [hl]
  rfl
theorem anyU_or (p q : Nat → Bool) (n : Nat) : anyU (fun j => p j || q j) n = (anyU p n || anyU q n) := by
  unfold anyU
  induction n with
  | zero => rfl
  | succ n ih =>
    rw [List.range_succ]
    simp only [List.any_append, List.any_cons, List.any_nil, Bool.or_false] at ih ⊢
    rw [ih]
    cases p n <;> cases q n <;> cases (List.range n).any p <;> cases (List.range n).any q <;> rfl
theorem anyU_congr {p q : Nat → Bool} {n : Nat} (h : ∀ j, j < n → p j = q j) : anyU p n = anyU q n := by
  unfold anyU
  rw [Bool.eq_iff_iff, List.any_eq_true, List.any_eq_true]
  exact ⟨fun ⟨x, hx, hp⟩ => ⟨x, hx, by rw [← h x (List.mem_range.1 hx)]; exact hp⟩, fun ⟨x, hx, hp⟩ => ⟨x, hx, by rw [h x (List.mem_range.1 hx)]; exact hp⟩⟩
/-- the convoy may be set free just if it is light at the end and no home is blocked -/
theorem flyB_eq {r : Rl} (h : r.Nums) (m : Nat) : flyB r m = (lightB r m && !anyU (fun j => (r.blk m j).isSome) r.n) := by
  unfold flyB lightB
  rw [← Bool.not_or, ← anyU_or]
  congr 1
  refine anyU_congr fun j hj => ?_
  unfold fly1
  rw [hiR_eq h hj, Bool.not_and, Bool.not_not]
  rfl
/-- Blocks is empty just if no home is blocked -/
theorem bks_len0 (l : Nat → Option (Nat × Nat)) (n : Nat) : (decide ((bks l n).length = 0)) = !anyU (fun j => (l j).isSome) n := by
  induction n with
  | zero => rfl
  | succ n ih =>
    have e : anyU (fun j => (l j).isSome) (n + 1) = (anyU (fun j => (l j).isSome) n || (l n).isSome) := by
      unfold anyU
      rw [List.range_succ]
      simp
    rw [e]
    cases h : l n with
    | none => rw [bks_none h, ih]; simp
    | some p => rw [bks_some h]; simp
/-- Blocks names a home just if it is blocked -/
theorem bks_any (l : Nat → Option (Nat × Nat)) (n h : Nat) : (bks l n).any (fun b => b.1 == h) = (decide (h < n) && (l h).isSome) := by
  induction n with
  | zero => simp [bks]
  | succ n ih =>
    cases hl : l n with
    | none =>
      rw [bks_none hl, ih]
      rcases Nat.lt_trichotomy h n with c | c | c
      · simp [c, Nat.lt_succ_of_lt c]
      · subst c; simp [hl]
      · simp [show ¬ h < n by omega, show ¬ h < n + 1 by omega]
    | some p =>
      rw [bks_some hl, List.any_append, ih]
      rcases Nat.lt_trichotomy h n with c | c | c
      · simp [c, Nat.lt_succ_of_lt c, show ¬ n = h by omega]
      · subst c; simp [hl]
      · simp [show ¬ h < n by omega, show ¬ h < n + 1 by omega, show ¬ n = h by omega]
end Go.Proofs.Ytcekdljjmfkacaa
set_option linter.unusedSimpArgs false
set_option linter.unusedVariables false
namespace Go.Proofs.Ytcekdljjmfkacaa
open Go.RowKit Go.ChangeShapes Go.WideShapes Go.ChangeAt
set_option maxRecDepth 100000
attribute [local go_sem] Oper.semAt_some wide_fn wide_dep wideR_fn wideR_dep
section
variable {H : Type} {enc : TypeId × Value → H} {w : World}
theorem k27q : Try.prog.cellsOf 27 = 2 := by kernel_rfl
theorem k62 : Try.prog.cellsOf 62 = 6 := by kernel_rfl
/-- an ask that is handed in: a home, two minutes, a place, an hour -/
theorem ask3_val {v : Value} {d : DataW H} {p : List MemPlace} {r : Reach} {b0 : Nat} (hv : Value.okWide Try.prog w r b0 62 v) (h : DataW.Trod enc Try.prog w 0 (fun _ => true) true 62 v d p) :
    ∃ a b c px py d : Int, v = .agg #[.int .i64 a, .int .i64 b, .int .i64 c, .int .i64 px, .int .i64 py, .int .i64 d] := by
  obtain ⟨cs, rfl, hsz⟩ := okWide_struct Try.underlying62 hv
  rw [k62] at hsz
  obtain ⟨l⟩ := cs
  obtain ⟨fuel, hf0⟩ := h
  obtain ⟨xs, n, _, _, hl, hlen, hf⟩ := DataW.trod_struct Try.underlying62 hf0
  match l, hsz, xs, hlen with
  | [c0, c1, c2, c3, c4, c5], _, [y0, y1, y2, y3, y4], _ =>
    have h0 := hf 0 _ rfl
    have h1 := hf 1 _ rfl
    have h2 := hf 2 _ rfl
    have h3 := hf 3 _ rfl
    have h4 := hf 4 _ rfl
    simp [k3, k27q, Value.cells] at h0 h1 h2 h3 h4
    obtain ⟨a0, e0, _, _⟩ := DataW.trod_int Try.underlying3 h0
    obtain ⟨a1, e1, _, _⟩ := DataW.trod_int Try.underlying3 h1
    obtain ⟨a2, e2, _, _⟩ := DataW.trod_int Try.underlying3 h2
    obtain ⟨a3, a4, e3⟩ := point_of h3
    obtain ⟨a5, e4, _, _⟩ := DataW.trod_int Try.underlying3 h4
    simp at e0 e1 e2 e3 e4
    exact ⟨a0, a1, a2, a3, a4, a5, by simp [e0, e1, e2, e3, e4]⟩
end
end Go.Proofs.Ytcekdljjmfkacaa
set_option linter.unusedSimpArgs false
set_option linter.unusedVariables false
namespace Go.Proofs.Ytcekdljjmfkacaa
open Go.RowKit Go.Shelf
attribute [local go_sem] Oper.semAt_some wide_fn wide_dep wideR_fn wideR_dep
/-- minutes that are asked of no release: outside the bounds -/
def OffE (minute to : Int) : Prop := to < minute ∨ 40 < to - minute ∨ 9999 < to
set_option maxRecDepth 100000 in
set_option maxHeartbeats 8000000 in
theorem EarlyOut_walk (REL : Array Value) (home minute to px py hr : Int) (w : World) (hIs : IsRel REL) (hto : -9223372036854775808 ≤ to ∧ to ≤ 9223372036854775807)
    (hV : ∀ W, G w W → Calls Try.prog 12 #[.agg REL, .int .i64 home, .int .i64 minute] W (ValidPost W ((0 ≤ minute ∧ minute ≤ 9999) ∧ OffE minute to))) :
    Calls Try.prog 9 #[.agg REL, .agg #[.int .i64 home, .int .i64 minute, .int .i64 to, .int .i64 px, .int .i64 py, .int .i64 hr]] w fun e w' => e = .returned (.bool true) ∧ G w w' := by
  have HIS := Lib.hid hIs
  have HV := Lib.hid hV
  have HWK := Lib.hid (fun W : World => works_any W)
  clear hIs hV
  have g0 : G w ((w.alloc (.cells REL 35)).alloc (.cells #[.int .i64 home, .int .i64 minute, .int .i64 to, .int .i64 px, .int .i64 py, .int .i64 hr] 62)) := ((G.rf _).a _).a _
  have b0 : Blk ((w.alloc (.cells REL 35)).alloc (.cells #[.int .i64 home, .int .i64 minute, .int .i64 to, .int .i64 px, .int .i64 py, .int .i64 hr] 62)) w.heap.size 35 REL := (Blk.new w 35 REL).keep ((G.rf _).a _)
  have c0 : Blk ((w.alloc (.cells REL 35)).alloc (.cells #[.int .i64 home, .int .i64 minute, .int .i64 to, .int .i64 px, .int .i64 py, .int .i64 hr] 62)) (w.heap.size + 1) 62 #[.int .i64 home, .int .i64 minute, .int .i64 to, .int .i64 px, .int .i64 py, .int .i64 hr] := by
    have := Blk.new (w.alloc (.cells REL 35)) 62 #[.int .i64 home, .int .i64 minute, .int .i64 to, .int .i64 px, .int .i64 py, .int .i64 hr]
    rwa [show (w.alloc (.cells REL 35)).heap.size = w.heap.size + 1 by simp] at this
  go_enter Try.func9, Try.ntmps9
  go_upto_region 1 with fail
  change Code.wp _ _ _ _ ((w.alloc (.cells REL 35)).alloc (.cells #[.int .i64 home, .int .i64 minute, .int .i64 to, .int .i64 px, .int .i64 py, .int .i64 hr] 62))
  generalize (w.alloc (.cells REL 35)).alloc (.cells #[.int .i64 home, .int .i64 minute, .int .i64 to, .int .i64 px, .int .i64 py, .int .i64 hr] 62) = w1 at *
  have x0 : w1.cell? ⟨w.heap.size + 1, 0, none⟩ = some (.int .i64 home) := c0.cell 0
  have x1 : w1.cell? ⟨w.heap.size + 1, 1, none⟩ = some (.int .i64 minute) := c0.cell 1
  have lx := c0.lt
  refine wp_region_lit ?_
  refine wpList_load35 w.heap.size 2 HIS.out rfl rfl rfl b0 ?_
  try simp only [Act.put, List.getElem_toArray, List.getElem_cons_zero, List.getElem_cons_succ, List.setIfInBounds_toArray, List.set_cons_zero, List.set_cons_succ]
  refine wpList_plain rfl fun K hK => ?_
  go_simp
  refine hK _ _ ?_
  clear hK
  try simp only [Act.put, List.getElem_toArray, List.getElem_cons_zero, List.getElem_cons_succ, List.setIfInBounds_toArray, List.set_cons_zero, List.set_cons_succ]
  refine wpList_plain rfl fun K hK => ?_
  go_simp
  refine hK _ _ ?_
  clear hK
  try simp only [Act.put, List.getElem_toArray, List.getElem_cons_zero, List.getElem_cons_succ, List.setIfInBounds_toArray, List.set_cons_zero, List.set_cons_succ]
  refine wpList_plain rfl fun K hK => ?_
  go_simp
  refine hK _ _ ?_
  clear hK
  try simp only [Act.put, List.getElem_toArray, List.getElem_cons_zero, List.getElem_cons_succ, List.setIfInBounds_toArray, List.set_cons_zero, List.set_cons_succ]
  refine wpList_plain rfl fun K hK => ?_
  go_simp
  refine hK _ _ ?_
  clear hK
  try simp only [Act.put, List.getElem_toArray, List.getElem_cons_zero, List.getElem_cons_succ, List.setIfInBounds_toArray, List.set_cons_zero, List.set_cons_succ]
  refine wpList_plain rfl fun K hK => ?_
  go_simp
  refine (HV.out _ g0).mono ?_
  rintro e w2 ⟨b, rfl, hb, hG2⟩
  refine hK _ _ ?_
  clear hK K HV x0 x1 lx
  try simp only [Act.put, List.getElem_toArray, List.getElem_cons_zero, List.getElem_cons_succ, List.setIfInBounds_toArray, List.set_cons_zero, List.set_cons_succ]
  replace b0 := b0.keep hG2
  replace c0 := c0.keep hG2
  replace g0 := g0.t hG2
  clear hG2
  have lx := c0.lt
  have lb := b0.lt
  cases b
  · clear hb
    go_wp2_with (go_at_call 13; refine (HWK.out _).mono ?_; rintro e w3 ⟨rfl, hG3⟩)
    go_ret
    exact ⟨rfl, g0.t hG3⟩
  obtain ⟨⟨a1, a2⟩, hoff⟩ := hb rfl
  unfold OffE at hoff
  clear hb
  have x1 : w2.cell? ⟨w.heap.size + 1, 1, none⟩ = some (.int .i64 minute) := c0.cell 1
  have x2 : w2.cell? ⟨w.heap.size + 1, 2, none⟩ = some (.int .i64 to) := c0.cell 2
  by_cases q1 : to < minute
  · clear hoff a1 a2 hto
    have t1 : decide (to < minute) = true := decide_eq_true q1
    go_wp2_with (go_at_call 13; refine (HWK.out _).mono ?_; rintro e w3 ⟨rfl, hG3⟩)
    go_ret
    exact ⟨rfl, g0.t hG3⟩
  have t1 : decide (to < minute) = false := decide_eq_false q1
  obtain ⟨d, hd⟩ : ∃ d, d = to - minute := ⟨_, rfl⟩
  have xd : IntKind.i64.wrap (to - minute) = d := by rw [hd]; exact IntWalk.i64_in _ (by omega)
  rw [← hd] at hoff
  clear hd hto a1 a2
  by_cases q2 : 40 < d
  · clear hoff
    have t2 : decide (40 < d) = true := decide_eq_true q2
    go_wp2_with (go_at_call 13; refine (HWK.out _).mono ?_; rintro e w3 ⟨rfl, hG3⟩)
    go_ret
    exact ⟨rfl, g0.t hG3⟩
  have t2 : decide (40 < d) = false := decide_eq_false q2
  have q3 : 9999 < to := by omega
  have t3 : decide (9999 < to) = true := decide_eq_true q3
  clear hoff
  go_wp2_with (go_at_call 13; refine (HWK.out _).mono ?_; rintro e w3 ⟨rfl, hG3⟩)
  go_ret
  exact ⟨rfl, g0.t hG3⟩
end Go.Proofs.Ytcekdljjmfkacaa
