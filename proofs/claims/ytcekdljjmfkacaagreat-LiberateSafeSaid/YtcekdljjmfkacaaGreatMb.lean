import Derived.Test.YtcekdljjmfkacaaGreatLx
import Derived.Test.YtcekdljjmfkacaaGreatMa
import Derived.Laws.StructEq
set_option linter.unusedSimpArgs false
set_option linter.unusedVariables false
namespace Go.Proofs.YtcekdljjmfkacaaGreat
open Go.RowKit
attribute [local go_sem] Oper.semAt_some

/-- what is known of the weather: the winds, the sights, the heats from and to -/
structure Sk where
  wl : Int
  wh : Int
  sl : Int
  sh : Int
  hl : Int
  hh : Int
def Sk.v (s : Sk) : Array Value := #[.int .i64 s.wl, .int .i64 s.wh, .int .i64 s.sl, .int .i64 s.sh, .int .i64 s.hl, .int .i64 s.hh]
def Sk.both (a b : Sk) : Sk := ⟨max a.wl b.wl, min a.wh b.wh, max a.sl b.sl, min a.sh b.sh, max a.hl b.hl, min a.hh b.hh⟩
def skAny : Sk := ⟨0, 999, 0, 999, 0, 999⟩
def skNone (s : Sk) : Bool := decide (s.wh < s.wl) || (decide (s.sh < s.sl) || decide (s.hh < s.hl))
def skLim (lw lg lh : Int) : Sk := ⟨0, lw, lg, 999, 0, lh⟩
def skEq (a b : Sk) : Bool := (a.wl == b.wl && a.wh == b.wh) && ((a.sl == b.sl && a.sh == b.sh) && (a.hl == b.hl && a.hh == b.hh))
def skIn (s l : Sk) : Bool := skEq (s.both l) s
def skOut (s l : Sk) : Bool := skNone (s.both l)

theorem max2 (a b : Int) (w : World) : (Builtin.max_ #[3, 3] 3 #[.int .i64 a, .int .i64 b]).run Tryz.prog w = .ok (.int .i64 (max a b)) w := by
  simp only [Builtin.max_, List.foldlM]
  simp [go_sem, Builtin.max2]
  split <;> omega
theorem min2 (a b : Int) (w : World) : (Builtin.min_ #[3, 3] 3 #[.int .i64 a, .int .i64 b]).run Tryz.prog w = .ok (.int .i64 (min a b)) w := by
  simp only [Builtin.min_, List.foldlM]
  simp [go_sem, Builtin.min2]
  split <;> omega
theorem resSpan (f : Func) (t : Nat) (tmps : Array Value) (w : World) (g : Nat) (x y : Int) (hr : f.results = #[.cell t 30]) (h : tmps.getD t undef = .pointer (some ⟨g, 0, none⟩)) (c0 : w.cell? ⟨g, 0, none⟩ = some (.int .i64 x)) (c1 : w.cell? ⟨g, 1, none⟩ = some (.int .i64 y)) :
    (results f tmps).run Tryz.prog w = .ok (.agg #[.int .i64 x, .int .i64 y]) w := by
  have h' : tmps[t]?.getD undef = .pointer (some ⟨g, 0, none⟩) := by simpa using h
  simp only [results, hr]
  go_simp
theorem resSky (f : Func) (t : Nat) (tmps : Array Value) (w : World) (g : Nat) (s : Sk) (hr : f.results = #[.cell t 93]) (h : tmps.getD t undef = .pointer (some ⟨g, 0, none⟩)) (hB : Blk w g 93 s.v) :
    (results f tmps).run Tryz.prog w = .ok (.agg s.v) w := by
  have h' : tmps[t]?.getD undef = .pointer (some ⟨g, 0, none⟩) := by simpa using h
  have c0 : w.cell? ⟨g, 0, none⟩ = some (.int .i64 s.wl) := hB.cell 0
  have c1 : w.cell? ⟨g, 1, none⟩ = some (.int .i64 s.wh) := hB.cell 1
  have c2 : w.cell? ⟨g, 2, none⟩ = some (.int .i64 s.sl) := hB.cell 2
  have c3 : w.cell? ⟨g, 3, none⟩ = some (.int .i64 s.sh) := hB.cell 3
  have c4 : w.cell? ⟨g, 4, none⟩ = some (.int .i64 s.hl) := hB.cell 4
  have c5 : w.cell? ⟨g, 5, none⟩ = some (.int .i64 s.hh) := hB.cell 5
  clear hB
  simp only [results, hr]
  go_simp
  rfl
theorem w3_spec6 (w : World) (c0 c1 c2 : Array Value) (t0 t1 t2 : TypeId) : G w (((w.alloc (.cells c0 t0)).alloc (.cells c1 t1)).alloc (.cells c2 t2)) ∧ Blk (((w.alloc (.cells c0 t0)).alloc (.cells c1 t1)).alloc (.cells c2 t2)) w.heap.size t0 c0 ∧ Blk (((w.alloc (.cells c0 t0)).alloc (.cells c1 t1)).alloc (.cells c2 t2)) (w.heap.size + 1) t1 c1 ∧ Blk (((w.alloc (.cells c0 t0)).alloc (.cells c1 t1)).alloc (.cells c2 t2)) (w.heap.size + 1 + 1) t2 c2 :=
  ⟨(((G.rf _).a _).a _).a _, ((Blk.new w t0 c0).alloc _).alloc _, (Blk.new1 w _ t1 c1).alloc _, Blk.new2 w _ _ t2 c2⟩
theorem both_any (a b c d : Int) (w : World) : Calls Tryz.prog 125 #[.agg #[.int .i64 a, .int .i64 b], .agg #[.int .i64 c, .int .i64 d]] w fun e w' => e = .returned (.agg #[.int .i64 (max a c), .int .i64 (min b d)]) ∧ G w w' := by
  have hmx := fun W => max2 a c W
  have hmn := fun W => min2 b d W
  go_enter Tryz.func125, Tryz.ntmps125
  go_wp2
  have b2 : Blk (((w.alloc (.cells #[.int .i64 a, .int .i64 b] 30)).alloc (.cells #[.int .i64 c, .int .i64 d] 30)).alloc (.cells #[.int .i64 (max a c), .int .i64 (min b d)] 30)) (w.heap.size + 1 + 1) 30 #[.int .i64 (max a c), .int .i64 (min b d)] := (w3_spec6 w _ _ _ _ _ _).2.2.2
  exact bodyPost_ret (resSpan Tryz.f125 4 _ _ (w.heap.size + 1 + 1) _ _ rfl rfl (b2.cell 0) (b2.cell 1)) rfl ⟨rfl, (((G.rf _).a _).a _).a _⟩
theorem isNone_any (a b : Int) (w : World) : Calls Tryz.prog 124 #[.agg #[.int .i64 a, .int .i64 b]] w fun e w' => e = .returned (.bool (decide (b < a))) ∧ G w w' := by
  go_enter Tryz.func124, Tryz.ntmps124
  go_wp2
  go_ret
  exact ⟨by simp, (G.rf _).a _⟩
theorem anySky_any (w : World) : Calls Tryz.prog 81 #[] w fun e w' => e = .returned (.agg skAny.v) ∧ G w w' := by
  go_enter Tryz.func81, Tryz.ntmps81
  go_wp2
  exact bodyPost_ret (resSky Tryz.f81 0 _ _ w.heap.size skAny rfl rfl (Blk.new w 93 skAny.v)) rfl ⟨rfl, (G.rf _).a _⟩
theorem skyOf_any (s : Sk) (w : World) : Calls Tryz.prog 123 #[.agg s.v] w fun e w' => e = .returned (.agg s.v) ∧ G w w' := by
  obtain ⟨wl, wh, sl, sh, hl, hh⟩ := s
  go_enter Tryz.func123, Tryz.ntmps123
  simp only [Sk.v]
  go_wp2
  exact bodyPost_ret (resSky Tryz.f123 2 _ _ (w.heap.size + 1) ⟨wl, wh, sl, sh, hl, hh⟩ rfl rfl (Blk.new1 w _ 93 _)) rfl ⟨rfl, ((G.rf _).a _).a _⟩
theorem limitsOf_any (lw lg lh : Int) (w : World) : Calls Tryz.prog 88 #[.agg #[.int .i64 lw, .int .i64 lg, .int .i64 lh]] w fun e w' => e = .returned (.agg (skLim lw lg lh).v) ∧ G w w' := by
  go_enter Tryz.func88, Tryz.ntmps88
  go_wp2
  exact bodyPost_ret (resSky Tryz.f88 2 _ _ (w.heap.size + 1) (skLim lw lg lh) rfl rfl (Blk.new1 w _ 93 _)) rfl ⟨rfl, ((G.rf _).a _).a _⟩
end Go.Proofs.YtcekdljjmfkacaaGreat
set_option linter.unusedSimpArgs false
set_option linter.unusedVariables false
namespace Go.Proofs.YtcekdljjmfkacaaGreat
open Go.RowKit
attribute [local go_sem] Oper.semAt_some

theorem far_trans {W W1 : World} {g : Nat} (h : ∀ b, b ≠ g → W1.heap[b]? = W.heap[b]?) (i : Nat) (u : Value) : ∀ b, b ≠ g → (W1.setCell ⟨g, i, none⟩ u).heap[b]? = W.heap[b]? := fun b hb => (Below.heap_setCell W1 ⟨g, i, none⟩ u b hb).trans (h b hb)
theorem Blk.awayB {W W2 : World} {b g : Nat} {t : TypeId} {cs : Array Value} (hb : Blk W b t cs) (hne : b ≠ g) (hF : ∀ b, b ≠ g → W2.heap[b]? = W.heap[b]?) : Blk W2 b t cs := by
  unfold Blk at *
  rw [hF b hne]
  exact hb
theorem load102 (w : World) (g t : Nat) {s : Sk} (op : Oper) (ev : Operand → Value) (ho : op.op = .load 93 (.tmp t)) (hv : ev (.tmp t) = .pointer (some ⟨g, 0, none⟩)) (hB : Blk w g 93 s.v) :
    (execOp ev op).run Tryz.prog w = .ok (.value (.agg s.v)) w := by
  have c0 : w.cell? ⟨g, 0, none⟩ = some (.int .i64 s.wl) := hB.cell 0
  have c1 : w.cell? ⟨g, 1, none⟩ = some (.int .i64 s.wh) := hB.cell 1
  have c2 : w.cell? ⟨g, 2, none⟩ = some (.int .i64 s.sl) := hB.cell 2
  have c3 : w.cell? ⟨g, 3, none⟩ = some (.int .i64 s.sh) := hB.cell 3
  have c4 : w.cell? ⟨g, 4, none⟩ = some (.int .i64 s.hl) := hB.cell 4
  have c5 : w.cell? ⟨g, 5, none⟩ = some (.int .i64 s.hh) := hB.cell 5
  clear hB
  unfold execOp
  simp only [ho, hv]
  go_simp
  rfl
set_option maxHeartbeats 1000000 in
theorem store102 (W : World) (g t k : Nat) {o s : Sk} (op : Oper) (ev : Operand → Value) (ho : op.op = .store 93 (.tmp t) (.tmp k)) (hv : ev (.tmp t) = .pointer (some ⟨g, 0, none⟩)) (hs : ev (.tmp k) = .agg s.v) (hB : Blk W g 93 o.v) :
    ∃ W2, (execOp ev op).run Tryz.prog W = .ok .skip W2 ∧ Blk W2 g 93 s.v ∧ (∀ b, b ≠ g → W2.heap[b]? = W.heap[b]?) ∧ ∀ w0 : World, w0.heap.size ≤ g → G w0 W → G w0 W2 := by
  obtain ⟨x0, x1, x2, x3, x4, x5⟩ := s
  have c0 : W.cell? ⟨g, 0, none⟩ = some (.int .i64 o.wl) := hB.cell 0
  have c1 : W.cell? ⟨g, 1, none⟩ = some (.int .i64 o.wh) := hB.cell 1
  have c2 : W.cell? ⟨g, 2, none⟩ = some (.int .i64 o.sl) := hB.cell 2
  have c3 : W.cell? ⟨g, 3, none⟩ = some (.int .i64 o.sh) := hB.cell 3
  have c4 : W.cell? ⟨g, 4, none⟩ = some (.int .i64 o.hl) := hB.cell 4
  have c5 : W.cell? ⟨g, 5, none⟩ = some (.int .i64 o.hh) := hB.cell 5
  have z0 := hB.frozen 0
  have z1 := hB.frozen 1
  have z2 := hB.frozen 2
  have z3 := hB.frozen 3
  have z4 := hB.frozen 4
  have z5 := hB.frozen 5
  have lB := hB.lt
  refine ⟨((((((W).setCell ⟨g, 0, none⟩ (.int .i64 x0)).setCell ⟨g, 1, none⟩ (.int .i64 x1)).setCell ⟨g, 2, none⟩ (.int .i64 x2)).setCell ⟨g, 3, none⟩ (.int .i64 x3)).setCell ⟨g, 4, none⟩ (.int .i64 x4)).setCell ⟨g, 5, none⟩ (.int .i64 x5), ?_, ?_, ?_, fun w0 hg hG => ((((((hG).s (p := ⟨g, 0, none⟩) hg (.int .i64 x0)).s (p := ⟨g, 1, none⟩) hg (.int .i64 x1)).s (p := ⟨g, 2, none⟩) hg (.int .i64 x2)).s (p := ⟨g, 3, none⟩) hg (.int .i64 x3)).s (p := ⟨g, 4, none⟩) hg (.int .i64 x4)).s (p := ⟨g, 5, none⟩) hg (.int .i64 x5)⟩
  · clear hB
    unfold execOp
    simp only [ho, hv, hs, Sk.v]
    go_simp
  · have b := ((((((hB).set_ 0 (.int .i64 x0)).set_ 1 (.int .i64 x1)).set_ 2 (.int .i64 x2)).set_ 3 (.int .i64 x3)).set_ 4 (.int .i64 x4)).set_ 5 (.int .i64 x5)
    simp only [Sk.v, List.setIfInBounds_toArray, List.set_cons_zero, List.set_cons_succ] at b
    exact b
  · exact far_trans (far_trans (far_trans (far_trans (far_trans (far_trans (fun _ _ => rfl) 0 (.int .i64 x0)) 1 (.int .i64 x1)) 2 (.int .i64 x2)) 3 (.int .i64 x3)) 4 (.int .i64 x4)) 5 (.int .i64 x5)
section
variable {P : Program} {w : World} {ops : Array Oper} {rest : List Oper} {o : Oper} {a : Act} {Q : Exit → Act → World → Prop}
theorem wpList_load102 (g t : Nat) {s : Sk} (hgd : o.guard = none) (ho : o.op = .load 93 (.tmp t)) (hv : a.eval (.tmp t) = .pointer (some ⟨g, 0, none⟩)) (hB : Blk w g 93 s.v)
    (h : wpList Tryz.prog ops Q rest (a.put o.dst (.agg s.v)) w) : wpList Tryz.prog ops Q (o :: rest) a w := by
  refine wpList_plain hgd fun K hK => ?_
  unfold Oper.wp
  rw [load102 w g t o a.eval ho hv hB]
  exact hK _ _ h
theorem wp_store102 {W : World} {K : Act → World → Prop} (g t k : Nat) {x s : Sk} (ho : o.op = .store 93 (.tmp t) (.tmp k)) (hv : a.eval (.tmp t) = .pointer (some ⟨g, 0, none⟩)) (hs : a.eval (.tmp k) = .agg s.v) (hB : Blk W g 93 x.v)
    (hk : ∀ W2, Blk W2 g 93 s.v → (∀ b, b ≠ g → W2.heap[b]? = W.heap[b]?) → (∀ w0 : World, w0.heap.size ≤ g → G w0 W → G w0 W2) → K (a.put o.dst undef) W2) : Oper.wp Tryz.prog o a W K Q := by
  obtain ⟨W2, h1, h2, h3, h4⟩ := store102 W g t k o a.eval ho hv hs hB
  unfold Oper.wp
  rw [h1]
  exact hk W2 h2 h3 h4
theorem wpList_store102 (g t k : Nat) {x s : Sk} (hgd : o.guard = none) (ho : o.op = .store 93 (.tmp t) (.tmp k)) (hv : a.eval (.tmp t) = .pointer (some ⟨g, 0, none⟩)) (hs : a.eval (.tmp k) = .agg s.v) (hB : Blk w g 93 x.v)
    (h : ∀ W2, Blk W2 g 93 s.v → (∀ b, b ≠ g → W2.heap[b]? = w.heap[b]?) → (∀ w0 : World, w0.heap.size ≤ g → G w0 w → G w0 W2) → wpList Tryz.prog ops Q rest (a.put o.dst undef) W2) : wpList Tryz.prog ops Q (o :: rest) a w := by
  refine wpList_plain hgd fun K hK => ?_
  exact wp_store102 g t k ho hv hs hB fun W2 h1 h2 h3 => hK _ _ (h W2 h1 h2 h3)
end
def sk0 : Sk := ⟨0, 0, 0, 0, 0, 0⟩

set_option maxRecDepth 100000 in
set_option maxHeartbeats 4000000 in
theorem and_any (a b : Sk) (w : World) : Calls Tryz.prog 109 #[.agg a.v, .agg b.v] w fun e w' => e = .returned (.agg (a.both b).v) ∧ G w w' := by
  have HB := Lib.hid (fun (x y z u : Int) (W : World) => both_any x y z u W)
  obtain ⟨g0, b0, b1, b2⟩ := w3_spec6 w a.v b.v #[.int .i64 0, .int .i64 0, .int .i64 0, .int .i64 0, .int .i64 0, .int .i64 0] 93 93 93
  go_enter Tryz.func109, Tryz.ntmps109
  go_wp2_with fail
  generalize ((w.alloc (.cells a.v 93)).alloc (.cells b.v 93)).alloc (.cells #[.int .i64 0, .int .i64 0, .int .i64 0, .int .i64 0, .int .i64 0, .int .i64 0] 93) = w1 at *
  go_loopw [6] (fun i wr => G w wr ∧ Blk wr (w.heap.size + 1) 93 b.v ∧ Blk wr (w.heap.size + 1 + 1) 93 #[.int .i64 0, .int .i64 0, .int .i64 0, .int .i64 0, .int .i64 0, .int .i64 0] ∧ ((i = .int .i64 0 ∧ Blk wr w.heap.size 93 #[.int .i64 a.wl, .int .i64 a.wh, .int .i64 a.sl, .int .i64 a.sh, .int .i64 a.hl, .int .i64 a.hh]) ∨ (i = .int .i64 1 ∧ Blk wr w.heap.size 93 #[.int .i64 (max a.wl b.wl), .int .i64 (min a.wh b.wh), .int .i64 a.sl, .int .i64 a.sh, .int .i64 a.hl, .int .i64 a.hh]) ∨ (i = .int .i64 2 ∧ Blk wr w.heap.size 93 #[.int .i64 (max a.wl b.wl), .int .i64 (min a.wh b.wh), .int .i64 (max a.sl b.sl), .int .i64 (min a.sh b.sh), .int .i64 a.hl, .int .i64 a.hh]) ∨ (i = .int .i64 3 ∧ Blk wr w.heap.size 93 #[.int .i64 (max a.wl b.wl), .int .i64 (min a.wh b.wh), .int .i64 (max a.sl b.sl), .int .i64 (min a.sh b.sh), .int .i64 (max a.hl b.hl), .int .i64 (min a.hh b.hh)]))) (fun i _ => 3 - (intOf i).toNat)
  case atStart => exact ⟨g0, b1, b2, .inl ⟨rfl, b0⟩⟩
  case round =>
    obtain ⟨hG, hb, hz, hr⟩ := hrel
    obtain ⟨wo, rfl⟩ : ∃ wo, wo = wr := ⟨_, rfl⟩
    clear g0 b0 b1 b2
    rcases hr with ⟨rfl, ha⟩ | ⟨rfl, ha⟩ | ⟨rfl, ha⟩ | ⟨rfl, ha⟩
    · have hSk : ∀ W', G wo W' → W'.cell? ⟨w.heap.size, 0, none⟩ = some (.int .i64 a.wl) ∧ W'.cell? ⟨w.heap.size, 1, none⟩ = some (.int .i64 a.wh) ∧ W'.cell? ⟨w.heap.size + 1, 0, none⟩ = some (.int .i64 b.wl) ∧ W'.cell? ⟨w.heap.size + 1, 1, none⟩ = some (.int .i64 b.wh) := fun W' hW => ⟨(ha.keep hW).cell 0, (ha.keep hW).cell 1, (hb.keep hW).cell 0, (hb.keep hW).cell 1⟩
      go_wp2_with fail
      refine wp_region_Y (S := fun W' => W'.cell? ⟨w.heap.size, 0, none⟩ = some (.int .i64 a.wl) ∧ W'.cell? ⟨w.heap.size, 1, none⟩ = some (.int .i64 a.wh) ∧ W'.cell? ⟨w.heap.size + 1, 0, none⟩ = some (.int .i64 b.wl) ∧ W'.cell? ⟨w.heap.size + 1, 1, none⟩ = some (.int .i64 b.wh)) 9 10 rfl (by kernel_rfl) (hSk _ (G.rf _).d) (fun hS => ?_)
      refine wpAnyY_take (i := 0) (v := ?_) rfl (by kernel_rfl) (by kernel_rfl) (by kernel_rfl) (by kernel_rfl) (fun _ _ _ h => h) (Or.inl ⟨by kernel_rfl, ?_⟩) hS ?_
      rotate_left
      · intro w' hSw; go_simp; with_reducible rfl
      try simp only [Act.put, List.getElem_toArray, List.getElem_cons_zero, List.getElem_cons_succ, List.setIfInBounds_toArray, List.set_cons_zero, List.set_cons_succ]
      refine wpAnyY_take (i := 1) (v := ?_) rfl (by kernel_rfl) (by kernel_rfl) (by kernel_rfl) (by kernel_rfl) (fun _ _ _ h => h) (Or.inl ⟨by kernel_rfl, ?_⟩) hS ?_
      rotate_left
      · intro w' hSw; go_simp; with_reducible rfl
      try simp only [Act.put, List.getElem_toArray, List.getElem_cons_zero, List.getElem_cons_succ, List.setIfInBounds_toArray, List.set_cons_zero, List.set_cons_succ]
      refine wpAnyY_take (i := 2) (v := ?_) rfl (by kernel_rfl) (by kernel_rfl) (by kernel_rfl) (by kernel_rfl) (fun _ _ _ h => h) (Or.inl ⟨by kernel_rfl, ?_⟩) hS ?_
      rotate_left
      · intro w' hSw; go_simp; with_reducible rfl
      try simp only [Act.put, List.getElem_toArray, List.getElem_cons_zero, List.getElem_cons_succ, List.setIfInBounds_toArray, List.set_cons_zero, List.set_cons_succ]
      refine wpAnyY_take (i := 3) (v := ?_) rfl (by kernel_rfl) (by kernel_rfl) (by kernel_rfl) (by kernel_rfl) (fun _ _ _ h => h) (Or.inl ⟨by kernel_rfl, ?_⟩) hS ?_
      rotate_left
      · intro w' hSw; obtain ⟨y0, y1, y2, y3⟩ := hSw; go_simp; with_reducible rfl
      try simp only [Act.put, List.getElem_toArray, List.getElem_cons_zero, List.getElem_cons_succ, List.setIfInBounds_toArray, List.set_cons_zero, List.set_cons_succ]
      refine wpAnyY_take (i := 4) (v := ?_) rfl (by kernel_rfl) (by kernel_rfl) (by kernel_rfl) (by kernel_rfl) (fun _ _ _ h => h) (Or.inl ⟨by kernel_rfl, ?_⟩) hS ?_
      rotate_left
      · intro w' hSw; go_simp; with_reducible rfl
      try simp only [Act.put, List.getElem_toArray, List.getElem_cons_zero, List.getElem_cons_succ, List.setIfInBounds_toArray, List.set_cons_zero, List.set_cons_succ]
      refine wpAnyY_take (i := 5) (v := ?_) rfl (by kernel_rfl) (by kernel_rfl) (by kernel_rfl) (by kernel_rfl) (fun _ _ _ h => h) (Or.inl ⟨by kernel_rfl, ?_⟩) hS ?_
      rotate_left
      · intro w' hSw; go_simp; with_reducible rfl
      try simp only [Act.put, List.getElem_toArray, List.getElem_cons_zero, List.getElem_cons_succ, List.setIfInBounds_toArray, List.set_cons_zero, List.set_cons_succ]
      refine wpAnyY_take (i := 6) (v := ?_) rfl (by kernel_rfl) (by kernel_rfl) (by kernel_rfl) (by kernel_rfl) (fun _ _ _ h => h) (Or.inl ⟨by kernel_rfl, ?_⟩) hS ?_
      rotate_left
      · intro w' hSw; obtain ⟨y0, y1, y2, y3⟩ := hSw; go_simp; with_reducible rfl
      try simp only [Act.put, List.getElem_toArray, List.getElem_cons_zero, List.getElem_cons_succ, List.setIfInBounds_toArray, List.set_cons_zero, List.set_cons_succ]
      refine wpAnyY_oneSW (i := 7) (by kernel_rfl) rfl (by kernel_rfl) (fun K7 hK7 => ?_)
      go_simp
      refine (HB.out _ _ _ _ _).mono ?_
      rintro e w5 ⟨rfl, hG5⟩
      have gd := (G.rf wo).d.t hG5
      refine hK7.out _ _ (hSk _ gd) (fun hS => ?_)
      try simp only [Act.put, List.getElem_toArray, List.getElem_cons_zero, List.getElem_cons_succ, List.setIfInBounds_toArray, List.set_cons_zero, List.set_cons_succ]
      refine wpAnyY_take (i := 8) (v := ?_) rfl (by kernel_rfl) (by kernel_rfl) (by kernel_rfl) (by kernel_rfl) (fun _ _ _ h => h) (Or.inl ⟨by kernel_rfl, ?_⟩) hS ?_
      rotate_left
      · intro w' hSw; go_simp; with_reducible rfl
      try simp only [Act.put, List.getElem_toArray, List.getElem_cons_zero, List.getElem_cons_succ, List.setIfInBounds_toArray, List.set_cons_zero, List.set_cons_succ]
      refine wpAnyY_oneW (i := 9) (by kernel_rfl) rfl (by kernel_rfl) (by kernel_rfl) (fun K9 hK9 => ?_)
      have B := ha.keep gd
      have c0 := B.cell 0
      have c1 := B.cell 1
      have z0 := B.frozen 0
      have z1 := B.frozen 1
      have lB := B.lt
      go_simp
      refine hK9.out _ _ ?_
      try simp only [Act.put, List.getElem_toArray, List.getElem_cons_zero, List.getElem_cons_succ, List.setIfInBounds_toArray, List.set_cons_zero, List.set_cons_succ]
      refine wpAnyY_done (by kernel_rfl) ?_ _
      clear hS hSk hK7 hK9 c0 c1 z0 z1 lB
      go_wp2_with fail
      go_roundw
      case rel =>
        have ne1 : w.heap.size + 1 ≠ w.heap.size := by omega
        have ne2 : w.heap.size + 1 + 1 ≠ w.heap.size := by omega
        refine ⟨((hG.t gd).s (p := ⟨w.heap.size, 0, none⟩) (Nat.le_refl _) _).s (p := ⟨w.heap.size, 1, none⟩) (Nat.le_refl _) _, ((hb.keep gd).far (p := ⟨w.heap.size, 0, none⟩) ne1 _).far (p := ⟨w.heap.size, 1, none⟩) ne1 _, ((hz.keep gd).far (p := ⟨w.heap.size, 0, none⟩) ne2 _).far (p := ⟨w.heap.size, 1, none⟩) ne2 _, .inr (.inl ⟨rfl, ?_⟩)⟩
        have b' := (B.set_ 0 (.int .i64 (max a.wl b.wl))).set_ 1 (.int .i64 (min a.wh b.wh))
        simp only [List.setIfInBounds_toArray, List.set_cons_zero, List.set_cons_succ] at b'
        exact b'
      case measure => simp [intOf]
    · have hSk : ∀ W', G wo W' → W'.cell? ⟨w.heap.size, 2, none⟩ = some (.int .i64 a.sl) ∧ W'.cell? ⟨w.heap.size, 3, none⟩ = some (.int .i64 a.sh) ∧ W'.cell? ⟨w.heap.size + 1, 2, none⟩ = some (.int .i64 b.sl) ∧ W'.cell? ⟨w.heap.size + 1, 3, none⟩ = some (.int .i64 b.sh) := fun W' hW => ⟨(ha.keep hW).cell 2, (ha.keep hW).cell 3, (hb.keep hW).cell 2, (hb.keep hW).cell 3⟩
      go_wp2_with fail
      refine wp_region_Y (S := fun W' => W'.cell? ⟨w.heap.size, 2, none⟩ = some (.int .i64 a.sl) ∧ W'.cell? ⟨w.heap.size, 3, none⟩ = some (.int .i64 a.sh) ∧ W'.cell? ⟨w.heap.size + 1, 2, none⟩ = some (.int .i64 b.sl) ∧ W'.cell? ⟨w.heap.size + 1, 3, none⟩ = some (.int .i64 b.sh)) 9 10 rfl (by kernel_rfl) (hSk _ (G.rf _).d) (fun hS => ?_)
      refine wpAnyY_take (i := 0) (v := ?_) rfl (by kernel_rfl) (by kernel_rfl) (by kernel_rfl) (by kernel_rfl) (fun _ _ _ h => h) (Or.inl ⟨by kernel_rfl, ?_⟩) hS ?_
      rotate_left
      · intro w' hSw; go_simp; with_reducible rfl
      try simp only [Act.put, List.getElem_toArray, List.getElem_cons_zero, List.getElem_cons_succ, List.setIfInBounds_toArray, List.set_cons_zero, List.set_cons_succ]
      refine wpAnyY_take (i := 1) (v := ?_) rfl (by kernel_rfl) (by kernel_rfl) (by kernel_rfl) (by kernel_rfl) (fun _ _ _ h => h) (Or.inl ⟨by kernel_rfl, ?_⟩) hS ?_
      rotate_left
      · intro w' hSw; go_simp; with_reducible rfl
      try simp only [Act.put, List.getElem_toArray, List.getElem_cons_zero, List.getElem_cons_succ, List.setIfInBounds_toArray, List.set_cons_zero, List.set_cons_succ]
      refine wpAnyY_take (i := 2) (v := ?_) rfl (by kernel_rfl) (by kernel_rfl) (by kernel_rfl) (by kernel_rfl) (fun _ _ _ h => h) (Or.inl ⟨by kernel_rfl, ?_⟩) hS ?_
      rotate_left
      · intro w' hSw; go_simp; with_reducible rfl
      try simp only [Act.put, List.getElem_toArray, List.getElem_cons_zero, List.getElem_cons_succ, List.setIfInBounds_toArray, List.set_cons_zero, List.set_cons_succ]
      refine wpAnyY_take (i := 3) (v := ?_) rfl (by kernel_rfl) (by kernel_rfl) (by kernel_rfl) (by kernel_rfl) (fun _ _ _ h => h) (Or.inl ⟨by kernel_rfl, ?_⟩) hS ?_
      rotate_left
      · intro w' hSw; obtain ⟨y0, y1, y2, y3⟩ := hSw; go_simp; with_reducible rfl
      try simp only [Act.put, List.getElem_toArray, List.getElem_cons_zero, List.getElem_cons_succ, List.setIfInBounds_toArray, List.set_cons_zero, List.set_cons_succ]
      refine wpAnyY_take (i := 4) (v := ?_) rfl (by kernel_rfl) (by kernel_rfl) (by kernel_rfl) (by kernel_rfl) (fun _ _ _ h => h) (Or.inl ⟨by kernel_rfl, ?_⟩) hS ?_
      rotate_left
      · intro w' hSw; go_simp; with_reducible rfl
      try simp only [Act.put, List.getElem_toArray, List.getElem_cons_zero, List.getElem_cons_succ, List.setIfInBounds_toArray, List.set_cons_zero, List.set_cons_succ]
      refine wpAnyY_take (i := 5) (v := ?_) rfl (by kernel_rfl) (by kernel_rfl) (by kernel_rfl) (by kernel_rfl) (fun _ _ _ h => h) (Or.inl ⟨by kernel_rfl, ?_⟩) hS ?_
      rotate_left
      · intro w' hSw; go_simp; with_reducible rfl
      try simp only [Act.put, List.getElem_toArray, List.getElem_cons_zero, List.getElem_cons_succ, List.setIfInBounds_toArray, List.set_cons_zero, List.set_cons_succ]
      refine wpAnyY_take (i := 6) (v := ?_) rfl (by kernel_rfl) (by kernel_rfl) (by kernel_rfl) (by kernel_rfl) (fun _ _ _ h => h) (Or.inl ⟨by kernel_rfl, ?_⟩) hS ?_
      rotate_left
      · intro w' hSw; obtain ⟨y0, y1, y2, y3⟩ := hSw; go_simp; with_reducible rfl
      try simp only [Act.put, List.getElem_toArray, List.getElem_cons_zero, List.getElem_cons_succ, List.setIfInBounds_toArray, List.set_cons_zero, List.set_cons_succ]
      refine wpAnyY_oneSW (i := 7) (by kernel_rfl) rfl (by kernel_rfl) (fun K7 hK7 => ?_)
      go_simp
      refine (HB.out _ _ _ _ _).mono ?_
      rintro e w5 ⟨rfl, hG5⟩
      have gd := (G.rf wo).d.t hG5
      refine hK7.out _ _ (hSk _ gd) (fun hS => ?_)
      try simp only [Act.put, List.getElem_toArray, List.getElem_cons_zero, List.getElem_cons_succ, List.setIfInBounds_toArray, List.set_cons_zero, List.set_cons_succ]
      refine wpAnyY_take (i := 8) (v := ?_) rfl (by kernel_rfl) (by kernel_rfl) (by kernel_rfl) (by kernel_rfl) (fun _ _ _ h => h) (Or.inl ⟨by kernel_rfl, ?_⟩) hS ?_
      rotate_left
      · intro w' hSw; go_simp; with_reducible rfl
      try simp only [Act.put, List.getElem_toArray, List.getElem_cons_zero, List.getElem_cons_succ, List.setIfInBounds_toArray, List.set_cons_zero, List.set_cons_succ]
      refine wpAnyY_oneW (i := 9) (by kernel_rfl) rfl (by kernel_rfl) (by kernel_rfl) (fun K9 hK9 => ?_)
      have B := ha.keep gd
      have c0 := B.cell 2
      have c1 := B.cell 3
      have z0 := B.frozen 2
      have z1 := B.frozen 3
      have lB := B.lt
      go_simp
      refine hK9.out _ _ ?_
      try simp only [Act.put, List.getElem_toArray, List.getElem_cons_zero, List.getElem_cons_succ, List.setIfInBounds_toArray, List.set_cons_zero, List.set_cons_succ]
      refine wpAnyY_done (by kernel_rfl) ?_ _
      clear hS hSk hK7 hK9 c0 c1 z0 z1 lB
      go_wp2_with fail
      go_roundw
      case rel =>
        have ne1 : w.heap.size + 1 ≠ w.heap.size := by omega
        have ne2 : w.heap.size + 1 + 1 ≠ w.heap.size := by omega
        refine ⟨((hG.t gd).s (p := ⟨w.heap.size, 2, none⟩) (Nat.le_refl _) _).s (p := ⟨w.heap.size, 3, none⟩) (Nat.le_refl _) _, ((hb.keep gd).far (p := ⟨w.heap.size, 2, none⟩) ne1 _).far (p := ⟨w.heap.size, 3, none⟩) ne1 _, ((hz.keep gd).far (p := ⟨w.heap.size, 2, none⟩) ne2 _).far (p := ⟨w.heap.size, 3, none⟩) ne2 _, .inr (.inr (.inl ⟨rfl, ?_⟩))⟩
        have b' := (B.set_ 2 (.int .i64 (max a.sl b.sl))).set_ 3 (.int .i64 (min a.sh b.sh))
        simp only [List.setIfInBounds_toArray, List.set_cons_zero, List.set_cons_succ] at b'
        exact b'
      case measure => simp [intOf]
    · have hSk : ∀ W', G wo W' → W'.cell? ⟨w.heap.size, 4, none⟩ = some (.int .i64 a.hl) ∧ W'.cell? ⟨w.heap.size, 5, none⟩ = some (.int .i64 a.hh) ∧ W'.cell? ⟨w.heap.size + 1, 4, none⟩ = some (.int .i64 b.hl) ∧ W'.cell? ⟨w.heap.size + 1, 5, none⟩ = some (.int .i64 b.hh) := fun W' hW => ⟨(ha.keep hW).cell 4, (ha.keep hW).cell 5, (hb.keep hW).cell 4, (hb.keep hW).cell 5⟩
      go_wp2_with fail
      refine wp_region_Y (S := fun W' => W'.cell? ⟨w.heap.size, 4, none⟩ = some (.int .i64 a.hl) ∧ W'.cell? ⟨w.heap.size, 5, none⟩ = some (.int .i64 a.hh) ∧ W'.cell? ⟨w.heap.size + 1, 4, none⟩ = some (.int .i64 b.hl) ∧ W'.cell? ⟨w.heap.size + 1, 5, none⟩ = some (.int .i64 b.hh)) 9 10 rfl (by kernel_rfl) (hSk _ (G.rf _).d) (fun hS => ?_)
      refine wpAnyY_take (i := 0) (v := ?_) rfl (by kernel_rfl) (by kernel_rfl) (by kernel_rfl) (by kernel_rfl) (fun _ _ _ h => h) (Or.inl ⟨by kernel_rfl, ?_⟩) hS ?_
      rotate_left
      · intro w' hSw; go_simp; with_reducible rfl
      try simp only [Act.put, List.getElem_toArray, List.getElem_cons_zero, List.getElem_cons_succ, List.setIfInBounds_toArray, List.set_cons_zero, List.set_cons_succ]
      refine wpAnyY_take (i := 1) (v := ?_) rfl (by kernel_rfl) (by kernel_rfl) (by kernel_rfl) (by kernel_rfl) (fun _ _ _ h => h) (Or.inl ⟨by kernel_rfl, ?_⟩) hS ?_
      rotate_left
      · intro w' hSw; go_simp; with_reducible rfl
      try simp only [Act.put, List.getElem_toArray, List.getElem_cons_zero, List.getElem_cons_succ, List.setIfInBounds_toArray, List.set_cons_zero, List.set_cons_succ]
      refine wpAnyY_take (i := 2) (v := ?_) rfl (by kernel_rfl) (by kernel_rfl) (by kernel_rfl) (by kernel_rfl) (fun _ _ _ h => h) (Or.inl ⟨by kernel_rfl, ?_⟩) hS ?_
      rotate_left
      · intro w' hSw; go_simp; with_reducible rfl
      try simp only [Act.put, List.getElem_toArray, List.getElem_cons_zero, List.getElem_cons_succ, List.setIfInBounds_toArray, List.set_cons_zero, List.set_cons_succ]
      refine wpAnyY_take (i := 3) (v := ?_) rfl (by kernel_rfl) (by kernel_rfl) (by kernel_rfl) (by kernel_rfl) (fun _ _ _ h => h) (Or.inl ⟨by kernel_rfl, ?_⟩) hS ?_
      rotate_left
      · intro w' hSw; obtain ⟨y0, y1, y2, y3⟩ := hSw; go_simp; with_reducible rfl
      try simp only [Act.put, List.getElem_toArray, List.getElem_cons_zero, List.getElem_cons_succ, List.setIfInBounds_toArray, List.set_cons_zero, List.set_cons_succ]
      refine wpAnyY_take (i := 4) (v := ?_) rfl (by kernel_rfl) (by kernel_rfl) (by kernel_rfl) (by kernel_rfl) (fun _ _ _ h => h) (Or.inl ⟨by kernel_rfl, ?_⟩) hS ?_
      rotate_left
      · intro w' hSw; go_simp; with_reducible rfl
      try simp only [Act.put, List.getElem_toArray, List.getElem_cons_zero, List.getElem_cons_succ, List.setIfInBounds_toArray, List.set_cons_zero, List.set_cons_succ]
      refine wpAnyY_take (i := 5) (v := ?_) rfl (by kernel_rfl) (by kernel_rfl) (by kernel_rfl) (by kernel_rfl) (fun _ _ _ h => h) (Or.inl ⟨by kernel_rfl, ?_⟩) hS ?_
      rotate_left
      · intro w' hSw; go_simp; with_reducible rfl
      try simp only [Act.put, List.getElem_toArray, List.getElem_cons_zero, List.getElem_cons_succ, List.setIfInBounds_toArray, List.set_cons_zero, List.set_cons_succ]
      refine wpAnyY_take (i := 6) (v := ?_) rfl (by kernel_rfl) (by kernel_rfl) (by kernel_rfl) (by kernel_rfl) (fun _ _ _ h => h) (Or.inl ⟨by kernel_rfl, ?_⟩) hS ?_
      rotate_left
      · intro w' hSw; obtain ⟨y0, y1, y2, y3⟩ := hSw; go_simp; with_reducible rfl
      try simp only [Act.put, List.getElem_toArray, List.getElem_cons_zero, List.getElem_cons_succ, List.setIfInBounds_toArray, List.set_cons_zero, List.set_cons_succ]
      refine wpAnyY_oneSW (i := 7) (by kernel_rfl) rfl (by kernel_rfl) (fun K7 hK7 => ?_)
      go_simp
      refine (HB.out _ _ _ _ _).mono ?_
      rintro e w5 ⟨rfl, hG5⟩
      have gd := (G.rf wo).d.t hG5
      refine hK7.out _ _ (hSk _ gd) (fun hS => ?_)
      try simp only [Act.put, List.getElem_toArray, List.getElem_cons_zero, List.getElem_cons_succ, List.setIfInBounds_toArray, List.set_cons_zero, List.set_cons_succ]
      refine wpAnyY_take (i := 8) (v := ?_) rfl (by kernel_rfl) (by kernel_rfl) (by kernel_rfl) (by kernel_rfl) (fun _ _ _ h => h) (Or.inl ⟨by kernel_rfl, ?_⟩) hS ?_
      rotate_left
      · intro w' hSw; go_simp; with_reducible rfl
      try simp only [Act.put, List.getElem_toArray, List.getElem_cons_zero, List.getElem_cons_succ, List.setIfInBounds_toArray, List.set_cons_zero, List.set_cons_succ]
      refine wpAnyY_oneW (i := 9) (by kernel_rfl) rfl (by kernel_rfl) (by kernel_rfl) (fun K9 hK9 => ?_)
      have B := ha.keep gd
      have c0 := B.cell 4
      have c1 := B.cell 5
      have z0 := B.frozen 4
      have z1 := B.frozen 5
      have lB := B.lt
      go_simp
      refine hK9.out _ _ ?_
      try simp only [Act.put, List.getElem_toArray, List.getElem_cons_zero, List.getElem_cons_succ, List.setIfInBounds_toArray, List.set_cons_zero, List.set_cons_succ]
      refine wpAnyY_done (by kernel_rfl) ?_ _
      clear hS hSk hK7 hK9 c0 c1 z0 z1 lB
      go_wp2_with fail
      go_roundw
      case rel =>
        have ne1 : w.heap.size + 1 ≠ w.heap.size := by omega
        have ne2 : w.heap.size + 1 + 1 ≠ w.heap.size := by omega
        refine ⟨((hG.t gd).s (p := ⟨w.heap.size, 4, none⟩) (Nat.le_refl _) _).s (p := ⟨w.heap.size, 5, none⟩) (Nat.le_refl _) _, ((hb.keep gd).far (p := ⟨w.heap.size, 4, none⟩) ne1 _).far (p := ⟨w.heap.size, 5, none⟩) ne1 _, ((hz.keep gd).far (p := ⟨w.heap.size, 4, none⟩) ne2 _).far (p := ⟨w.heap.size, 5, none⟩) ne2 _, .inr (.inr (.inr (⟨rfl, ?_⟩)))⟩
        have b' := (B.set_ 4 (.int .i64 (max a.hl b.hl))).set_ 5 (.int .i64 (min a.hh b.hh))
        simp only [List.setIfInBounds_toArray, List.set_cons_zero, List.set_cons_succ] at b'
        exact b'
      case measure => simp [intOf]
    · replace ha : Blk wo w.heap.size 93 (a.both b).v := ha
      have h0 : (3 : Int) < 3 ↔ False := by simp
      go_upto_region 6 with fail
      refine wp_region_lit ?_
      refine wpList_load102 w.heap.size 2 rfl rfl rfl ha ?_
      try simp only [Act.put, List.getElem_toArray, List.getElem_cons_zero, List.getElem_cons_succ, List.setIfInBounds_toArray, List.set_cons_zero, List.set_cons_succ]
      refine wpList_store102 (w.heap.size + 1 + 1) 4 19 (x := sk0) rfl rfl rfl rfl hz fun W2 hB2 hF2 hG2 => ?_
      try simp only [Act.put, List.getElem_toArray, List.getElem_cons_zero, List.getElem_cons_succ, List.setIfInBounds_toArray, List.set_cons_zero, List.set_cons_succ]
      have hGG := hG2 w (by omega) hG
      clear hF2 hG2
      go_wp2_with fail
      exact bodyPost_ret (resSky Tryz.f109 4 _ _ (w.heap.size + 1 + 1) (a.both b) rfl rfl hB2) rfl ⟨rfl, hGG⟩
end Go.Proofs.YtcekdljjmfkacaaGreat
set_option linter.unusedSimpArgs false
set_option linter.unusedVariables false
namespace Go.Proofs.YtcekdljjmfkacaaGreat
open Go.RowKit
attribute [local go_sem] Oper.semAt_some
theorem eqSp (d : Nat) (a b c e : Int) (w : World) : (Op.equalIn (d + 1 + 1) 30 (.agg #[.int .i64 a, .int .i64 b]) (.agg #[.int .i64 c, .int .i64 e])).run Tryz.prog w = .ok (a == c && b == e) w := by
  have u3 := Tryz.underlying3
  have hS : Tryz.prog.underlying 30 = some (.struct (Tryz.prog.fieldsOf 30)) := by kernel_rfl
  have hp : Tryz.prog.stoodInHeld 30 = false := by kernel_rfl
  rw [run_equalIn_agg w (d + 1) 30 _ _ hS hp]
  simp only [Program.fieldsOf, Tryz.underlying30]
  go_simp
  by_cases h1 : a = c <;> by_cases h2 : b = e <;> simp [h1, h2]
theorem eqSky (a b : Sk) (w : World) : (binOp .eql 93 (.agg a.v) (.agg b.v)).run Tryz.prog w = .ok (.bool (skEq a b)) w := by
  have key : ∀ d, (Op.equalIn (d + 1 + 1 + 1) 93 (.agg a.v) (.agg b.v)).run Tryz.prog w = .ok (skEq a b) w := by
    intro d
    have h30 := fun x y z u => eqSp d x y z u w
    generalize d + 1 + 1 = d2 at h30 ⊢
    simp only [Op.equalIn, Sem.run_bind, run_underlying Tryz.underlying93, Result.andThen_ok]
    have e3 : List.range' 0 3 = [0, 1, 2] := rfl
    simp only [Std.Legacy.Range.forIn_eq_forIn_range', Std.Legacy.Range.size, Nat.sub_zero, Nat.add_one_sub_one, Nat.div_one, Sk.v, List.forIn_cons, List.forIn_nil, show (3 + 1 - 1 : Nat) = 3 from rfl, e3]
    go_simp
    unfold skEq
    cases h1 : (a.wl == b.wl && a.wh == b.wh) <;> cases h2 : (a.sl == b.sl && a.sh == b.sh) <;> cases h3 : (a.hl == b.hl && a.hh == b.hh) <;> simp [h30, h1, h2, h3] <;> (simp at h1 h2 h3; first | omega | simp [h1, h2, h3])
  rw [run_eql_struct, key 9997]
  rfl

/-- a number of the first n for which p says yes -/
def anyU (p : Nat → Bool) (n : Nat) : Bool := (List.range n).any p
theorem anyU_no {p : Nat → Bool} {n : Nat} (h : ∀ i, i < n → p i = false) : anyU p n = false := by
  unfold anyU
  rw [List.any_eq_false]
  intro x hx
  simp [h x (List.mem_range.1 hx)]
theorem anyU_yes {p : Nat → Bool} {n i : Nat} (hi : i < n) (h : p i = true) : anyU p n = true := by
  unfold anyU
  rw [List.any_eq_true]
  exact ⟨i, List.mem_range.2 hi, h⟩
set_option maxHeartbeats 2000000 in
theorem IdxSpan_any (C : FuncId) (eg : ∀ args w, (callFunc C args).run Tryz.prog w = .ok (.enter C args) w) (lb : Array Value) (W : World) (a : Option Addr) (cap n : Nat) (c : Nat → Nat → Int) (p : Nat → Bool) (hn : n ≤ 1000)
    (ha : n = 0 ∨ ∃ g off, a = some ⟨g, off, none⟩ ∧ g < W.heap.size ∧ ∀ i, i < n → ∀ r, r < 2 → W.cell? ⟨g, off + i * 2 + r, none⟩ = some (.int .i64 (c i r)))
    (hc : ∀ W', G W W' → ∀ i, i < n → Calls Tryz.prog C (#[.agg #[.int .i64 (c i 0), .int .i64 (c i 1)]] ++ lb) W' fun e w' => e = .returned (.bool (p i)) ∧ G W' w') :
    Calls Tryz.prog 99 #[.slice a n cap, .func (.func C) #[] lb] W fun e w' => ∃ r : Int, e = .returned (.int .i64 r) ∧ decide (0 ≤ r) = anyU p n ∧ G W w' := by
  have HC := Lib.hid hc
  clear hc
  go_enter Tryz.func99, Tryz.ntmps99
  go_wp2
  go_loopw [8] (fun i wr => ∃ k : Nat, k ≤ n ∧ i = .int .i64 k ∧ Hid (∀ j, j < k → p j = false) ∧ G W wr) (fun i _ => n - (intOf i).toNat)
  case atStart => exact ⟨0, Nat.zero_le _, rfl, fun j hj => by omega, G.rf _⟩
  case round =>
    obtain ⟨k, hk, rfl, hno, hG⟩ := hrel
    by_cases hlt : k < n
    · have hki : (k : Int) < n := by omega
      rcases ha with h | ⟨g, off, rfl, hg, hcell⟩
      · omega
      have lg := Nat.lt_of_lt_of_le hg hG.size
      have hcl := fun r hr => ((bcellB hG).1 g _ hg).trans (hcell k hlt r hr)
      have q0 := hcl 0 (by omega)
      rw [Nat.add_zero] at q0
      have q1 := hcl 1 (by omega)
      have HC2 := Lib.hid (HC.out wr hG k hlt)
      clear hcl hcell HC
      cases hp : p k
      · rw [hp] at HC2
        have HP := Lib.hid hp
        clear hp
        go_wp2_with (go_at_fn C; refine (HC2.out).mono ?_; rintro e w1 ⟨rfl, hG1⟩)
        go_roundw
        case rel => exact ⟨k + 1, by omega, by go_num, fun j hj => by
          rcases Nat.lt_or_ge j k with h | h
          · exact hno.out j h
          · obtain rfl : j = k := by omega
            exact HP.out, hG.t hG1⟩
        case measure => simp [intOf]; omega
      · rw [hp] at HC2
        have HP := Lib.hid (anyU_yes hlt hp)
        clear hp
        go_wp2_with (go_at_fn C; refine (HC2.out).mono ?_; rintro e w1 ⟨rfl, hG1⟩)
        go_ret
        exact ⟨k, rfl, by rw [HP.out]; simp, hG.t hG1⟩
    · have hki : ¬ (k : Int) < n := by omega
      obtain rfl : k = n := by omega
      have HP := Lib.hid (anyU_no hno.out)
      go_wp2
      go_ret
      exact ⟨-1, rfl, by rw [HP.out]; rfl, hG⟩
theorem CtSpan_any (C : FuncId) (eg : ∀ args w, (callFunc C args).run Tryz.prog w = .ok (.enter C args) w) (lb : Array Value) (W : World) (a : Option Addr) (cap n : Nat) (c : Nat → Nat → Int) (p : Nat → Bool) (hn : n ≤ 1000)
    (ha : n = 0 ∨ ∃ g off, a = some ⟨g, off, none⟩ ∧ g < W.heap.size ∧ ∀ i, i < n → ∀ r, r < 2 → W.cell? ⟨g, off + i * 2 + r, none⟩ = some (.int .i64 (c i r)))
    (hc : ∀ W', G W W' → ∀ i, i < n → Calls Tryz.prog C (#[.agg #[.int .i64 (c i 0), .int .i64 (c i 1)]] ++ lb) W' fun e w' => e = .returned (.bool (p i)) ∧ G W' w') :
    Calls Tryz.prog 72 #[.slice a n cap, .func (.func C) #[] lb] W fun e w' => e = .returned (.bool (anyU p n)) ∧ G W w' := by
  have HI := Lib.hid (IdxSpan_any C eg lb W a cap n c p hn ha hc)
  clear ha hc
  go_enter Tryz.func72, Tryz.ntmps72
  go_wp2_with (go_at_call 99; refine (HI.out).mono ?_; rintro e w1 ⟨r, rfl, hr, hG1⟩; have HR := Lib.hid hr; clear hr)
  go_ret
  exact ⟨by rw [← HR.out]; first | rfl | simp, hG1⟩
def skC (s : Sk) (j : Nat) : Int := [s.wl, s.wh, s.sl, s.sh, s.hl, s.hh].getD j 0
theorem isEmpty_any (s : Sk) (w : World) : Calls Tryz.prog 106 #[.agg s.v] w fun e w' => e = .returned (.bool (skNone s)) ∧ G w w' := by
  have b0 := Blk.new w 93 s.v
  have g0 : G w (w.alloc (.cells s.v 93)) := (G.rf _).a _
  have HC := Lib.hid (CtSpan_any 124 (enters_of Tryz.func124 (by kernel_rfl) rfl) #[] (w.alloc (.cells s.v 93)) (some ⟨w.heap.size, 0, none⟩) 3 3 (fun i r => skC s (i * 2 + r)) (fun i => decide (skC s (i * 2 + 1) < skC s (i * 2))) (by omega)
    (.inr ⟨_, _, rfl, b0.lt, fun i hi r hr => by
      rw [Nat.zero_add, b0.cell]
      have : i * 2 + r < 6 := by omega
      generalize i * 2 + r = q at *
      match q, this with
      | 0, _ => rfl
      | 1, _ => rfl
      | 2, _ => rfl
      | 3, _ => rfl
      | 4, _ => rfl
      | 5, _ => rfl⟩)
    (fun W' hW i hi => isNone_any _ _ W'))
  have e : anyU (fun i => decide (skC s (i * 2 + 1) < skC s (i * 2))) 3 = skNone s := by
    unfold anyU skNone
    simp [List.range_succ, skC]
  rw [e] at HC
  have l0 := b0.lt
  clear e b0
  go_enter Tryz.func106, Tryz.ntmps106
  go_wp2_with (go_at_call 72; refine (HC.out).mono ?_; rintro e w1 ⟨rfl, hG1⟩)
  go_ret
  exact ⟨rfl, g0.t hG1⟩
end Go.Proofs.YtcekdljjmfkacaaGreat
set_option linter.unusedSimpArgs false
set_option linter.unusedVariables false
namespace Go.Proofs.YtcekdljjmfkacaaGreat
open Go.RowKit
attribute [local go_sem] Oper.semAt_some
set_option maxHeartbeats 1000000 in
theorem isInside_any (s l : Sk) (w : World) : Calls Tryz.prog 90 #[.agg s.v, .agg l.v] w fun e w' => e = .returned (.bool (skIn s l)) ∧ G w w' := by
  have HA := Lib.hid (fun W : World => and_any s l W)
  have HEQ := Lib.hid (fun W : World => eqSky (s.both l) s W)
  obtain ⟨g0, b0, b1⟩ := w2_spec w s.v l.v 93 93
  go_enter Tryz.func90, Tryz.ntmps90
  go_wp2_with fail
  generalize (w.alloc (.cells s.v 93)).alloc (.cells l.v 93) = w1 at *
  have hSk : ∀ W', G w1 W' → Blk W' w.heap.size 93 s.v ∧ Blk W' (w.heap.size + 1) 93 l.v := fun W' hW => ⟨b0.keep hW, b1.keep hW⟩
  refine wp_region_Y (S := fun W' => Blk W' w.heap.size 93 s.v ∧ Blk W' (w.heap.size + 1) 93 l.v) 5 6 rfl (by kernel_rfl) (hSk _ (G.rf _).d) (fun hS => ?_)
  refine wpAnyY_take (i := 0) (v := .agg s.v) rfl (by kernel_rfl) (by kernel_rfl) (by kernel_rfl) (by kernel_rfl) (fun _ _ _ h => h) (Or.inl ⟨by kernel_rfl, ?_⟩) hS ?_
  · intro w' hSw; exact load102 w' w.heap.size 2 _ _ rfl (by kernel_rfl) hSw.1
  try simp only [Act.put, List.getElem_toArray, List.getElem_cons_zero, List.getElem_cons_succ, List.setIfInBounds_toArray, List.set_cons_zero, List.set_cons_succ]
  refine wpAnyY_take (i := 1) (v := .agg l.v) rfl (by kernel_rfl) (by kernel_rfl) (by kernel_rfl) (by kernel_rfl) (fun _ _ _ h => h) (Or.inl ⟨by kernel_rfl, ?_⟩) hS ?_
  · intro w' hSw; exact load102 w' (w.heap.size + 1) 3 _ _ rfl (by kernel_rfl) hSw.2
  try simp only [Act.put, List.getElem_toArray, List.getElem_cons_zero, List.getElem_cons_succ, List.setIfInBounds_toArray, List.set_cons_zero, List.set_cons_succ]
  refine wpAnyY_take (i := 3) (v := .agg s.v) rfl (by kernel_rfl) (by kernel_rfl) (by kernel_rfl) (by kernel_rfl) (fun _ _ _ h => h) (Or.inl ⟨by kernel_rfl, ?_⟩) hS ?_
  · intro w' hSw; exact load102 w' w.heap.size 2 _ _ rfl (by kernel_rfl) hSw.1
  try simp only [Act.put, List.getElem_toArray, List.getElem_cons_zero, List.getElem_cons_succ, List.setIfInBounds_toArray, List.set_cons_zero, List.set_cons_succ]
  refine wpAnyY_oneSW (i := 2) (by kernel_rfl) rfl (by kernel_rfl) (fun K2 hK2 => ?_)
  go_simp
  refine (HA.out _).mono ?_
  rintro e w5 ⟨rfl, hG5⟩
  have gd := (G.rf w1).d.t hG5
  refine hK2.out _ _ (hSk _ gd) (fun hS => ?_)
  try simp only [Act.put, List.getElem_toArray, List.getElem_cons_zero, List.getElem_cons_succ, List.setIfInBounds_toArray, List.set_cons_zero, List.set_cons_succ]
  have heq := HEQ.out
  generalize (s.both l).v = bv at *
  obtain ⟨eb, hE⟩ : ∃ eb, eb = skIn s l := ⟨_, rfl⟩
  replace heq : ∀ W : World, (binOp .eql 93 (.agg bv) (.agg s.v)).run Tryz.prog W = .ok (.bool eb) W := fun W => by rw [hE]; exact heq W
  have HEB := Lib.hid hE
  clear hE
  refine wpAnyY_take (i := 4) (v := ?_) rfl (by kernel_rfl) (by kernel_rfl) (by kernel_rfl) (by kernel_rfl) (fun _ _ _ h => h) (Or.inl ⟨by kernel_rfl, ?_⟩) hS ?_
  rotate_left
  · intro w' hSw; go_simp; with_reducible rfl
  try simp only [Act.put, List.getElem_toArray, List.getElem_cons_zero, List.getElem_cons_succ, List.setIfInBounds_toArray, List.set_cons_zero, List.set_cons_succ]
  refine wpAnyY_oneW (i := 5) (by kernel_rfl) rfl (by kernel_rfl) (by kernel_rfl) (fun K5 hK5 => ?_)
  go_simp
  refine hK5.out _ _ ?_
  try simp only [Act.put, List.getElem_toArray, List.getElem_cons_zero, List.getElem_cons_succ, List.setIfInBounds_toArray, List.set_cons_zero, List.set_cons_succ]
  refine wpAnyY_done (by kernel_rfl) ?_ _
  clear hS hSk hK2 hK5
  go_wp2_with fail
  go_ret
  exact ⟨by rw [← HEB.out]; rfl, g0.t gd⟩
theorem isOutsideS_any (s l : Sk) (w : World) : Calls Tryz.prog 107 #[.agg s.v, .agg l.v] w fun e w' => e = .returned (.bool (skOut s l)) ∧ G w w' := by
  have HA := Lib.hid (fun W : World => and_any s l W)
  have HE := Lib.hid (fun W : World => isEmpty_any (s.both l) W)
  obtain ⟨g0, b0, b1⟩ := w2_spec w s.v l.v 93 93
  go_enter Tryz.func107, Tryz.ntmps107
  go_upto_region 1 with fail
  generalize (w.alloc (.cells s.v 93)).alloc (.cells l.v 93) = w1 at *
  refine wp_region_lit ?_
  refine wpList_load102 w.heap.size 2 rfl rfl rfl b0 ?_
  try simp only [Act.put, List.getElem_toArray, List.getElem_cons_zero, List.getElem_cons_succ, List.setIfInBounds_toArray, List.set_cons_zero, List.set_cons_succ]
  refine wpList_load102 (w.heap.size + 1) 3 rfl rfl rfl b1 ?_
  try simp only [Act.put, List.getElem_toArray, List.getElem_cons_zero, List.getElem_cons_succ, List.setIfInBounds_toArray, List.set_cons_zero, List.set_cons_succ]
  go_wp2_with fail
  refine (HA.out _).mono ?_
  rintro e w5 ⟨rfl, hG5⟩
  go_wp2_with fail
  refine (HE.out _).mono ?_
  rintro e w6 ⟨rfl, hG6⟩
  go_wp2_with fail
  go_ret
  exact ⟨rfl, (g0.t hG5).t hG6⟩
end Go.Proofs.YtcekdljjmfkacaaGreat
