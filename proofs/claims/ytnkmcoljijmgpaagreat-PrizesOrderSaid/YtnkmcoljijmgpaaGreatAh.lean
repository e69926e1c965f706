import Derived.Test.YtnkmcoljijmgpaaGreatAg
set_option linter.unusedSimpArgs false
set_option linter.unusedVariables false
namespace Go.Proofs.YtnkmcoljijmgpaaGreat
open Go.RowKit Go.Shelf
attribute [local go_sem] Oper.semAt_some
/-- the cells of a fund -/
def IsFu (A : Array Value) : Prop := ∃ (x0 x1 x2 : Int) (x3 : Option Addr) (xl xc : Nat) (x4 : Int) (x5 : Bool) (x6 : Option Addr) (xm xd : Nat) (x7 : Option Addr) (xn xe : Nat), A = #[.int .i64 x0, .int .i64 x1, .int .i64 x2, .slice x3 xl xc, .int .i64 x4, .bool x5, .slice x6 xm xd, .slice x7 xn xe]
theorem Fu.is (f : Fu) : IsFu f.v := ⟨_, _, _, _, _, _, _, _, _, _, _, _, _, _, rfl⟩
/-- the cells of a racer -/
def IsRc (A : Array Value) : Prop := ∃ (x0 x1 x2 x3 : Int) (x4 : Option Addr) (xl xc : Nat), A = #[.int .i64 x0, .int .i64 x1, .int .i64 x2, .int .i64 x3, .slice x4 xl xc]
theorem Rc.is (x : Rc) : IsRc x.v := ⟨_, _, _, _, _, _, _, rfl⟩
set_option maxRecDepth 100000 in
set_option maxHeartbeats 4000000 in
theorem store85 (W : World) (g : Nat) (d s : Operand) {OLD NEW : Array Value} (hO : IsFu OLD) (hR : IsFu NEW) (op : Oper) (ev : Operand → Value) (ho : op.op = .store 85 d s) (hv : ev d = .pointer (some ⟨g, 0, none⟩)) (hs : ev s = .agg NEW) (hB : Blk W g 85 OLD) :
    ∃ W2, (execOp ev op).run Tryz.prog W = .ok .skip W2 ∧ Blk W2 g 85 NEW ∧ (∀ b, b ≠ g → W2.heap[b]? = W.heap[b]?) ∧ ∀ w0 : World, w0.heap.size ≤ g → G w0 W → G w0 W2 := by
  obtain ⟨y0, y1, y2, y3, yl, yc, y4, y5, y6, ym, yd, y7, yn, ye, rfl⟩ := hO
  obtain ⟨x0, x1, x2, x3, xl, xc, x4, x5, x6, xm, xd, x7, xn, xe, rfl⟩ := hR
  have c0 : W.cell? ⟨g, 0, none⟩ = some (.int .i64 y0) := hB.cell 0
  have z0 := hB.frozen 0
  have c1 : W.cell? ⟨g, 1, none⟩ = some (.int .i64 y1) := hB.cell 1
  have z1 := hB.frozen 1
  have c2 : W.cell? ⟨g, 2, none⟩ = some (.int .i64 y2) := hB.cell 2
  have z2 := hB.frozen 2
  have c3 : W.cell? ⟨g, 3, none⟩ = some (.slice y3 yl yc) := hB.cell 3
  have z3 := hB.frozen 3
  have c4 : W.cell? ⟨g, 4, none⟩ = some (.int .i64 y4) := hB.cell 4
  have z4 := hB.frozen 4
  have c5 : W.cell? ⟨g, 5, none⟩ = some (.bool y5) := hB.cell 5
  have z5 := hB.frozen 5
  have c6 : W.cell? ⟨g, 6, none⟩ = some (.slice y6 ym yd) := hB.cell 6
  have z6 := hB.frozen 6
  have c7 : W.cell? ⟨g, 7, none⟩ = some (.slice y7 yn ye) := hB.cell 7
  have z7 := hB.frozen 7
  have lB := hB.lt
  refine ⟨((((((((W).setCell ⟨g, 0, none⟩ (.int .i64 x0)).setCell ⟨g, 1, none⟩ (.int .i64 x1)).setCell ⟨g, 2, none⟩ (.int .i64 x2)).setCell ⟨g, 3, none⟩ (.slice x3 xl xc)).setCell ⟨g, 4, none⟩ (.int .i64 x4)).setCell ⟨g, 5, none⟩ (.bool x5)).setCell ⟨g, 6, none⟩ (.slice x6 xm xd)).setCell ⟨g, 7, none⟩ (.slice x7 xn xe), ?_, ?_, ?_, fun w0 hg hG => ((((((((hG).s (p := ⟨g, 0, none⟩) hg (.int .i64 x0)).s (p := ⟨g, 1, none⟩) hg (.int .i64 x1)).s (p := ⟨g, 2, none⟩) hg (.int .i64 x2)).s (p := ⟨g, 3, none⟩) hg (.slice x3 xl xc)).s (p := ⟨g, 4, none⟩) hg (.int .i64 x4)).s (p := ⟨g, 5, none⟩) hg (.bool x5)).s (p := ⟨g, 6, none⟩) hg (.slice x6 xm xd)).s (p := ⟨g, 7, none⟩) hg (.slice x7 xn xe)⟩
  · clear hB
    unfold execOp
    simp only [ho, hv, hs]
    go_simp
  · have b := ((((((((hB).set_ 0 (.int .i64 x0)).set_ 1 (.int .i64 x1)).set_ 2 (.int .i64 x2)).set_ 3 (.slice x3 xl xc)).set_ 4 (.int .i64 x4)).set_ 5 (.bool x5)).set_ 6 (.slice x6 xm xd)).set_ 7 (.slice x7 xn xe)
    simp only [List.setIfInBounds_toArray, List.set_cons_zero, List.set_cons_succ] at b
    exact b
  · exact far_trans (far_trans (far_trans (far_trans (far_trans (far_trans (far_trans (far_trans (fun _ _ => rfl) 0 (.int .i64 x0)) 1 (.int .i64 x1)) 2 (.int .i64 x2)) 3 (.slice x3 xl xc)) 4 (.int .i64 x4)) 5 (.bool x5)) 6 (.slice x6 xm xd)) 7 (.slice x7 xn xe)
theorem wp_store85 {o : Oper} {a : Act} {W : World} {K : Act → World → Prop} {Q : Exit → Act → World → Prop} (g : Nat) (d s : Operand) {OLD NEW : Array Value} (hO : IsFu OLD) (hR : IsFu NEW) (ho : o.op = .store 85 d s) (hv : a.eval d = .pointer (some ⟨g, 0, none⟩)) (hs : a.eval s = .agg NEW) (hB : Blk W g 85 OLD)
    (hk : ∀ W2, Blk W2 g 85 NEW → (∀ b, b ≠ g → W2.heap[b]? = W.heap[b]?) → (∀ w0 : World, w0.heap.size ≤ g → G w0 W → G w0 W2) → K (a.put o.dst undef) W2) : Oper.wp Tryz.prog o a W K Q := by
  obtain ⟨W2, h1, h2, h3, h4⟩ := store85 W g d s hO hR o a.eval ho hv hs hB
  unfold Oper.wp
  rw [h1]
  exact hk W2 h2 h3 h4
theorem wpList_store85 {w : World} {ops : Array Oper} {rest : List Oper} {o : Oper} {a : Act} {Q : Exit → Act → World → Prop} (g : Nat) (d s : Operand) {OLD NEW : Array Value} (hO : IsFu OLD) (hR : IsFu NEW) (hgd : o.guard = none) (ho : o.op = .store 85 d s) (hv : a.eval d = .pointer (some ⟨g, 0, none⟩)) (hs : a.eval s = .agg NEW) (hB : Blk w g 85 OLD)
    (h : ∀ W2, Blk W2 g 85 NEW → (∀ b, b ≠ g → W2.heap[b]? = w.heap[b]?) → (∀ w0 : World, w0.heap.size ≤ g → G w0 w → G w0 W2) → wpList Tryz.prog ops Q rest (a.put o.dst undef) W2) : wpList Tryz.prog ops Q (o :: rest) a w := by
  refine wpList_plain hgd fun K hK => ?_
  exact wp_store85 g d s hO hR ho hv hs hB fun W2 h1 h2 h3 => hK _ _ (h W2 h1 h2 h3)
set_option maxRecDepth 100000 in
set_option maxHeartbeats 4000000 in
theorem load85 (W : World) (g : Nat) (d : Operand) {REL : Array Value} (hR : IsFu REL) (op : Oper) (ev : Operand → Value) (ho : op.op = .load 85 d) (hv : ev d = .pointer (some ⟨g, 0, none⟩)) (hB : Blk W g 85 REL) : (execOp ev op).run Tryz.prog W = .ok (.value (.agg REL)) W := by
  obtain ⟨x0, x1, x2, x3, xl, xc, x4, x5, x6, xm, xd, x7, xn, xe, rfl⟩ := hR
  have c0 : W.cell? ⟨g, 0, none⟩ = some (.int .i64 x0) := hB.cell 0
  have c1 : W.cell? ⟨g, 1, none⟩ = some (.int .i64 x1) := hB.cell 1
  have c2 : W.cell? ⟨g, 2, none⟩ = some (.int .i64 x2) := hB.cell 2
  have c3 : W.cell? ⟨g, 3, none⟩ = some (.slice x3 xl xc) := hB.cell 3
  have c4 : W.cell? ⟨g, 4, none⟩ = some (.int .i64 x4) := hB.cell 4
  have c5 : W.cell? ⟨g, 5, none⟩ = some (.bool x5) := hB.cell 5
  have c6 : W.cell? ⟨g, 6, none⟩ = some (.slice x6 xm xd) := hB.cell 6
  have c7 : W.cell? ⟨g, 7, none⟩ = some (.slice x7 xn xe) := hB.cell 7
  have lB := hB.lt
  clear hB
  unfold execOp
  simp only [ho, hv]
  go_simp
  try rfl
theorem wpList_load85 {w : World} {ops : Array Oper} {rest : List Oper} {o : Oper} {a : Act} {Q : Exit → Act → World → Prop} (g : Nat) (d : Operand) {REL : Array Value} (hR : IsFu REL) (hgd : o.guard = none) (ho : o.op = .load 85 d) (hv : a.eval d = .pointer (some ⟨g, 0, none⟩)) (hB : Blk w g 85 REL)
    (h : wpList Tryz.prog ops Q rest (a.put o.dst (.agg REL)) w) : wpList Tryz.prog ops Q (o :: rest) a w := by
  refine wpList_plain hgd fun K hK => ?_
  unfold Oper.wp
  rw [load85 w g d hR o a.eval ho hv hB]
  exact hK _ _ h
set_option maxRecDepth 100000 in
set_option maxHeartbeats 4000000 in
theorem store60 (W : World) (g : Nat) (d s : Operand) {OLD NEW : Array Value} (hO : IsRc OLD) (hR : IsRc NEW) (op : Oper) (ev : Operand → Value) (ho : op.op = .store 60 d s) (hv : ev d = .pointer (some ⟨g, 0, none⟩)) (hs : ev s = .agg NEW) (hB : Blk W g 60 OLD) :
    ∃ W2, (execOp ev op).run Tryz.prog W = .ok .skip W2 ∧ Blk W2 g 60 NEW ∧ (∀ b, b ≠ g → W2.heap[b]? = W.heap[b]?) ∧ ∀ w0 : World, w0.heap.size ≤ g → G w0 W → G w0 W2 := by
  obtain ⟨y0, y1, y2, y3, y4, yl, yc, rfl⟩ := hO
  obtain ⟨x0, x1, x2, x3, x4, xl, xc, rfl⟩ := hR
  have c0 : W.cell? ⟨g, 0, none⟩ = some (.int .i64 y0) := hB.cell 0
  have z0 := hB.frozen 0
  have c1 : W.cell? ⟨g, 1, none⟩ = some (.int .i64 y1) := hB.cell 1
  have z1 := hB.frozen 1
  have c2 : W.cell? ⟨g, 2, none⟩ = some (.int .i64 y2) := hB.cell 2
  have z2 := hB.frozen 2
  have c3 : W.cell? ⟨g, 3, none⟩ = some (.int .i64 y3) := hB.cell 3
  have z3 := hB.frozen 3
  have c4 : W.cell? ⟨g, 4, none⟩ = some (.slice y4 yl yc) := hB.cell 4
  have z4 := hB.frozen 4
  have lB := hB.lt
  refine ⟨(((((W).setCell ⟨g, 0, none⟩ (.int .i64 x0)).setCell ⟨g, 1, none⟩ (.int .i64 x1)).setCell ⟨g, 2, none⟩ (.int .i64 x2)).setCell ⟨g, 3, none⟩ (.int .i64 x3)).setCell ⟨g, 4, none⟩ (.slice x4 xl xc), ?_, ?_, ?_, fun w0 hg hG => (((((hG).s (p := ⟨g, 0, none⟩) hg (.int .i64 x0)).s (p := ⟨g, 1, none⟩) hg (.int .i64 x1)).s (p := ⟨g, 2, none⟩) hg (.int .i64 x2)).s (p := ⟨g, 3, none⟩) hg (.int .i64 x3)).s (p := ⟨g, 4, none⟩) hg (.slice x4 xl xc)⟩
  · clear hB
    unfold execOp
    simp only [ho, hv, hs]
    go_simp
  · have b := (((((hB).set_ 0 (.int .i64 x0)).set_ 1 (.int .i64 x1)).set_ 2 (.int .i64 x2)).set_ 3 (.int .i64 x3)).set_ 4 (.slice x4 xl xc)
    simp only [List.setIfInBounds_toArray, List.set_cons_zero, List.set_cons_succ] at b
    exact b
  · exact far_trans (far_trans (far_trans (far_trans (far_trans (fun _ _ => rfl) 0 (.int .i64 x0)) 1 (.int .i64 x1)) 2 (.int .i64 x2)) 3 (.int .i64 x3)) 4 (.slice x4 xl xc)
theorem wp_store60 {o : Oper} {a : Act} {W : World} {K : Act → World → Prop} {Q : Exit → Act → World → Prop} (g : Nat) (d s : Operand) {OLD NEW : Array Value} (hO : IsRc OLD) (hR : IsRc NEW) (ho : o.op = .store 60 d s) (hv : a.eval d = .pointer (some ⟨g, 0, none⟩)) (hs : a.eval s = .agg NEW) (hB : Blk W g 60 OLD)
    (hk : ∀ W2, Blk W2 g 60 NEW → (∀ b, b ≠ g → W2.heap[b]? = W.heap[b]?) → (∀ w0 : World, w0.heap.size ≤ g → G w0 W → G w0 W2) → K (a.put o.dst undef) W2) : Oper.wp Tryz.prog o a W K Q := by
  obtain ⟨W2, h1, h2, h3, h4⟩ := store60 W g d s hO hR o a.eval ho hv hs hB
  unfold Oper.wp
  rw [h1]
  exact hk W2 h2 h3 h4
theorem wpList_store60 {w : World} {ops : Array Oper} {rest : List Oper} {o : Oper} {a : Act} {Q : Exit → Act → World → Prop} (g : Nat) (d s : Operand) {OLD NEW : Array Value} (hO : IsRc OLD) (hR : IsRc NEW) (hgd : o.guard = none) (ho : o.op = .store 60 d s) (hv : a.eval d = .pointer (some ⟨g, 0, none⟩)) (hs : a.eval s = .agg NEW) (hB : Blk w g 60 OLD)
    (h : ∀ W2, Blk W2 g 60 NEW → (∀ b, b ≠ g → W2.heap[b]? = w.heap[b]?) → (∀ w0 : World, w0.heap.size ≤ g → G w0 w → G w0 W2) → wpList Tryz.prog ops Q rest (a.put o.dst undef) W2) : wpList Tryz.prog ops Q (o :: rest) a w := by
  refine wpList_plain hgd fun K hK => ?_
  exact wp_store60 g d s hO hR ho hv hs hB fun W2 h1 h2 h3 => hK _ _ (h W2 h1 h2 h3)
set_option maxRecDepth 100000 in
set_option maxHeartbeats 4000000 in
theorem load60 (W : World) (g : Nat) (d : Operand) {REL : Array Value} (hR : IsRc REL) (op : Oper) (ev : Operand → Value) (ho : op.op = .load 60 d) (hv : ev d = .pointer (some ⟨g, 0, none⟩)) (hB : Blk W g 60 REL) : (execOp ev op).run Tryz.prog W = .ok (.value (.agg REL)) W := by
  obtain ⟨x0, x1, x2, x3, x4, xl, xc, rfl⟩ := hR
  have c0 : W.cell? ⟨g, 0, none⟩ = some (.int .i64 x0) := hB.cell 0
  have c1 : W.cell? ⟨g, 1, none⟩ = some (.int .i64 x1) := hB.cell 1
  have c2 : W.cell? ⟨g, 2, none⟩ = some (.int .i64 x2) := hB.cell 2
  have c3 : W.cell? ⟨g, 3, none⟩ = some (.int .i64 x3) := hB.cell 3
  have c4 : W.cell? ⟨g, 4, none⟩ = some (.slice x4 xl xc) := hB.cell 4
  have lB := hB.lt
  clear hB
  unfold execOp
  simp only [ho, hv]
  go_simp
  try rfl
theorem wpList_load60 {w : World} {ops : Array Oper} {rest : List Oper} {o : Oper} {a : Act} {Q : Exit → Act → World → Prop} (g : Nat) (d : Operand) {REL : Array Value} (hR : IsRc REL) (hgd : o.guard = none) (ho : o.op = .load 60 d) (hv : a.eval d = .pointer (some ⟨g, 0, none⟩)) (hB : Blk w g 60 REL)
    (h : wpList Tryz.prog ops Q rest (a.put o.dst (.agg REL)) w) : wpList Tryz.prog ops Q (o :: rest) a w := by
  refine wpList_plain hgd fun K hK => ?_
  unfold Oper.wp
  rw [load60 w g d hR o a.eval ho hv hB]
  exact hK _ _ h
set_option maxRecDepth 100000 in
set_option maxHeartbeats 4000000 in
theorem res53 (tmps : Array Value) (w : World) (g : Nat) {REL : Array Value} (hR : IsFu REL) (h : tmps.getD 4 undef = .pointer (some ⟨g, 0, none⟩)) (hB : Blk w g 85 REL) :
    (results Tryz.f53 tmps).run Tryz.prog w = .ok (.agg REL) w := by
  obtain ⟨x0, x1, x2, x3, xl, xc, x4, x5, x6, xm, xd, x7, xn, xe, rfl⟩ := hR
  have c0 : w.cell? ⟨g, 0, none⟩ = some (.int .i64 x0) := hB.cell 0
  have c1 : w.cell? ⟨g, 1, none⟩ = some (.int .i64 x1) := hB.cell 1
  have c2 : w.cell? ⟨g, 2, none⟩ = some (.int .i64 x2) := hB.cell 2
  have c3 : w.cell? ⟨g, 3, none⟩ = some (.slice x3 xl xc) := hB.cell 3
  have c4 : w.cell? ⟨g, 4, none⟩ = some (.int .i64 x4) := hB.cell 4
  have c5 : w.cell? ⟨g, 5, none⟩ = some (.bool x5) := hB.cell 5
  have c6 : w.cell? ⟨g, 6, none⟩ = some (.slice x6 xm xd) := hB.cell 6
  have c7 : w.cell? ⟨g, 7, none⟩ = some (.slice x7 xn xe) := hB.cell 7
  clear hB
  have hr : Tryz.f53.results = #[.cell 4 85] := rfl
  have h' : tmps[4]?.getD undef = .pointer (some ⟨g, 0, none⟩) := by simpa using h
  simp only [results, hr]
  go_simp
end Go.Proofs.YtnkmcoljijmgpaaGreat
