import Derived.Test.YtnkmcoljijmgpaaGreatBh
set_option linter.unusedSimpArgs false
set_option linter.unusedVariables false
namespace Go.Proofs.YtnkmcoljijmgpaaGreat
open Go.RowKit Go.Shelf Go.Sort Go.Maps
attribute [local go_sem] Oper.semAt_some
def Is2 (A : Array Value) : Prop := ∃ (x0 x1 : Int), A = #[.int .i64 x0, .int .i64 x1]
def Is3 (A : Array Value) : Prop := ∃ (x0 x1 x2 : Int), A = #[.int .i64 x0, .int .i64 x1, .int .i64 x2]
def Is4 (A : Array Value) : Prop := ∃ (x0 x1 x2 x3 : Int), A = #[.int .i64 x0, .int .i64 x1, .int .i64 x2, .int .i64 x3]
set_option maxRecDepth 100000 in
set_option maxHeartbeats 4000000 in
theorem store62 (W : World) (g : Nat) (d s : Operand) {OLD NEW : Array Value} (hO : Is2 OLD) (hR : Is2 NEW) (op : Oper) (ev : Operand → Value) (ho : op.op = .store 62 d s) (hv : ev d = .pointer (some ⟨g, 0, none⟩)) (hs : ev s = .agg NEW) (hB : Blk W g 62 OLD) :
    ∃ W2, (execOp ev op).run Tryz.prog W = .ok .skip W2 ∧ Blk W2 g 62 NEW ∧ (∀ b, b ≠ g → W2.heap[b]? = W.heap[b]?) ∧ ∀ w0 : World, w0.heap.size ≤ g → G w0 W → G w0 W2 := by
  obtain ⟨y0, y1, rfl⟩ := hO
  obtain ⟨x0, x1, rfl⟩ := hR
  have c0 : W.cell? ⟨g, 0, none⟩ = some (.int .i64 y0) := hB.cell 0
  have z0 := hB.frozen 0
  have c1 : W.cell? ⟨g, 1, none⟩ = some (.int .i64 y1) := hB.cell 1
  have z1 := hB.frozen 1
  have lB := hB.lt
  refine ⟨((W).setCell ⟨g, 0, none⟩ (.int .i64 x0)).setCell ⟨g, 1, none⟩ (.int .i64 x1), ?_, ?_, ?_, fun w0 hg hG => ((hG).s (p := ⟨g, 0, none⟩) hg (.int .i64 x0)).s (p := ⟨g, 1, none⟩) hg (.int .i64 x1)⟩
  · clear hB
    unfold execOp
    simp only [ho, hv, hs]
    go_simp
  · have b := ((hB).set_ 0 (.int .i64 x0)).set_ 1 (.int .i64 x1)
    simp only [List.setIfInBounds_toArray, List.set_cons_zero, List.set_cons_succ] at b
    exact b
  · exact far_trans (far_trans (fun _ _ => rfl) 0 (.int .i64 x0)) 1 (.int .i64 x1)
theorem wp_store62 {o : Oper} {a : Act} {W : World} {K : Act → World → Prop} {Q : Exit → Act → World → Prop} (g : Nat) (d s : Operand) {OLD NEW : Array Value} (hO : Is2 OLD) (hR : Is2 NEW) (ho : o.op = .store 62 d s) (hv : a.eval d = .pointer (some ⟨g, 0, none⟩)) (hs : a.eval s = .agg NEW) (hB : Blk W g 62 OLD)
    (hk : ∀ W2, Blk W2 g 62 NEW → (∀ b, b ≠ g → W2.heap[b]? = W.heap[b]?) → (∀ w0 : World, w0.heap.size ≤ g → G w0 W → G w0 W2) → K (a.put o.dst undef) W2) : Oper.wp Tryz.prog o a W K Q := by
  obtain ⟨W2, h1, h2, h3, h4⟩ := store62 W g d s hO hR o a.eval ho hv hs hB
  unfold Oper.wp
  rw [h1]
  exact hk W2 h2 h3 h4
theorem wpList_store62 {w : World} {ops : Array Oper} {rest : List Oper} {o : Oper} {a : Act} {Q : Exit → Act → World → Prop} (g : Nat) (d s : Operand) {OLD NEW : Array Value} (hO : Is2 OLD) (hR : Is2 NEW) (hgd : o.guard = none) (ho : o.op = .store 62 d s) (hv : a.eval d = .pointer (some ⟨g, 0, none⟩)) (hs : a.eval s = .agg NEW) (hB : Blk w g 62 OLD)
    (h : ∀ W2, Blk W2 g 62 NEW → (∀ b, b ≠ g → W2.heap[b]? = w.heap[b]?) → (∀ w0 : World, w0.heap.size ≤ g → G w0 w → G w0 W2) → wpList Tryz.prog ops Q rest (a.put o.dst undef) W2) : wpList Tryz.prog ops Q (o :: rest) a w := by
  refine wpList_plain hgd fun K hK => ?_
  exact wp_store62 g d s hO hR ho hv hs hB fun W2 h1 h2 h3 => hK _ _ (h W2 h1 h2 h3)
set_option maxRecDepth 100000 in
set_option maxHeartbeats 4000000 in
theorem load62 (W : World) (g : Nat) (d : Operand) {REL : Array Value} (hR : Is2 REL) (op : Oper) (ev : Operand → Value) (ho : op.op = .load 62 d) (hv : ev d = .pointer (some ⟨g, 0, none⟩)) (hB : Blk W g 62 REL) : (execOp ev op).run Tryz.prog W = .ok (.value (.agg REL)) W := by
  obtain ⟨x0, x1, rfl⟩ := hR
  have c0 : W.cell? ⟨g, 0, none⟩ = some (.int .i64 x0) := hB.cell 0
  have c1 : W.cell? ⟨g, 1, none⟩ = some (.int .i64 x1) := hB.cell 1
  have lB := hB.lt
  clear hB
  unfold execOp
  simp only [ho, hv]
  go_simp
  try rfl
theorem wpList_load62 {w : World} {ops : Array Oper} {rest : List Oper} {o : Oper} {a : Act} {Q : Exit → Act → World → Prop} (g : Nat) (d : Operand) {REL : Array Value} (hR : Is2 REL) (hgd : o.guard = none) (ho : o.op = .load 62 d) (hv : a.eval d = .pointer (some ⟨g, 0, none⟩)) (hB : Blk w g 62 REL)
    (h : wpList Tryz.prog ops Q rest (a.put o.dst (.agg REL)) w) : wpList Tryz.prog ops Q (o :: rest) a w := by
  refine wpList_plain hgd fun K hK => ?_
  unfold Oper.wp
  rw [load62 w g d hR o a.eval ho hv hB]
  exact hK _ _ h
set_option maxRecDepth 100000 in
set_option maxHeartbeats 4000000 in
theorem store33 (W : World) (g : Nat) (d s : Operand) {OLD NEW : Array Value} (hO : Is4 OLD) (hR : Is4 NEW) (op : Oper) (ev : Operand → Value) (ho : op.op = .store 33 d s) (hv : ev d = .pointer (some ⟨g, 0, none⟩)) (hs : ev s = .agg NEW) (hB : Blk W g 33 OLD) :
    ∃ W2, (execOp ev op).run Tryz.prog W = .ok .skip W2 ∧ Blk W2 g 33 NEW ∧ (∀ b, b ≠ g → W2.heap[b]? = W.heap[b]?) ∧ ∀ w0 : World, w0.heap.size ≤ g → G w0 W → G w0 W2 := by
  obtain ⟨y0, y1, y2, y3, rfl⟩ := hO
  obtain ⟨x0, x1, x2, x3, rfl⟩ := hR
  have c0 : W.cell? ⟨g, 0, none⟩ = some (.int .i64 y0) := hB.cell 0
  have z0 := hB.frozen 0
  have c1 : W.cell? ⟨g, 1, none⟩ = some (.int .i64 y1) := hB.cell 1
  have z1 := hB.frozen 1
  have c2 : W.cell? ⟨g, 2, none⟩ = some (.int .i64 y2) := hB.cell 2
  have z2 := hB.frozen 2
  have c3 : W.cell? ⟨g, 3, none⟩ = some (.int .i64 y3) := hB.cell 3
  have z3 := hB.frozen 3
  have lB := hB.lt
  refine ⟨((((W).setCell ⟨g, 0, none⟩ (.int .i64 x0)).setCell ⟨g, 1, none⟩ (.int .i64 x1)).setCell ⟨g, 2, none⟩ (.int .i64 x2)).setCell ⟨g, 3, none⟩ (.int .i64 x3), ?_, ?_, ?_, fun w0 hg hG => ((((hG).s (p := ⟨g, 0, none⟩) hg (.int .i64 x0)).s (p := ⟨g, 1, none⟩) hg (.int .i64 x1)).s (p := ⟨g, 2, none⟩) hg (.int .i64 x2)).s (p := ⟨g, 3, none⟩) hg (.int .i64 x3)⟩
  · clear hB
    unfold execOp
    simp only [ho, hv, hs]
    go_simp
  · have b := ((((hB).set_ 0 (.int .i64 x0)).set_ 1 (.int .i64 x1)).set_ 2 (.int .i64 x2)).set_ 3 (.int .i64 x3)
    simp only [List.setIfInBounds_toArray, List.set_cons_zero, List.set_cons_succ] at b
    exact b
  · exact far_trans (far_trans (far_trans (far_trans (fun _ _ => rfl) 0 (.int .i64 x0)) 1 (.int .i64 x1)) 2 (.int .i64 x2)) 3 (.int .i64 x3)
theorem wp_store33 {o : Oper} {a : Act} {W : World} {K : Act → World → Prop} {Q : Exit → Act → World → Prop} (g : Nat) (d s : Operand) {OLD NEW : Array Value} (hO : Is4 OLD) (hR : Is4 NEW) (ho : o.op = .store 33 d s) (hv : a.eval d = .pointer (some ⟨g, 0, none⟩)) (hs : a.eval s = .agg NEW) (hB : Blk W g 33 OLD)
    (hk : ∀ W2, Blk W2 g 33 NEW → (∀ b, b ≠ g → W2.heap[b]? = W.heap[b]?) → (∀ w0 : World, w0.heap.size ≤ g → G w0 W → G w0 W2) → K (a.put o.dst undef) W2) : Oper.wp Tryz.prog o a W K Q := by
  obtain ⟨W2, h1, h2, h3, h4⟩ := store33 W g d s hO hR o a.eval ho hv hs hB
  unfold Oper.wp
  rw [h1]
  exact hk W2 h2 h3 h4
theorem wpList_store33 {w : World} {ops : Array Oper} {rest : List Oper} {o : Oper} {a : Act} {Q : Exit → Act → World → Prop} (g : Nat) (d s : Operand) {OLD NEW : Array Value} (hO : Is4 OLD) (hR : Is4 NEW) (hgd : o.guard = none) (ho : o.op = .store 33 d s) (hv : a.eval d = .pointer (some ⟨g, 0, none⟩)) (hs : a.eval s = .agg NEW) (hB : Blk w g 33 OLD)
    (h : ∀ W2, Blk W2 g 33 NEW → (∀ b, b ≠ g → W2.heap[b]? = w.heap[b]?) → (∀ w0 : World, w0.heap.size ≤ g → G w0 w → G w0 W2) → wpList Tryz.prog ops Q rest (a.put o.dst undef) W2) : wpList Tryz.prog ops Q (o :: rest) a w := by
  refine wpList_plain hgd fun K hK => ?_
  exact wp_store33 g d s hO hR ho hv hs hB fun W2 h1 h2 h3 => hK _ _ (h W2 h1 h2 h3)
set_option maxRecDepth 100000 in
set_option maxHeartbeats 4000000 in
theorem load33 (W : World) (g : Nat) (d : Operand) {REL : Array Value} (hR : Is4 REL) (op : Oper) (ev : Operand → Value) (ho : op.op = .load 33 d) (hv : ev d = .pointer (some ⟨g, 0, none⟩)) (hB : Blk W g 33 REL) : (execOp ev op).run Tryz.prog W = .ok (.value (.agg REL)) W := by
  obtain ⟨x0, x1, x2, x3, rfl⟩ := hR
  have c0 : W.cell? ⟨g, 0, none⟩ = some (.int .i64 x0) := hB.cell 0
  have c1 : W.cell? ⟨g, 1, none⟩ = some (.int .i64 x1) := hB.cell 1
  have c2 : W.cell? ⟨g, 2, none⟩ = some (.int .i64 x2) := hB.cell 2
  have c3 : W.cell? ⟨g, 3, none⟩ = some (.int .i64 x3) := hB.cell 3
  have lB := hB.lt
  clear hB
  unfold execOp
  simp only [ho, hv]
  go_simp
  try rfl
theorem wpList_load33 {w : World} {ops : Array Oper} {rest : List Oper} {o : Oper} {a : Act} {Q : Exit → Act → World → Prop} (g : Nat) (d : Operand) {REL : Array Value} (hR : Is4 REL) (hgd : o.guard = none) (ho : o.op = .load 33 d) (hv : a.eval d = .pointer (some ⟨g, 0, none⟩)) (hB : Blk w g 33 REL)
    (h : wpList Tryz.prog ops Q rest (a.put o.dst (.agg REL)) w) : wpList Tryz.prog ops Q (o :: rest) a w := by
  refine wpList_plain hgd fun K hK => ?_
  unfold Oper.wp
  rw [load33 w g d hR o a.eval ho hv hB]
  exact hK _ _ h
set_option maxRecDepth 100000 in
set_option maxHeartbeats 4000000 in
theorem store47 (W : World) (g : Nat) (d s : Operand) {OLD NEW : Array Value} (hO : Is3 OLD) (hR : Is3 NEW) (op : Oper) (ev : Operand → Value) (ho : op.op = .store 47 d s) (hv : ev d = .pointer (some ⟨g, 0, none⟩)) (hs : ev s = .agg NEW) (hB : Blk W g 47 OLD) :
    ∃ W2, (execOp ev op).run Tryz.prog W = .ok .skip W2 ∧ Blk W2 g 47 NEW ∧ (∀ b, b ≠ g → W2.heap[b]? = W.heap[b]?) ∧ ∀ w0 : World, w0.heap.size ≤ g → G w0 W → G w0 W2 := by
  obtain ⟨y0, y1, y2, rfl⟩ := hO
  obtain ⟨x0, x1, x2, rfl⟩ := hR
  have c0 : W.cell? ⟨g, 0, none⟩ = some (.int .i64 y0) := hB.cell 0
  have z0 := hB.frozen 0
  have c1 : W.cell? ⟨g, 1, none⟩ = some (.int .i64 y1) := hB.cell 1
  have z1 := hB.frozen 1
  have c2 : W.cell? ⟨g, 2, none⟩ = some (.int .i64 y2) := hB.cell 2
  have z2 := hB.frozen 2
  have lB := hB.lt
  refine ⟨(((W).setCell ⟨g, 0, none⟩ (.int .i64 x0)).setCell ⟨g, 1, none⟩ (.int .i64 x1)).setCell ⟨g, 2, none⟩ (.int .i64 x2), ?_, ?_, ?_, fun w0 hg hG => (((hG).s (p := ⟨g, 0, none⟩) hg (.int .i64 x0)).s (p := ⟨g, 1, none⟩) hg (.int .i64 x1)).s (p := ⟨g, 2, none⟩) hg (.int .i64 x2)⟩
  · clear hB
    unfold execOp
    simp only [ho, hv, hs]
    go_simp
  · have b := (((hB).set_ 0 (.int .i64 x0)).set_ 1 (.int .i64 x1)).set_ 2 (.int .i64 x2)
    simp only [List.setIfInBounds_toArray, List.set_cons_zero, List.set_cons_succ] at b
    exact b
  · exact far_trans (far_trans (far_trans (fun _ _ => rfl) 0 (.int .i64 x0)) 1 (.int .i64 x1)) 2 (.int .i64 x2)
theorem wp_store47 {o : Oper} {a : Act} {W : World} {K : Act → World → Prop} {Q : Exit → Act → World → Prop} (g : Nat) (d s : Operand) {OLD NEW : Array Value} (hO : Is3 OLD) (hR : Is3 NEW) (ho : o.op = .store 47 d s) (hv : a.eval d = .pointer (some ⟨g, 0, none⟩)) (hs : a.eval s = .agg NEW) (hB : Blk W g 47 OLD)
    (hk : ∀ W2, Blk W2 g 47 NEW → (∀ b, b ≠ g → W2.heap[b]? = W.heap[b]?) → (∀ w0 : World, w0.heap.size ≤ g → G w0 W → G w0 W2) → K (a.put o.dst undef) W2) : Oper.wp Tryz.prog o a W K Q := by
  obtain ⟨W2, h1, h2, h3, h4⟩ := store47 W g d s hO hR o a.eval ho hv hs hB
  unfold Oper.wp
  rw [h1]
  exact hk W2 h2 h3 h4
theorem wpList_store47 {w : World} {ops : Array Oper} {rest : List Oper} {o : Oper} {a : Act} {Q : Exit → Act → World → Prop} (g : Nat) (d s : Operand) {OLD NEW : Array Value} (hO : Is3 OLD) (hR : Is3 NEW) (hgd : o.guard = none) (ho : o.op = .store 47 d s) (hv : a.eval d = .pointer (some ⟨g, 0, none⟩)) (hs : a.eval s = .agg NEW) (hB : Blk w g 47 OLD)
    (h : ∀ W2, Blk W2 g 47 NEW → (∀ b, b ≠ g → W2.heap[b]? = w.heap[b]?) → (∀ w0 : World, w0.heap.size ≤ g → G w0 w → G w0 W2) → wpList Tryz.prog ops Q rest (a.put o.dst undef) W2) : wpList Tryz.prog ops Q (o :: rest) a w := by
  refine wpList_plain hgd fun K hK => ?_
  exact wp_store47 g d s hO hR ho hv hs hB fun W2 h1 h2 h3 => hK _ _ (h W2 h1 h2 h3)
set_option maxRecDepth 100000 in
set_option maxHeartbeats 4000000 in
theorem load47 (W : World) (g : Nat) (d : Operand) {REL : Array Value} (hR : Is3 REL) (op : Oper) (ev : Operand → Value) (ho : op.op = .load 47 d) (hv : ev d = .pointer (some ⟨g, 0, none⟩)) (hB : Blk W g 47 REL) : (execOp ev op).run Tryz.prog W = .ok (.value (.agg REL)) W := by
  obtain ⟨x0, x1, x2, rfl⟩ := hR
  have c0 : W.cell? ⟨g, 0, none⟩ = some (.int .i64 x0) := hB.cell 0
  have c1 : W.cell? ⟨g, 1, none⟩ = some (.int .i64 x1) := hB.cell 1
  have c2 : W.cell? ⟨g, 2, none⟩ = some (.int .i64 x2) := hB.cell 2
  have lB := hB.lt
  clear hB
  unfold execOp
  simp only [ho, hv]
  go_simp
  try rfl
theorem wpList_load47 {w : World} {ops : Array Oper} {rest : List Oper} {o : Oper} {a : Act} {Q : Exit → Act → World → Prop} (g : Nat) (d : Operand) {REL : Array Value} (hR : Is3 REL) (hgd : o.guard = none) (ho : o.op = .load 47 d) (hv : a.eval d = .pointer (some ⟨g, 0, none⟩)) (hB : Blk w g 47 REL)
    (h : wpList Tryz.prog ops Q rest (a.put o.dst (.agg REL)) w) : wpList Tryz.prog ops Q (o :: rest) a w := by
  refine wpList_plain hgd fun K hK => ?_
  unfold Oper.wp
  rw [load47 w g d hR o a.eval ho hv hB]
  exact hK _ _ h
set_option maxRecDepth 100000 in
set_option maxHeartbeats 4000000 in
theorem store40 (W : World) (g : Nat) (d s : Operand) {OLD NEW : Array Value} (hO : Is3 OLD) (hR : Is3 NEW) (op : Oper) (ev : Operand → Value) (ho : op.op = .store 40 d s) (hv : ev d = .pointer (some ⟨g, 0, none⟩)) (hs : ev s = .agg NEW) (hB : Blk W g 40 OLD) :
    ∃ W2, (execOp ev op).run Tryz.prog W = .ok .skip W2 ∧ Blk W2 g 40 NEW ∧ (∀ b, b ≠ g → W2.heap[b]? = W.heap[b]?) ∧ ∀ w0 : World, w0.heap.size ≤ g → G w0 W → G w0 W2 := by
  obtain ⟨y0, y1, y2, rfl⟩ := hO
  obtain ⟨x0, x1, x2, rfl⟩ := hR
  have c0 : W.cell? ⟨g, 0, none⟩ = some (.int .i64 y0) := hB.cell 0
  have z0 := hB.frozen 0
  have c1 : W.cell? ⟨g, 1, none⟩ = some (.int .i64 y1) := hB.cell 1
  have z1 := hB.frozen 1
  have c2 : W.cell? ⟨g, 2, none⟩ = some (.int .i64 y2) := hB.cell 2
  have z2 := hB.frozen 2
  have lB := hB.lt
  refine ⟨(((W).setCell ⟨g, 0, none⟩ (.int .i64 x0)).setCell ⟨g, 1, none⟩ (.int .i64 x1)).setCell ⟨g, 2, none⟩ (.int .i64 x2), ?_, ?_, ?_, fun w0 hg hG => (((hG).s (p := ⟨g, 0, none⟩) hg (.int .i64 x0)).s (p := ⟨g, 1, none⟩) hg (.int .i64 x1)).s (p := ⟨g, 2, none⟩) hg (.int .i64 x2)⟩
  · clear hB
    unfold execOp
    simp only [ho, hv, hs]
    go_simp
  · have b := (((hB).set_ 0 (.int .i64 x0)).set_ 1 (.int .i64 x1)).set_ 2 (.int .i64 x2)
    simp only [List.setIfInBounds_toArray, List.set_cons_zero, List.set_cons_succ] at b
    exact b
  · exact far_trans (far_trans (far_trans (fun _ _ => rfl) 0 (.int .i64 x0)) 1 (.int .i64 x1)) 2 (.int .i64 x2)
theorem wp_store40 {o : Oper} {a : Act} {W : World} {K : Act → World → Prop} {Q : Exit → Act → World → Prop} (g : Nat) (d s : Operand) {OLD NEW : Array Value} (hO : Is3 OLD) (hR : Is3 NEW) (ho : o.op = .store 40 d s) (hv : a.eval d = .pointer (some ⟨g, 0, none⟩)) (hs : a.eval s = .agg NEW) (hB : Blk W g 40 OLD)
    (hk : ∀ W2, Blk W2 g 40 NEW → (∀ b, b ≠ g → W2.heap[b]? = W.heap[b]?) → (∀ w0 : World, w0.heap.size ≤ g → G w0 W → G w0 W2) → K (a.put o.dst undef) W2) : Oper.wp Tryz.prog o a W K Q := by
  obtain ⟨W2, h1, h2, h3, h4⟩ := store40 W g d s hO hR o a.eval ho hv hs hB
  unfold Oper.wp
  rw [h1]
  exact hk W2 h2 h3 h4
theorem wpList_store40 {w : World} {ops : Array Oper} {rest : List Oper} {o : Oper} {a : Act} {Q : Exit → Act → World → Prop} (g : Nat) (d s : Operand) {OLD NEW : Array Value} (hO : Is3 OLD) (hR : Is3 NEW) (hgd : o.guard = none) (ho : o.op = .store 40 d s) (hv : a.eval d = .pointer (some ⟨g, 0, none⟩)) (hs : a.eval s = .agg NEW) (hB : Blk w g 40 OLD)
    (h : ∀ W2, Blk W2 g 40 NEW → (∀ b, b ≠ g → W2.heap[b]? = w.heap[b]?) → (∀ w0 : World, w0.heap.size ≤ g → G w0 w → G w0 W2) → wpList Tryz.prog ops Q rest (a.put o.dst undef) W2) : wpList Tryz.prog ops Q (o :: rest) a w := by
  refine wpList_plain hgd fun K hK => ?_
  exact wp_store40 g d s hO hR ho hv hs hB fun W2 h1 h2 h3 => hK _ _ (h W2 h1 h2 h3)
set_option maxRecDepth 100000 in
set_option maxHeartbeats 4000000 in
theorem load40 (W : World) (g : Nat) (d : Operand) {REL : Array Value} (hR : Is3 REL) (op : Oper) (ev : Operand → Value) (ho : op.op = .load 40 d) (hv : ev d = .pointer (some ⟨g, 0, none⟩)) (hB : Blk W g 40 REL) : (execOp ev op).run Tryz.prog W = .ok (.value (.agg REL)) W := by
  obtain ⟨x0, x1, x2, rfl⟩ := hR
  have c0 : W.cell? ⟨g, 0, none⟩ = some (.int .i64 x0) := hB.cell 0
  have c1 : W.cell? ⟨g, 1, none⟩ = some (.int .i64 x1) := hB.cell 1
  have c2 : W.cell? ⟨g, 2, none⟩ = some (.int .i64 x2) := hB.cell 2
  have lB := hB.lt
  clear hB
  unfold execOp
  simp only [ho, hv]
  go_simp
  try rfl
theorem wpList_load40 {w : World} {ops : Array Oper} {rest : List Oper} {o : Oper} {a : Act} {Q : Exit → Act → World → Prop} (g : Nat) (d : Operand) {REL : Array Value} (hR : Is3 REL) (hgd : o.guard = none) (ho : o.op = .load 40 d) (hv : a.eval d = .pointer (some ⟨g, 0, none⟩)) (hB : Blk w g 40 REL)
    (h : wpList Tryz.prog ops Q rest (a.put o.dst (.agg REL)) w) : wpList Tryz.prog ops Q (o :: rest) a w := by
  refine wpList_plain hgd fun K hK => ?_
  unfold Oper.wp
  rw [load40 w g d hR o a.eval ho hv hB]
  exact hK _ _ h
end Go.Proofs.YtnkmcoljijmgpaaGreat
set_option linter.unusedSimpArgs false
set_option linter.unusedVariables false
namespace Go.Proofs.YtnkmcoljijmgpaaGreat
open Go.RowKit Go.Shelf Go.Sort Go.Maps
attribute [local go_sem] Oper.semAt_some
set_option maxRecDepth 100000 in
set_option maxHeartbeats 4000000 in
theorem res17 (tmps : Array Value) (w : World) (g : Nat) (n : Int) {REL : Array Value} (hR : Is4 REL) (h : tmps.getD 4 undef = .pointer (some ⟨g, 0, none⟩)) (h7 : tmps.getD 5 undef = .int .i64 n) (hB : Blk w g 33 REL) :
    (results Tryz.f17 tmps).run Tryz.prog w = .ok (.tuple #[.agg REL, .int .i64 n]) w := by
  obtain ⟨x0, x1, x2, x3, rfl⟩ := hR
  have c0 := hB.cell 0
  have c1 := hB.cell 1
  have c2 := hB.cell 2
  have c3 := hB.cell 3
  clear hB
  have hr : Tryz.f17.results = #[.cell 4 33, .tmp 5] := rfl
  have h' : tmps[4]?.getD undef = .pointer (some ⟨g, 0, none⟩) := by simpa using h
  have h7' : tmps[5]?.getD undef = .int .i64 n := by simpa using h7
  simp only [results, hr]
  go_simp
def potV (f : Fu) : Array Value := #[.int .i64 (totI f), .int .i64 (kepI f), .int .i64 (lefI f), .int .i64 (resI f [])]
def PotPost (r : Ra) (p : Int) (w : World) (e : Ending) (w' : World) : Prop := G w w' ∧ ((qE r p [] ≠ 0 ∧ e = .returned (.tuple #[.agg #[.int .i64 0, .int .i64 0, .int .i64 0, .int .i64 0], .int .i64 (qE r p [])])) ∨ (qE r p [] = 0 ∧ e = .returned (.tuple #[.agg (potV (fuOf r p none 0)), .int .i64 0])))
set_option maxRecDepth 100000 in
set_option maxHeartbeats 8000000 in
theorem Pot_any (r : Ra) (p : Int) (w : World) (h : r.At w) : Calls Tryz.prog 17 #[.agg r.v, .int .i64 p] w (PotPost r p w) := by
  have HQ := Lib.hid (fun (W : World) (hW : G w W) => question_any r p [] none 0 W (h.keep hW) (.inl rfl) (by simp))
  have HE : Hid (qE r p [] ≠ 0 → ∀ W', G w W' → PotPost r p w (.returned (.tuple #[.agg #[.int .i64 0, .int .i64 0, .int .i64 0, .int .i64 0], .int .i64 (qE r p [])])) W') := fun a W' b => ⟨b, .inl ⟨a, rfl⟩⟩
  have HS : Hid (qE r p [] = 0 → ∀ fa fc W', G w W' → PotPost r p w (.returned (.tuple #[.agg (potV (fuOf r p fa fc)), .int .i64 0])) W') := fun a fa fc W' b => ⟨b, .inr ⟨a, rfl⟩⟩
  have HC := Lib.hid (fun (hq : qE r p [] = 0) (W : World) (hW : G w W) (B : Nat) (fa : Option Addr) (fc : Nat) (ho : W.ownsRow B 60 5 (.slice fa (runners r p).length fc) (runners r p).length (rcV (runners r p))) => gf_of (qE_parts hq).1 (qE_parts hq).2 (h.keep hW) ho)
  unfold QPost at HQ
  have hv : ∀ fa fc, (fuOf r p fa fc).v = #[.int .i64 (poolAt r p).stake, .int .i64 (poolAt r p).cut, .int .i64 (poolAt r p).kind, .slice (poolAt r p).ta (poolAt r p).table.length (poolAt r p).tc, .int .i64 (poolAt r p).quota, .bool (poolAt r p).first, .slice fa (runners r p).length fc, .slice r.ta r.protests.length r.tc] := fun _ _ => rfl
  generalize PotPost r p w = PP at *
  clear h
  have hn1 : (w.alloc (.cells r.v 26)).heap.size = w.heap.size + 1 := Array.size_push ..
  have g0 : G w ((w.alloc (.cells r.v 26)).alloc (.cells #[.int .i64 0, .int .i64 0, .int .i64 0, .int .i64 0] 33)) := ((G.rf _).a _).a _
  have b0 : Blk ((w.alloc (.cells r.v 26)).alloc (.cells #[.int .i64 0, .int .i64 0, .int .i64 0, .int .i64 0] 33)) w.heap.size 26 r.v := (Blk.new _ _ _).alloc _
  have bz : Blk ((w.alloc (.cells r.v 26)).alloc (.cells #[.int .i64 0, .int .i64 0, .int .i64 0, .int .i64 0] 33)) (w.heap.size + 1) 33 #[.int .i64 0, .int .i64 0, .int .i64 0, .int .i64 0] := Blk.new1 _ _ _ _
  have m0 : ((w.alloc (.cells r.v 26)).alloc (.cells #[.int .i64 0, .int .i64 0, .int .i64 0, .int .i64 0] 33)).cell? ⟨w.heap.size, 0, none⟩ = some (.slice r.ra r.racers.length r.rc) := b0.cell 0
  have m1 : ((w.alloc (.cells r.v 26)).alloc (.cells #[.int .i64 0, .int .i64 0, .int .i64 0, .int .i64 0] 33)).cell? ⟨w.heap.size, 1, none⟩ = some (.slice r.pa r.pools.length r.pc) := b0.cell 1
  have m2 : ((w.alloc (.cells r.v 26)).alloc (.cells #[.int .i64 0, .int .i64 0, .int .i64 0, .int .i64 0] 33)).cell? ⟨w.heap.size, 2, none⟩ = some (.slice r.ta r.protests.length r.tc) := b0.cell 2
  have l0 := b0.lt
  have hrv : r.v = #[.slice r.ra r.racers.length r.rc, .slice r.pa r.pools.length r.pc, .slice r.ta r.protests.length r.tc] := rfl
  rw [hrv] at HQ g0 m0 m1 m2 l0 bz hn1 ⊢
  clear hrv b0
  generalize hQE : qE r p [] = QE at *
  go_enter Tryz.func17, Tryz.ntmps17
  go_upto_region 1 with fail
  change Code.wp _ _ _ _ ((w.alloc (.cells #[.slice r.ra r.racers.length r.rc, .slice r.pa r.pools.length r.pc, .slice r.ta r.protests.length r.tc] 26)).alloc (.cells #[.int .i64 0, .int .i64 0, .int .i64 0, .int .i64 0] 33))
  clear hn1
  generalize (w.alloc (.cells #[.slice r.ra r.racers.length r.rc, .slice r.pa r.pools.length r.pc, .slice r.ta r.protests.length r.tc] 26)).alloc (.cells #[.int .i64 0, .int .i64 0, .int .i64 0, .int .i64 0] 33) = W1 at *
  by_cases hq : QE = 0
  · have HQ1 : Hid (Calls Tryz.prog 46 #[.agg #[.slice r.ra r.racers.length r.rc, .slice r.pa r.pools.length r.pc, .slice r.ta r.protests.length r.tc], .int .i64 p, .slice none 0 0] W1 fun e w' => ∃ fa fc, e = .returned (.tuple #[.agg (fuOf r p fa fc).v, .int .i64 0]) ∧ w'.ownsRow W1.heap.size 60 5 (.slice fa (runners r p).length fc) (runners r p).length (rcV (runners r p)) ∧ G W1 w') := by
      refine (HQ.out W1 g0).mono ?_
      rintro e w' ⟨hG, hh⟩
      rcases hh with ⟨a, _⟩ | ⟨_, fa, fc, a, b⟩
      · exact absurd hq a
      · exact ⟨fa, fc, a, b, hG⟩
    simp only [hv] at HQ1
    clear HQ HE
    go_upto_region 4 with (go_at_call 46; refine (HQ1.out).mono ?_; rintro e w2 ⟨fa, fc, rfl, ho2, hG2⟩)
    have ga := (G.rf w2).a (.cells #[.int .i64 (poolAt r p).stake, .int .i64 (poolAt r p).cut, .int .i64 (poolAt r p).kind, .slice (poolAt r p).ta (poolAt r p).table.length (poolAt r p).tc, .int .i64 (poolAt r p).quota, .bool (poolAt r p).first, .slice fa (runners r p).length fc, .slice r.ta r.protests.length r.tc] 85)
    have bK : Blk (w2.alloc (.cells #[.int .i64 (poolAt r p).stake, .int .i64 (poolAt r p).cut, .int .i64 (poolAt r p).kind, .slice (poolAt r p).ta (poolAt r p).table.length (poolAt r p).tc, .int .i64 (poolAt r p).quota, .bool (poolAt r p).first, .slice fa (runners r p).length fc, .slice r.ta r.protests.length r.tc] 85)) w2.heap.size 85 #[.int .i64 (poolAt r p).stake, .int .i64 (poolAt r p).cut, .int .i64 (poolAt r p).kind, .slice (poolAt r p).ta (poolAt r p).table.length (poolAt r p).tc, .int .i64 (poolAt r p).quota, .bool (poolAt r p).first, .slice fa (runners r p).length fc, .slice r.ta r.protests.length r.tc] := Blk.new _ _ _
    have hgf := HC.out hq _ ((g0.t hG2).t ga) _ fa fc (own_G ho2 ga)
    have g3 := (g0.t hG2).t ga
    have bz3 := (bz.keep hG2).keep ga
    have hKz : w.heap.size + 1 < w2.heap.size := (bz.keep hG2).lt
    clear m0 m1 m2 l0 ho2 ga HC HQ1 hG2 bz
    obtain ⟨K, hK⟩ : ∃ K, K = w2.heap.size := ⟨_, rfl⟩
    rw [← hK] at bK hKz ⊢
    clear hK
    change Code.wp _ _ _ _ (w2.alloc (.cells #[.int .i64 (poolAt r p).stake, .int .i64 (poolAt r p).cut, .int .i64 (poolAt r p).kind, .slice (poolAt r p).ta (poolAt r p).table.length (poolAt r p).tc, .int .i64 (poolAt r p).quota, .bool (poolAt r p).first, .slice fa (runners r p).length fc, .slice r.ta r.protests.length r.tc] 85))
    generalize w2.alloc (.cells #[.int .i64 (poolAt r p).stake, .int .i64 (poolAt r p).cut, .int .i64 (poolAt r p).kind, .slice (poolAt r p).ta (poolAt r p).table.length (poolAt r p).tc, .int .i64 (poolAt r p).quota, .bool (poolAt r p).first, .slice fa (runners r p).length fc, .slice r.ta r.protests.length r.tc] 85) = w3 at *
    have HS2 := Lib.hid (HS.out hq fa fc)
    have HTo := Lib.hid (fun (W : World) => total_any (fuOf r p fa fc) W hgf.B)
    have HKe := Lib.hid (fun (W : World) => kept_any (fuOf r p fa fc) W hgf.B)
    have HLe := Lib.hid (fun (W : World) => left_any (fuOf r p fa fc) W hgf.B)
    have HWo := Lib.hid (fun (W : World) (hW : G w3 W) => (hgf.keep hW).won [] none 0 (.inl rfl) (by simp))
    have HRe := Lib.hid (fun (W : World) (hW : G w3 W) (m : Nat) (hm : Won W m (wonL (fuOf r p fa fc) [])) => (hgf.keep hW).rest [] m hm)
    rw [show lefI (fuOf r p fa fc) - sndS (wonL (fuOf r p fa fc) []) = resI (fuOf r p fa fc) [] from rfl] at HRe
    unfold potV at HS2
    generalize totI (fuOf r p fa fc) = TT at *
    generalize kepI (fuOf r p fa fc) = KK at *
    generalize lefI (fuOf r p fa fc) = LL at *
    generalize resI (fuOf r p fa fc) [] = RR at *
    generalize wonL (fuOf r p fa fc) [] = WL at *
    rw [hv fa fc] at HTo HKe HLe HWo HRe
    clear hgf hv HS
    have hSk : ∀ W', G w3 W' → Blk W' K 85 #[.int .i64 (poolAt r p).stake, .int .i64 (poolAt r p).cut, .int .i64 (poolAt r p).kind, .slice (poolAt r p).ta (poolAt r p).table.length (poolAt r p).tc, .int .i64 (poolAt r p).quota, .bool (poolAt r p).first, .slice fa (runners r p).length fc, .slice r.ta r.protests.length r.tc] := fun W' hW => bK.keep hW
    refine wp_region_Y (S := fun W' => Blk W' K 85 #[.int .i64 (poolAt r p).stake, .int .i64 (poolAt r p).cut, .int .i64 (poolAt r p).kind, .slice (poolAt r p).ta (poolAt r p).table.length (poolAt r p).tc, .int .i64 (poolAt r p).quota, .bool (poolAt r p).first, .slice fa (runners r p).length fc, .slice r.ta r.protests.length r.tc]) 12 13 rfl (by kernel_rfl) (hSk _ (G.rf _).d) (fun hS => ?_)
    have ga := (G.rf w3).d
    refine wpAnyY_take (i := 0) (v := ?_) rfl (by kernel_rfl) (by kernel_rfl) (by kernel_rfl) (by kernel_rfl) (fun _ _ _ h => h) (Or.inl ⟨by kernel_rfl, ?_⟩) hS ?_
    rotate_left
    · intro w' hSw; have m0 := hSw.cell 0; have m1 := hSw.cell 1; have m2 := hSw.cell 2; have m3 := hSw.cell 3; have m4 := hSw.cell 4; have m5 := hSw.cell 5; have m6 := hSw.cell 6; have m7 := hSw.cell 7; have l0 := hSw.lt; go_simp; with_reducible rfl
    try simp only [Act.put, List.getElem_toArray, List.getElem_cons_zero, List.getElem_cons_succ, List.setIfInBounds_toArray, List.set_cons_zero, List.set_cons_succ]
    refine wpAnyY_take (i := 2) (v := ?_) rfl (by kernel_rfl) (by kernel_rfl) (by kernel_rfl) (by kernel_rfl) (fun _ _ _ h => h) (Or.inl ⟨by kernel_rfl, ?_⟩) hS ?_
    rotate_left
    · intro w' hSw; have m0 := hSw.cell 0; have m1 := hSw.cell 1; have m2 := hSw.cell 2; have m3 := hSw.cell 3; have m4 := hSw.cell 4; have m5 := hSw.cell 5; have m6 := hSw.cell 6; have m7 := hSw.cell 7; have l0 := hSw.lt; go_simp; with_reducible rfl
    try simp only [Act.put, List.getElem_toArray, List.getElem_cons_zero, List.getElem_cons_succ, List.setIfInBounds_toArray, List.set_cons_zero, List.set_cons_succ]
    refine wpAnyY_take (i := 4) (v := ?_) rfl (by kernel_rfl) (by kernel_rfl) (by kernel_rfl) (by kernel_rfl) (fun _ _ _ h => h) (Or.inl ⟨by kernel_rfl, ?_⟩) hS ?_
    rotate_left
    · intro w' hSw; have m0 := hSw.cell 0; have m1 := hSw.cell 1; have m2 := hSw.cell 2; have m3 := hSw.cell 3; have m4 := hSw.cell 4; have m5 := hSw.cell 5; have m6 := hSw.cell 6; have m7 := hSw.cell 7; have l0 := hSw.lt; go_simp; with_reducible rfl
    try simp only [Act.put, List.getElem_toArray, List.getElem_cons_zero, List.getElem_cons_succ, List.setIfInBounds_toArray, List.set_cons_zero, List.set_cons_succ]
    refine wpAnyY_take (i := 6) (v := ?_) rfl (by kernel_rfl) (by kernel_rfl) (by kernel_rfl) (by kernel_rfl) (fun _ _ _ h => h) (Or.inl ⟨by kernel_rfl, ?_⟩) hS ?_
    rotate_left
    · intro w' hSw; have m0 := hSw.cell 0; have m1 := hSw.cell 1; have m2 := hSw.cell 2; have m3 := hSw.cell 3; have m4 := hSw.cell 4; have m5 := hSw.cell 5; have m6 := hSw.cell 6; have m7 := hSw.cell 7; have l0 := hSw.lt; go_simp; with_reducible rfl
    try simp only [Act.put, List.getElem_toArray, List.getElem_cons_zero, List.getElem_cons_succ, List.setIfInBounds_toArray, List.set_cons_zero, List.set_cons_succ]
    refine wpAnyY_take (i := 7) (v := ?_) rfl (by kernel_rfl) (by kernel_rfl) (by kernel_rfl) (by kernel_rfl) (fun _ _ _ h => h) (Or.inl ⟨by kernel_rfl, ?_⟩) hS ?_
    rotate_left
    · intro w' hSw; have m0 := hSw.cell 0; have m1 := hSw.cell 1; have m2 := hSw.cell 2; have m3 := hSw.cell 3; have m4 := hSw.cell 4; have m5 := hSw.cell 5; have m6 := hSw.cell 6; have m7 := hSw.cell 7; have l0 := hSw.lt; go_simp; with_reducible rfl
    try simp only [Act.put, List.getElem_toArray, List.getElem_cons_zero, List.getElem_cons_succ, List.setIfInBounds_toArray, List.set_cons_zero, List.set_cons_succ]
    refine wpAnyY_oneSW (i := 1) (by kernel_rfl) rfl (by kernel_rfl) (fun K1 hK1 => ?_)
    go_simp
    refine (HTo.out _).mono ?_
    rintro e w4 ⟨rfl, hG4⟩
    replace ga := ga.t hG4
    refine hK1.out _ _ (hSk _ ga) (fun hS => ?_)
    clear hK1
    try simp only [Act.put, List.getElem_toArray, List.getElem_cons_zero, List.getElem_cons_succ, List.setIfInBounds_toArray, List.set_cons_zero, List.set_cons_succ]
    refine wpAnyY_oneSW (i := 3) (by kernel_rfl) rfl (by kernel_rfl) (fun K3 hK3 => ?_)
    go_simp
    refine (HKe.out _).mono ?_
    rintro e w5 ⟨rfl, hG5⟩
    replace ga := ga.t hG5
    refine hK3.out _ _ (hSk _ ga) (fun hS => ?_)
    clear hK3
    try simp only [Act.put, List.getElem_toArray, List.getElem_cons_zero, List.getElem_cons_succ, List.setIfInBounds_toArray, List.set_cons_zero, List.set_cons_succ]
    refine wpAnyY_oneSW (i := 5) (by kernel_rfl) rfl (by kernel_rfl) (fun K5 hK5 => ?_)
    go_simp
    refine (HLe.out _).mono ?_
    rintro e w6 ⟨rfl, hG6⟩
    replace ga := ga.t hG6
    refine hK5.out _ _ (hSk _ ga) (fun hS => ?_)
    clear hK5
    try simp only [Act.put, List.getElem_toArray, List.getElem_cons_zero, List.getElem_cons_succ, List.setIfInBounds_toArray, List.set_cons_zero, List.set_cons_succ]
    refine wpAnyY_oneSW (i := 8) (by kernel_rfl) rfl (by kernel_rfl) (fun K8 hK8 => ?_)
    go_simp
    refine (HWo.out _ ga).mono ?_
    rintro e w7 ⟨m, rfl, hwon, hml, hG7⟩
    replace ga := ga.t hG7
    refine hK8.out _ _ (hSk _ ga) (fun hS => ?_)
    clear hK8
    try simp only [Act.put, List.getElem_toArray, List.getElem_cons_zero, List.getElem_cons_succ, List.setIfInBounds_toArray, List.set_cons_zero, List.set_cons_succ]
    refine wpAnyY_oneSW (i := 9) (by kernel_rfl) rfl (by kernel_rfl) (fun K9 hK9 => ?_)
    go_simp
    refine (HRe.out _ ga m hwon).mono ?_
    rintro e w8 ⟨rfl, hG8⟩
    replace ga := ga.t hG8
    refine hK9.out _ _ (hSk _ ga) (fun hS => ?_)
    clear hK9
    try simp only [Act.put, List.getElem_toArray, List.getElem_cons_zero, List.getElem_cons_succ, List.setIfInBounds_toArray, List.set_cons_zero, List.set_cons_succ]
    refine wpAnyY_take (i := 10) (v := ?_) rfl (by kernel_rfl) (by kernel_rfl) (by kernel_rfl) (by kernel_rfl) (fun _ _ _ h => h) (Or.inl ⟨by kernel_rfl, ?_⟩) hS ?_
    rotate_left
    · intro w' hSw; go_simp; with_reducible rfl
    try simp only [Act.put, List.getElem_toArray, List.getElem_cons_zero, List.getElem_cons_succ, List.setIfInBounds_toArray, List.set_cons_zero, List.set_cons_succ]
    have bz8 := bz3.keep ga
    refine wpAnyY_oneSW (i := 11) (by kernel_rfl) rfl (by kernel_rfl) (fun K11 hK11 => ?_)
    refine wp_store33 (w.heap.size + 1) (.tmp 4) (.tmp 28) (OLD := #[.int .i64 0, .int .i64 0, .int .i64 0, .int .i64 0]) (NEW := #[.int .i64 TT, .int .i64 KK, .int .i64 LL, .int .i64 RR]) ⟨_, _, _, _, rfl⟩ ⟨_, _, _, _, rfl⟩ rfl rfl rfl bz8 (fun W2 hb2 hF2 hG2 => ?_)
    refine hK11.out _ _ ((hF2 K (by omega)).trans hS) (fun hS => ?_)
    clear hK11
    try simp only [Act.put, List.getElem_toArray, List.getElem_cons_zero, List.getElem_cons_succ, List.setIfInBounds_toArray, List.set_cons_zero, List.set_cons_succ]
    have gz : G w W2 := hG2 w (by omega) (g3.t ga)
    clear hF2 hG2 bz8
    refine wpAnyY_oneW (i := 12) (by kernel_rfl) rfl (by kernel_rfl) (by kernel_rfl) (fun K12 hK12 => ?_)
    go_simp
    refine hK12.out _ _ ?_
    clear hK12
    try simp only [Act.put, List.getElem_toArray, List.getElem_cons_zero, List.getElem_cons_succ, List.setIfInBounds_toArray, List.set_cons_zero, List.set_cons_succ]
    refine wpAnyY_done (by kernel_rfl) ?_ _
    have HF := Lib.hid (HS2.out _ gz)
    clear HS2 hS hSk ga
    go_wp2_with fail
    try simp only [Exit.inBlock, Exit.then]
    refine bodyPost_ret (res17 _ _ (w.heap.size + 1) 0 (REL := #[.int .i64 TT, .int .i64 KK, .int .i64 LL, .int .i64 RR]) ⟨_, _, _, _, rfl⟩ rfl rfl hb2) rfl ?_
    exact HF.out
  · have HQ0 : Hid (Calls Tryz.prog 46 #[.agg #[.slice r.ra r.racers.length r.rc, .slice r.pa r.pools.length r.pc, .slice r.ta r.protests.length r.tc], .int .i64 p, .slice none 0 0] W1 fun e w' => e = .returned (.tuple #[.agg #[.int .i64 0, .int .i64 0, .int .i64 0, .slice none 0 0, .int .i64 0, .bool false, .slice none 0 0, .slice none 0 0], .int .i64 QE]) ∧ G W1 w') := by
      refine (HQ.out W1 g0).mono ?_
      rintro e w' ⟨hG, hh⟩
      rcases hh with ⟨_, a⟩ | ⟨a, _⟩
      · exact ⟨a, hG⟩
      · exact absurd a hq
    have e0 : (QE == 0) = false := by simpa using hq
    have HE2 := Lib.hid (HE.out hq)
    clear HQ HE HC HS hv
    go_upto_region 3 with (go_at_call 46; refine (HQ0.out).mono ?_; rintro e w2 ⟨rfl, hG2⟩)
    have bz2 := (bz.keep hG2).alloc (.cells #[.int .i64 0, .int .i64 0, .int .i64 0, .slice none 0 0, .int .i64 0, .bool false, .slice none 0 0, .slice none 0 0] 85)
    have g2 := (g0.t hG2).a (.cells #[.int .i64 0, .int .i64 0, .int .i64 0, .slice none 0 0, .int .i64 0, .bool false, .slice none 0 0, .slice none 0 0] 85)
    clear m0 m1 m2 l0 bz HQ0
    refine wp_region_lit ?_
    refine wpList_plain rfl fun K hK => ?_
    go_simp
    refine hK _ _ ?_
    clear hK
    try simp only [Act.put, List.getElem_toArray, List.getElem_cons_zero, List.getElem_cons_succ, List.setIfInBounds_toArray, List.set_cons_zero, List.set_cons_succ]
    refine wpList_plain rfl fun K hK => ?_
    go_simp
    refine hK _ _ ?_
    clear hK
    try simp only [Act.put, List.getElem_toArray, List.getElem_cons_zero, List.getElem_cons_succ, List.setIfInBounds_toArray, List.set_cons_zero, List.set_cons_succ]
    refine wpList_store33 (w.heap.size + 1) (.tmp 4) (.tmp 16) (OLD := #[.int .i64 0, .int .i64 0, .int .i64 0, .int .i64 0]) (NEW := #[.int .i64 0, .int .i64 0, .int .i64 0, .int .i64 0]) ⟨_, _, _, _, rfl⟩ ⟨_, _, _, _, rfl⟩ rfl rfl rfl rfl bz2 (fun W9 hb9 hF9 hG9 => ?_)
    try simp only [Act.put, List.getElem_toArray, List.getElem_cons_zero, List.getElem_cons_succ, List.setIfInBounds_toArray, List.set_cons_zero, List.set_cons_succ]
    have g9 : G w W9 := hG9 w (by omega) g2
    have HF := Lib.hid (HE2.out W9 g9)
    clear hF9 hG9 g9 g2
    go_wp2_with fail
    try simp only [Exit.inBlock, Exit.then]
    refine bodyPost_ret (res17 _ _ (w.heap.size + 1) QE (REL := #[.int .i64 0, .int .i64 0, .int .i64 0, .int .i64 0]) ⟨_, _, _, _, rfl⟩ rfl rfl hb9) rfl ?_
    exact HF.out
end Go.Proofs.YtnkmcoljijmgpaaGreat
