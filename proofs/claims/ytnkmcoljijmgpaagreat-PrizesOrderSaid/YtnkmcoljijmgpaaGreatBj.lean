import Derived.Test.YtnkmcoljijmgpaaGreatBi
set_option linter.unusedSimpArgs false
set_option linter.unusedVariables false
namespace Go.Proofs.YtnkmcoljijmgpaaGreat
open Go.RowKit Go.Shelf Go.Sort Go.Maps
attribute [local go_sem] Oper.semAt_some
def Is2 (A : Array Value) : Prop := ∃ (x0 x1 : Int), A = #[.int .i64 x0, .int .i64 x1]
def Is3 (A : Array Value) : Prop := ∃ (x0 x1 x2 : Int), A = #[.int .i64 x0, .int .i64 x1, .int .i64 x2]
def Is4 (A : Array Value) : Prop := ∃ (x0 x1 x2 x3 : Int), A = #[.int .i64 x0, .int .i64 x1, .int .i64 x2, .int .i64 x3]
set_option maxRecDepth 100000 in
set_option maxHeartbeats 4000000 in
theorem store62 (W : World) (g : Nat) (d s : Operand) {OLD NEW : Array Value} (hO : Is2 OLD) (hR : Is2 NEW) (op : Oper) (ev : Operand → Value) (ho : op.op = .store 62 d s) (hv : ev d = .pointer (some ⟨g, 0, none⟩)) (hs : ev s = .agg NEW) (hB : Blk W g 62 OLD) :
    ∃ W2, (execOp ev op).run Tryz.prog W = .ok .skip W2 ∧ Blk W2 g 62 NEW ∧ (∀ b, b ≠ g → W2.heap[b]? = W.heap[b]?) ∧ ∀ w0 : World, w0.heap.size ≤ g → G w0 W → G w0 W2 := by
  obtain ⟨y0, y1, rfl⟩ := hO
  obtain ⟨x0, x1, rfl⟩ := hR
  have c0 : W.cell? ⟨g, 0, none⟩ = some (.int .i64 y0) := hB.cell 0
  have z0 := hB.frozen 0
  have c1 : W.cell? ⟨g, 1, none⟩ = some (.int .i64 y1) := hB.cell 1
  have z1 := hB.frozen 1
  have lB := hB.lt
  refine ⟨((W).setCell ⟨g, 0, none⟩ (.int .i64 x0)).setCell ⟨g, 1, none⟩ (.int .i64 x1), ?_, ?_, ?_, fun w0 hg hG => ((hG).s (p := ⟨g, 0, none⟩) hg (.int .i64 x0)).s (p := ⟨g, 1, none⟩) hg (.int .i64 x1)⟩
  · clear hB
    unfold execOp
    simp only [ho, hv, hs]
    go_simp
  · have b := ((hB).set_ 0 (.int .i64 x0)).set_ 1 (.int .i64 x1)
    simp only [List.setIfInBounds_toArray, List.set_cons_zero, List.set_cons_succ] at b
    exact b
  · exact far_trans (far_trans (fun _ _ => rfl) 0 (.int .i64 x0)) 1 (.int .i64 x1)
theorem wp_store62 {o : Oper} {a : Act} {W : World} {K : Act → World → Prop} {Q : Exit → Act → World → Prop} (g : Nat) (d s : Operand) {OLD NEW : Array Value} (hO : Is2 OLD) (hR : Is2 NEW) (ho : o.op = .store 62 d s) (hv : a.eval d = .pointer (some ⟨g, 0, none⟩)) (hs : a.eval s = .agg NEW) (hB : Blk W g 62 OLD)
    (hk : ∀ W2, Blk W2 g 62 NEW → (∀ b, b ≠ g → W2.heap[b]? = W.heap[b]?) → (∀ w0 : World, w0.heap.size ≤ g → G w0 W → G w0 W2) → K (a.put o.dst undef) W2) : Oper.wp Tryz.prog o a W K Q := by
  obtain ⟨W2, h1, h2, h3, h4⟩ := store62 W g d s hO hR o a.eval ho hv hs hB
  unfold Oper.wp
  rw [h1]
  exact hk W2 h2 h3 h4
theorem wpList_store62 {w : World} {ops : Array Oper} {rest : List Oper} {o : Oper} {a : Act} {Q : Exit → Act → World → Prop} (g : Nat) (d s : Operand) {OLD NEW : Array Value} (hO : Is2 OLD) (hR : Is2 NEW) (hgd : o.guard = none) (ho : o.op = .store 62 d s) (hv : a.eval d = .pointer (some ⟨g, 0, none⟩)) (hs : a.eval s = .agg NEW) (hB : Blk w g 62 OLD)
    (h : ∀ W2, Blk W2 g 62 NEW → (∀ b, b ≠ g → W2.heap[b]? = w.heap[b]?) → (∀ w0 : World, w0.heap.size ≤ g → G w0 w → G w0 W2) → wpList Tryz.prog ops Q rest (a.put o.dst undef) W2) : wpList Tryz.prog ops Q (o :: rest) a w := by
  refine wpList_plain hgd fun K hK => ?_
  exact wp_store62 g d s hO hR ho hv hs hB fun W2 h1 h2 h3 => hK _ _ (h W2 h1 h2 h3)
set_option maxRecDepth 100000 in
set_option maxHeartbeats 4000000 in
theorem load62 (W : World) (g : Nat) (d : Operand) {REL : Array Value} (hR : Is2 REL) (op : Oper) (ev : Operand → Value) (ho : op.op = .load 62 d) (hv : ev d = .pointer (some ⟨g, 0, none⟩)) (hB : Blk W g 62 REL) : (execOp ev op).run Tryz.prog W = .ok (.value (.agg REL)) W := by
  obtain ⟨x0, x1, rfl⟩ := hR
  have c0 : W.cell? ⟨g, 0, none⟩ = some (.int .i64 x0) := hB.cell 0
  have c1 : W.cell? ⟨g, 1, none⟩ = some (.int .i64 x1) := hB.cell 1
  have lB := hB.lt
  clear hB
  unfold execOp
  simp only [ho, hv]
  go_simp
  try rfl
theorem wpList_load62 {w : World} {ops : Array Oper} {rest : List Oper} {o : Oper} {a : Act} {Q : Exit → Act → World → Prop} (g : Nat) (d : Operand) {REL : Array Value} (hR : Is2 REL) (hgd : o.guard = none) (ho : o.op = .load 62 d) (hv : a.eval d = .pointer (some ⟨g, 0, none⟩)) (hB : Blk w g 62 REL)
    (h : wpList Tryz.prog ops Q rest (a.put o.dst (.agg REL)) w) : wpList Tryz.prog ops Q (o :: rest) a w := by
  refine wpList_plain hgd fun K hK => ?_
  unfold Oper.wp
  rw [load62 w g d hR o a.eval ho hv hB]
  exact hK _ _ h
set_option maxRecDepth 100000 in
set_option maxHeartbeats 4000000 in
theorem store33 (W : World) (g : Nat) (d s : Operand) {OLD NEW : Array Value} (hO : Is4 OLD) (hR : Is4 NEW) (op : Oper) (ev : Operand → Value) (ho : op.op = .store 33 d s) (hv : ev d = .pointer (some ⟨g, 0, none⟩)) (hs : ev s = .agg NEW) (hB : Blk W g 33 OLD) :
    ∃ W2, (execOp ev op).run Tryz.prog W = .ok .skip W2 ∧ Blk W2 g 33 NEW ∧ (∀ b, b ≠ g → W2.heap[b]? = W.heap[b]?) ∧ ∀ w0 : World, w0.heap.size ≤ g → G w0 W → G w0 W2 := by
  obtain ⟨y0, y1, y2, y3, rfl⟩ := hO
  obtain ⟨x0, x1, x2, x3, rfl⟩ := hR
  have c0 : W.cell? ⟨g, 0, none⟩ = some (.int .i64 y0) := hB.cell 0
  have z0 := hB.frozen 0
  have c1 : W.cell? ⟨g, 1, none⟩ = some (.int .i64 y1) := hB.cell 1
  have z1 := hB.frozen 1
  have c2 : W.cell? ⟨g, 2, none⟩ = some (.int .i64 y2) := hB.cell 2
  have z2 := hB.frozen 2
  have c3 : W.cell? ⟨g, 3, none⟩ = some (.int .i64 y3) := hB.cell 3
  have z3 := hB.frozen 3
  have lB := hB.lt
  refine ⟨((((W).setCell ⟨g, 0, none⟩ (.int .i64 x0)).setCell ⟨g, 1, none⟩ (.int .i64 x1)).setCell ⟨g, 2, none⟩ (.int .i64 x2)).setCell ⟨g, 3, none⟩ (.int .i64 x3), ?_, ?_, ?_, fun w0 hg hG => ((((hG).s (p := ⟨g, 0, none⟩) hg (.int .i64 x0)).s (p := ⟨g, 1, none⟩) hg (.int .i64 x1)).s (p := ⟨g, 2, none⟩) hg (.int .i64 x2)).s (p := ⟨g, 3, none⟩) hg (.int .i64 x3)⟩
  · clear hB
    unfold execOp
    simp only [ho, hv, hs]
    go_simp
  · have b := ((((hB).set_ 0 (.int .i64 x0)).set_ 1 (.int .i64 x1)).set_ 2 (.int .i64 x2)).set_ 3 (.int .i64 x3)
    simp only [List.setIfInBounds_toArray, List.set_cons_zero, List.set_cons_succ] at b
    exact b
  · exact far_trans (far_trans (far_trans (far_trans (fun _ _ => rfl) 0 (.int .i64 x0)) 1 (.int .i64 x1)) 2 (.int .i64 x2)) 3 (.int .i64 x3)
theorem wp_store33 {o : Oper} {a : Act} {W : World} {K : Act → World → Prop} {Q : Exit → Act → World → Prop} (g : Nat) (d s : Operand) {OLD NEW : Array Value} (hO : Is4 OLD) (hR : Is4 NEW) (ho : o.op = .store 33 d s) (hv : a.eval d = .pointer (some ⟨g, 0, none⟩)) (hs : a.eval s = .agg NEW) (hB : Blk W g 33 OLD)
    (hk : ∀ W2, Blk W2 g 33 NEW → (∀ b, b ≠ g → W2.heap[b]? = W.heap[b]?) → (∀ w0 : World, w0.heap.size ≤ g → G w0 W → G w0 W2) → K (a.put o.dst undef) W2) : Oper.wp Tryz.prog o a W K Q := by
  obtain ⟨W2, h1, h2, h3, h4⟩ := store33 W g d s hO hR o a.eval ho hv hs hB
  unfold Oper.wp
  rw [h1]
  exact hk W2 h2 h3 h4
theorem wpList_store33 {w : World} {ops : Array Oper} {rest : List Oper} {o : Oper} {a : Act} {Q : Exit → Act → World → Prop} (g : Nat) (d s : Operand) {OLD NEW : Array Value} (hO : Is4 OLD) (hR : Is4 NEW) (hgd : o.guard = none) (ho : o.op = .store 33 d s) (hv : a.eval d = .pointer (some ⟨g, 0, none⟩)) (hs : a.eval s = .agg NEW) (hB : Blk w g 33 OLD)
    (h : ∀ W2, Blk W2 g 33 NEW → (∀ b, b ≠ g → W2.heap[b]? = w.heap[b]?) → (∀ w0 : World, w0.heap.size ≤ g → G w0 w → G w0 W2) → wpList Tryz.prog ops Q rest (a.put o.dst undef) W2) : wpList Tryz.prog ops Q (o :: rest) a w := by
  refine wpList_plain hgd fun K hK => ?_
  exact wp_store33 g d s hO hR ho hv hs hB fun W2 h1 h2 h3 => hK _ _ (h W2 h1 h2 h3)
set_option maxRecDepth 100000 in
set_option maxHeartbeats 4000000 in
theorem load33 (W : World) (g : Nat) (d : Operand) {REL : Array Value} (hR : Is4 REL) (op : Oper) (ev : Operand → Value) (ho : op.op = .load 33 d) (hv : ev d = .pointer (some ⟨g, 0, none⟩)) (hB : Blk W g 33 REL) : (execOp ev op).run Tryz.prog W = .ok (.value (.agg REL)) W := by
  obtain ⟨x0, x1, x2, x3, rfl⟩ := hR
  have c0 : W.cell? ⟨g, 0, none⟩ = some (.int .i64 x0) := hB.cell 0
  have c1 : W.cell? ⟨g, 1, none⟩ = some (.int .i64 x1) := hB.cell 1
  have c2 : W.cell? ⟨g, 2, none⟩ = some (.int .i64 x2) := hB.cell 2
  have c3 : W.cell? ⟨g, 3, none⟩ = some (.int .i64 x3) := hB.cell 3
  have lB := hB.lt
  clear hB
  unfold execOp
  simp only [ho, hv]
  go_simp
  try rfl
theorem wpList_load33 {w : World} {ops : Array Oper} {rest : List Oper} {o : Oper} {a : Act} {Q : Exit → Act → World → Prop} (g : Nat) (d : Operand) {REL : Array Value} (hR : Is4 REL) (hgd : o.guard = none) (ho : o.op = .load 33 d) (hv : a.eval d = .pointer (some ⟨g, 0, none⟩)) (hB : Blk w g 33 REL)
    (h : wpList Tryz.prog ops Q rest (a.put o.dst (.agg REL)) w) : wpList Tryz.prog ops Q (o :: rest) a w := by
  refine wpList_plain hgd fun K hK => ?_
  unfold Oper.wp
  rw [load33 w g d hR o a.eval ho hv hB]
  exact hK _ _ h
set_option maxRecDepth 100000 in
set_option maxHeartbeats 4000000 in
theorem store47 (W : World) (g : Nat) (d s : Operand) {OLD NEW : Array Value} (hO : Is3 OLD) (hR : Is3 NEW) (op : Oper) (ev : Operand → Value) (ho : op.op = .store 47 d s) (hv : ev d = .pointer (some ⟨g, 0, none⟩)) (hs : ev s = .agg NEW) (hB : Blk W g 47 OLD) :
    ∃ W2, (execOp ev op).run Tryz.prog W = .ok .skip W2 ∧ Blk W2 g 47 NEW ∧ (∀ b, b ≠ g → W2.heap[b]? = W.heap[b]?) ∧ ∀ w0 : World, w0.heap.size ≤ g → G w0 W → G w0 W2 := by
  obtain ⟨y0, y1, y2, rfl⟩ := hO
  obtain ⟨x0, x1, x2, rfl⟩ := hR
  have c0 : W.cell? ⟨g, 0, none⟩ = some (.int .i64 y0) := hB.cell 0
  have z0 := hB.frozen 0
  have c1 : W.cell? ⟨g, 1, none⟩ = some (.int .i64 y1) := hB.cell 1
  have z1 := hB.frozen 1
  have c2 : W.cell? ⟨g, 2, none⟩ = some (.int .i64 y2) := hB.cell 2
  have z2 := hB.frozen 2
  have lB := hB.lt
  refine ⟨(((W).setCell ⟨g, 0, none⟩ (.int .i64 x0)).setCell ⟨g, 1, none⟩ (.int .i64 x1)).setCell ⟨g, 2, none⟩ (.int .i64 x2), ?_, ?_, ?_, fun w0 hg hG => (((hG).s (p := ⟨g, 0, none⟩) hg (.int .i64 x0)).s (p := ⟨g, 1, none⟩) hg (.int .i64 x1)).s (p := ⟨g, 2, none⟩) hg (.int .i64 x2)⟩
  · clear hB
    unfold execOp
    simp only [ho, hv, hs]
    go_simp
  · have b := (((hB).set_ 0 (.int .i64 x0)).set_ 1 (.int .i64 x1)).set_ 2 (.int .i64 x2)
    simp only [List.setIfInBounds_toArray, List.set_cons_zero, List.set_cons_succ] at b
    exact b
  · exact far_trans (far_trans (far_trans (fun _ _ => rfl) 0 (.int .i64 x0)) 1 (.int .i64 x1)) 2 (.int .i64 x2)
theorem wp_store47 {o : Oper} {a : Act} {W : World} {K : Act → World → Prop} {Q : Exit → Act → World → Prop} (g : Nat) (d s : Operand) {OLD NEW : Array Value} (hO : Is3 OLD) (hR : Is3 NEW) (ho : o.op = .store 47 d s) (hv : a.eval d = .pointer (some ⟨g, 0, none⟩)) (hs : a.eval s = .agg NEW) (hB : Blk W g 47 OLD)
    (hk : ∀ W2, Blk W2 g 47 NEW → (∀ b, b ≠ g → W2.heap[b]? = W.heap[b]?) → (∀ w0 : World, w0.heap.size ≤ g → G w0 W → G w0 W2) → K (a.put o.dst undef) W2) : Oper.wp Tryz.prog o a W K Q := by
  obtain ⟨W2, h1, h2, h3, h4⟩ := store47 W g d s hO hR o a.eval ho hv hs hB
  unfold Oper.wp
  rw [h1]
  exact hk W2 h2 h3 h4
theorem wpList_store47 {w : World} {ops : Array Oper} {rest : List Oper} {o : Oper} {a : Act} {Q : Exit → Act → World → Prop} (g : Nat) (d s : Operand) {OLD NEW : Array Value} (hO : Is3 OLD) (hR : Is3 NEW) (hgd : o.guard = none) (ho : o.op = .store 47 d s) (hv : a.eval d = .pointer (some ⟨g, 0, none⟩)) (hs : a.eval s = .agg NEW) (hB : Blk w g 47 OLD)
    (h : ∀ W2, Blk W2 g 47 NEW → (∀ b, b ≠ g → W2.heap[b]? = w.heap[b]?) → (∀ w0 : World, w0.heap.size ≤ g → G w0 w → G w0 W2) → wpList Tryz.prog ops Q rest (a.put o.dst undef) W2) : wpList Tryz.prog ops Q (o :: rest) a w := by
  refine wpList_plain hgd fun K hK => ?_
  exact wp_store47 g d s hO hR ho hv hs hB fun W2 h1 h2 h3 => hK _ _ (h W2 h1 h2 h3)
set_option maxRecDepth 100000 in
set_option maxHeartbeats 4000000 in
theorem load47 (W : World) (g : Nat) (d : Operand) {REL : Array Value} (hR : Is3 REL) (op : Oper) (ev : Operand → Value) (ho : op.op = .load 47 d) (hv : ev d = .pointer (some ⟨g, 0, none⟩)) (hB : Blk W g 47 REL) : (execOp ev op).run Tryz.prog W = .ok (.value (.agg REL)) W := by
  obtain ⟨x0, x1, x2, rfl⟩ := hR
  have c0 : W.cell? ⟨g, 0, none⟩ = some (.int .i64 x0) := hB.cell 0
  have c1 : W.cell? ⟨g, 1, none⟩ = some (.int .i64 x1) := hB.cell 1
  have c2 : W.cell? ⟨g, 2, none⟩ = some (.int .i64 x2) := hB.cell 2
  have lB := hB.lt
  clear hB
  unfold execOp
  simp only [ho, hv]
  go_simp
  try rfl
theorem wpList_load47 {w : World} {ops : Array Oper} {rest : List Oper} {o : Oper} {a : Act} {Q : Exit → Act → World → Prop} (g : Nat) (d : Operand) {REL : Array Value} (hR : Is3 REL) (hgd : o.guard = none) (ho : o.op = .load 47 d) (hv : a.eval d = .pointer (some ⟨g, 0, none⟩)) (hB : Blk w g 47 REL)
    (h : wpList Tryz.prog ops Q rest (a.put o.dst (.agg REL)) w) : wpList Tryz.prog ops Q (o :: rest) a w := by
  refine wpList_plain hgd fun K hK => ?_
  unfold Oper.wp
  rw [load47 w g d hR o a.eval ho hv hB]
  exact hK _ _ h
set_option maxRecDepth 100000 in
set_option maxHeartbeats 4000000 in
theorem store40 (W : World) (g : Nat) (d s : Operand) {OLD NEW : Array Value} (hO : Is3 OLD) (hR : Is3 NEW) (op : Oper) (ev : Operand → Value) (ho : op.op = .store 40 d s) (hv : ev d = .pointer (some ⟨g, 0, none⟩)) (hs : ev s = .agg NEW) (hB : Blk W g 40 OLD) :
    ∃ W2, (execOp ev op).run Tryz.prog W = .ok .skip W2 ∧ Blk W2 g 40 NEW ∧ (∀ b, b ≠ g → W2.heap[b]? = W.heap[b]?) ∧ ∀ w0 : World, w0.heap.size ≤ g → G w0 W → G w0 W2 := by
  obtain ⟨y0, y1, y2, rfl⟩ := hO
  obtain ⟨x0, x1, x2, rfl⟩ := hR
  have c0 : W.cell? ⟨g, 0, none⟩ = some (.int .i64 y0) := hB.cell 0
  have z0 := hB.frozen 0
  have c1 : W.cell? ⟨g, 1, none⟩ = some (.int .i64 y1) := hB.cell 1
  have z1 := hB.frozen 1
  have c2 : W.cell? ⟨g, 2, none⟩ = some (.int .i64 y2) := hB.cell 2
  have z2 := hB.frozen 2
  have lB := hB.lt
  refine ⟨(((W).setCell ⟨g, 0, none⟩ (.int .i64 x0)).setCell ⟨g, 1, none⟩ (.int .i64 x1)).setCell ⟨g, 2, none⟩ (.int .i64 x2), ?_, ?_, ?_, fun w0 hg hG => (((hG).s (p := ⟨g, 0, none⟩) hg (.int .i64 x0)).s (p := ⟨g, 1, none⟩) hg (.int .i64 x1)).s (p := ⟨g, 2, none⟩) hg (.int .i64 x2)⟩
  · clear hB
    unfold execOp
    simp only [ho, hv, hs]
    go_simp
  · have b := (((hB).set_ 0 (.int .i64 x0)).set_ 1 (.int .i64 x1)).set_ 2 (.int .i64 x2)
    simp only [List.setIfInBounds_toArray, List.set_cons_zero, List.set_cons_succ] at b
    exact b
  · exact far_trans (far_trans (far_trans (fun _ _ => rfl) 0 (.int .i64 x0)) 1 (.int .i64 x1)) 2 (.int .i64 x2)
theorem wp_store40 {o : Oper} {a : Act} {W : World} {K : Act → World → Prop} {Q : Exit → Act → World → Prop} (g : Nat) (d s : Operand) {OLD NEW : Array Value} (hO : Is3 OLD) (hR : Is3 NEW) (ho : o.op = .store 40 d s) (hv : a.eval d = .pointer (some ⟨g, 0, none⟩)) (hs : a.eval s = .agg NEW) (hB : Blk W g 40 OLD)
    (hk : ∀ W2, Blk W2 g 40 NEW → (∀ b, b ≠ g → W2.heap[b]? = W.heap[b]?) → (∀ w0 : World, w0.heap.size ≤ g → G w0 W → G w0 W2) → K (a.put o.dst undef) W2) : Oper.wp Tryz.prog o a W K Q := by
  obtain ⟨W2, h1, h2, h3, h4⟩ := store40 W g d s hO hR o a.eval ho hv hs hB
  unfold Oper.wp
  rw [h1]
  exact hk W2 h2 h3 h4
theorem wpList_store40 {w : World} {ops : Array Oper} {rest : List Oper} {o : Oper} {a : Act} {Q : Exit → Act → World → Prop} (g : Nat) (d s : Operand) {OLD NEW : Array Value} (hO : Is3 OLD) (hR : Is3 NEW) (hgd : o.guard = none) (ho : o.op = .store 40 d s) (hv : a.eval d = .pointer (some ⟨g, 0, none⟩)) (hs : a.eval s = .agg NEW) (hB : Blk w g 40 OLD)
    (h : ∀ W2, Blk W2 g 40 NEW → (∀ b, b ≠ g → W2.heap[b]? = w.heap[b]?) → (∀ w0 : World, w0.heap.size ≤ g → G w0 w → G w0 W2) → wpList Tryz.prog ops Q rest (a.put o.dst undef) W2) : wpList Tryz.prog ops Q (o :: rest) a w := by
  refine wpList_plain hgd fun K hK => ?_
  exact wp_store40 g d s hO hR ho hv hs hB fun W2 h1 h2 h3 => hK _ _ (h W2 h1 h2 h3)
set_option maxRecDepth 100000 in
set_option maxHeartbeats 4000000 in
theorem load40 (W : World) (g : Nat) (d : Operand) {REL : Array Value} (hR : Is3 REL) (op : Oper) (ev : Operand → Value) (ho : op.op = .load 40 d) (hv : ev d = .pointer (some ⟨g, 0, none⟩)) (hB : Blk W g 40 REL) : (execOp ev op).run Tryz.prog W = .ok (.value (.agg REL)) W := by
  obtain ⟨x0, x1, x2, rfl⟩ := hR
  have c0 : W.cell? ⟨g, 0, none⟩ = some (.int .i64 x0) := hB.cell 0
  have c1 : W.cell? ⟨g, 1, none⟩ = some (.int .i64 x1) := hB.cell 1
  have c2 : W.cell? ⟨g, 2, none⟩ = some (.int .i64 x2) := hB.cell 2
  have lB := hB.lt
  clear hB
  unfold execOp
  simp only [ho, hv]
  go_simp
  try rfl
theorem wpList_load40 {w : World} {ops : Array Oper} {rest : List Oper} {o : Oper} {a : Act} {Q : Exit → Act → World → Prop} (g : Nat) (d : Operand) {REL : Array Value} (hR : Is3 REL) (hgd : o.guard = none) (ho : o.op = .load 40 d) (hv : a.eval d = .pointer (some ⟨g, 0, none⟩)) (hB : Blk w g 40 REL)
    (h : wpList Tryz.prog ops Q rest (a.put o.dst (.agg REL)) w) : wpList Tryz.prog ops Q (o :: rest) a w := by
  refine wpList_plain hgd fun K hK => ?_
  unfold Oper.wp
  rw [load40 w g d hR o a.eval ho hv hB]
  exact hK _ _ h
end Go.Proofs.YtnkmcoljijmgpaaGreat
