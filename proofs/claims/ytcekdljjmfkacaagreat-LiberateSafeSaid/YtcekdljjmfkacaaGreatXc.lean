import Derived.Test.YtcekdljjmfkacaaGreatOa
set_option linter.unusedSimpArgs false
set_option linter.unusedVariables false
namespace Go.Proofs.YtcekdljjmfkacaaGreat
open Go.RowKit Go.Shelf
attribute [local go_sem] Oper.semAt_some wide_fn wide_dep wideR_fn wideR_dep
/-- a release of which the places are numbers from 0 on, and where its parts lie -/
structure Rl where
  north : Int
  wrong : Int
  lw : Int
  lg : Int
  lh : Int
  cols : Nat
  lofts : Nat
  bx : Nat
  bY : Nat
  sl : Nat
  sh : Nat
  hours : Nat
  dark : Nat
  east : List Int
  svs : List Sv
  n : Nat
  k : Nat
  hx : Nat → Nat
  hy : Nat → Nat
  f : Nat → Nat → Int
  ea : Option Addr
  sa : Option Addr
  ha : Option Addr
  fa : Option Addr
  ec : Nat
  sc : Nat
  hc : Nat
  fc : Nat
namespace Rl
variable (r : Rl)
def h (i j : Nat) : Int := if j = 0 then (r.hx i : Nat) else (r.hy i : Nat)
def cells : List Value := [.int .i64 r.north, .int .i64 (r.cols : Nat), .slice r.ea r.east.length r.ec, .int .i64 (r.lofts : Nat), .slice r.sa r.svs.length r.sc, .int .i64 r.wrong, .int .i64 (r.bx : Nat), .int .i64 (r.bY : Nat), .slice r.ha r.n r.hc, .int .i64 (r.sl : Nat), .int .i64 (r.sh : Nat), .slice r.fa r.k r.fc, .int .i64 r.lw, .int .i64 r.lg, .int .i64 r.lh, .int .i64 (r.hours : Nat), .int .i64 (r.dark : Nat)]
def v : Array Value := r.cells.toArray
/-- the places of the way to a home -/
def P (i : Nat) : List (Nat × Nat) := pbK r.bx r.bY (r.hx i) (r.hy i) (stepsN r.bx r.bY (r.hx i) (r.hy i)) (stepsN r.bx r.bY (r.hx i) (r.hy i))
def ns (i : Nat) : Nat := (r.P i).length
/-- the stops of the way to a home: column, row, the earliest and the latest minute -/
def st (i k j : Nat) : Nat := if k < r.ns i then (match j with
  | 0 => ((r.P i).getD k (0, 0)).1
  | 1 => ((r.P i).getD k (0, 0)).2
  | 2 => loT r.north r.east (r.P i) r.sh k
  | _ => hiT r.north r.east (r.P i) r.sl k) else 0
def L (i : Nat) : List Value := stV r.north r.east (r.P i) r.sl r.sh (r.P i).length
def S : Int → Int → Int → Option Sk := SD r.f r.k r.cols r.east.length r.hours r.east.length 0 0
def lim : Sk := skLim r.lw r.lg r.lh
def good : Prop := GoodTo r.f r.k r.cols r.east.length r.hours r.east.length 0 0
structure Ok (w : World) : Prop where
  he : IntsAt w r.ea r.east
  hs : SvsAt w r.sa r.svs
  hk : checkE r.north r.cols r.east r.lofts r.svs r.wrong = 0
  hr : RelOk r.cols r.east.length r.bx r.bY r.sl r.sh r.lw r.lg r.lh r.hours r.dark r.n r.h
  hH : RowAt w r.ha r.n 2 r.h
  hF : RowAt w r.fa r.k 12 r.f
  hk12 : r.k ≤ 12
  hfo : ∀ i, i < r.k → FrontOk r.cols r.east.length r.hours (r.f i)
theorem Ok.keep {r : Rl} {w w' : World} (h : r.Ok w) (hG : G w w') : r.Ok w' := ⟨h.he.below hG, h.hs.below hG, h.hk, h.hr, h.hH.below hG, h.hF.below hG, h.hk12, h.hfo⟩
/-- a forecast of the release lies at block F -/
def Fc (W : World) (F : Nat) : Prop := ∃ m cnt v wl B, Blk W F 104 (r.cells ++ [v, .map (some m)]).toArray ∧ WMap W m cnt r.S ∧ W.ownsRow B 81 1 v r.n wl ∧ ∀ j, j < r.n → ∃ b, W.ownsRow b 84 4 (wl.getD j undef) (r.ns j) (r.L j)
theorem Fc.keep {r : Rl} {W W' : World} {F : Nat} (h : r.Fc W F) (hG : G W W') : r.Fc W' F := by
  obtain ⟨m, cnt, v, wl, B, h1, h2, h3, h4⟩ := h
  exact ⟨m, cnt, v, wl, B, h1.keep hG, h2.keep hG, own_G h3 hG, fun j hj => by obtain ⟨b, hb⟩ := h4 j hj; exact ⟨b, own_G hb hG⟩⟩
structure Nums : Prop where
  cols : r.cols ≤ 10
  rows : r.east.length ≤ 10
  base : r.bx < r.cols ∧ r.bY < r.east.length
  homes : ∀ i, i < r.n → r.hx i < r.cols ∧ r.hy i < r.east.length
  many : r.n ≤ 6
  speed : 1 ≤ r.sl ∧ r.sl ≤ r.sh ∧ r.sh ≤ 3000000
  hours : 1 ≤ r.hours ∧ r.hours ≤ 12
  dark : r.dark ≤ 9999
  lims : (0 ≤ r.lw ∧ r.lw ≤ 999) ∧ (0 ≤ r.lg ∧ r.lg ≤ 999) ∧ 0 ≤ r.lh ∧ r.lh ≤ 999
theorem Ok.nums {r : Rl} {w : World} (h : r.Ok w) : r.Nums := by
  have hvb := vm_bounds (checkE_ok h.hk)
  have hsp := h.hr.speed
  have hbase := h.hr.base
  have hhome := h.hr.homes
  have hn6 := h.hr.many
  have h5 := h.hr.wind
  have h6 := h.hr.sight
  have h7 := h.hr.heat
  have h8 := h.hr.hrs
  have h9 := h.hr.drk
  unfold spanB at hsp
  unfold isPlaceB isInB at hbase hhome
  unfold isInB at h5 h6 h7 h8 h9
  simp only [Bool.and_eq_true, decide_eq_true_eq] at hsp hbase hhome h5 h6 h7 h8 h9
  refine ⟨by omega, by omega, by omega, fun i hi => ?_, hn6, by omega, by omega, by omega, by omega⟩
  have := hhome i hi
  simp only [Rl.h, if_true, Nat.one_ne_zero, if_false] at this
  omega
theorem ns_eq (i : Nat) : r.ns i = stepsN r.bx r.bY (r.hx i) (r.hy i) + 1 := pbK_len _ _ _ _ _ _
theorem P_in {r : Rl} (h : r.Nums) {i k : Nat} (hi : i < r.n) (hk : k < r.ns i) : ((r.P i).getD k (0, 0)).1 < r.cols ∧ ((r.P i).getD k (0, 0)).2 < r.east.length := by
  have h1 := h.homes i hi
  have hPm := pbK_mem (fx := r.bx) (fy := r.bY) (tx := r.hx i) (ty := r.hy i) (n := stepsN r.bx r.bY (r.hx i) (r.hy i)) (k := stepsN r.bx r.bY (r.hx i) (r.hy i)) (cols := r.cols) (rows := r.east.length) (Nat.le_refl _) h.base.1 h.base.2 h1.1 h1.2
  refine hPm _ ?_
  have hk' : k < (r.P i).length := hk
  show (r.P i).getD k (0, 0) ∈ r.P i
  rw [show (r.P i).getD k (0, 0) = (r.P i)[k] by simp [hk']]
  exact List.getElem_mem hk'
theorem ns_le {r : Rl} (h : r.Nums) {i : Nat} (hi : i < r.n) : 1 ≤ r.ns i ∧ r.ns i ≤ 10 := by
  have h1 := h.homes i hi
  have h2 := h.base
  have h3 := h.cols
  have h4 := h.rows
  rw [ns_eq]
  unfold stepsN dst
  omega
theorem Ok.len {r : Rl} {w : World} (h : r.Ok w) {i k : Nat} (hi : i < r.n) (hk : k < r.ns i) : lenS r.north r.east (r.P i) k ≤ 100000000 := by
  have h1 := P_in h.nums hi hk
  have h2 := P_in h.nums (k := min (k + 1) ((r.P i).length - 1)) hi (by show _ < (r.P i).length; have : k < (r.P i).length := hk; omega)
  have := sq_bd (ax := ((r.P i).getD k (0, 0)).1) (bx := ((r.P i).getD (min (k + 1) ((r.P i).length - 1)) (0, 0)).1) (checkE_ok h.hk) h1.2 h2.2 (inB h1.1) (inB h2.1)
  exact rnd0_le _ (by omega)
theorem Ok.far {r : Rl} {w : World} (h : r.Ok w) {i : Nat} (hi : i < r.n) : ∀ k, k ≤ r.ns i → farL r.north r.east (r.P i) k ≤ k * 100000000 := by
  intro k
  induction k with
  | zero => intro _; simp [farL]
  | succ k ih =>
    intro hk
    have := ih (by omega)
    have := h.len hi (show k < r.ns i by omega)
    rw [farL_succ]
    omega
theorem Ok.st_le {r : Rl} {w : World} (h : r.Ok w) {i : Nat} (hi : i < r.n) (k : Nat) : r.st i k 0 ≤ 1000 ∧ r.st i k 1 ≤ 1000 ∧ r.st i k 2 ≤ 90000000000 ∧ r.st i k 3 ≤ 90000000000 := by
  by_cases hk : k < r.ns i
  · have a := h.len hi hk
    have b := h.far hi k (by omega)
    have c := Nat.div_le_self (farL r.north r.east (r.P i) k) r.sh
    have d := Nat.div_le_self (farL r.north r.east (r.P i) k + lenS r.north r.east (r.P i) k + r.sl - 1) r.sl
    have e := P_in h.nums hi hk
    have g := h.nums.cols
    have g2 := h.nums.rows
    have g3 := ns_le h.nums hi
    have g4 := h.nums.speed
    simp only [Rl.st, if_pos hk]
    unfold loT hiT
    omega
  · simp only [Rl.st, if_neg hk]
    omega
theorem L_get {r : Rl} {i k j : Nat} (hk : k < r.ns i) (hj : j < 4) : (r.L i)[k * 4 + j]? = some (.int .i64 (r.st i k j : Nat)) := by
  have hk' : k < (r.P i).length := hk
  unfold L stV
  rw [flat4_get _ _ _ _ _ k hk' j hj]
  simp only [Rl.st, if_pos hk]
  rcases j with _ | _ | _ | _ | j
  · rfl
  · rfl
  · rfl
  · rfl
  · omega
theorem way_row {r : Rl} {W : World} {b i : Nat} {s : Value} (h : W.ownsRow b 84 4 s (r.ns i) (r.L i)) (h1 : 1 ≤ r.ns i) : ∃ sa sc, s = .slice sa (r.ns i) sc ∧ RowAt W sa (r.ns i) 4 (fun k j => (r.st i k j : Nat)) := by
  obtain ⟨g, cap, cur, rfl, hb, hl, ht⟩ := own_some h h1
  refine ⟨some ⟨g, 0, none⟩, cap, rfl, .inr ⟨g, 0, rfl, hl, fun k hk j hj => ?_⟩⟩
  rw [Nat.zero_add]
  exact take_cell hb ht (by omega) (L_get hk hj)
theorem Fc.use {r : Rl} {W : World} {F i : Nat} (h : r.Fc W F) (hN : r.Nums) (hi : i < r.n) : ∃ m cnt gw wc sa sc, Blk W F 104 (r.cells ++ [Value.slice (some ⟨gw, 0, none⟩) r.n wc, Value.map (some m)]).toArray ∧ WMap W m cnt r.S ∧ gw < W.heap.size ∧ W.cell? ⟨gw, i, none⟩ = some (.slice sa (r.ns i) sc) ∧ RowAt W sa (r.ns i) 4 (fun k j => (r.st i k j : Nat)) := by
  obtain ⟨m, cnt, v, wl, B, h1, h2, h3, h4⟩ := h
  obtain ⟨b, hb⟩ := h4 i hi
  obtain ⟨sa, sc, e1, h5⟩ := way_row hb (ns_le hN hi).1
  have hlen := h3.1
  obtain ⟨gw, wc, cur, rfl, hbw, hlw, htw⟩ := own_some h3 (by omega)
  refine ⟨m, cnt, gw, wc, sa, sc, h1, h2, hlw, ?_, h5⟩
  refine take_cell hbw htw (by omega) ?_
  rw [← e1]
  have : i < wl.length := by omega
  simp [List.getD, this]
end Rl
theorem Fc_block {r : Rl} {W : World} {F home mi : Nat} (h : r.Fc W F) (hk : r.Ok W) (hh : home < r.n) (hmi : mi ≤ 1000000) : Calls Tryz.prog 58 #[.pointer (some ⟨F, 0, none⟩), .int .i64 (home : Nat), .int .i64 (mi : Nat)] W fun e w' =>
    e = .returned (.tuple #[.agg (blkV home (blkR r.S r.lim (r.st home) mi r.hours (r.ns home))), .bool (blkR r.S r.lim (r.st home) mi r.hours (r.ns home)).isSome]) ∧ G W w' := by
  obtain ⟨m, cnt, gw, wc, sa, sc, h1, h2, h3, h4, h5⟩ := h.use hk.nums hh
  have hs := hk.st_le hh
  have hn := Rl.ns_le hk.nums hh
  exact block_any m cnt F r.hours home (r.ns home) sc mi r.lw r.lg r.lh _ r.S (r.st home) gw 0 r.n wc sa W h1 rfl rfl rfl rfl rfl rfl h2 hh h3 (by simpa using h4) h5 hs (by omega) hmi
theorem Fc_safe {r : Rl} {W : World} {F home mi : Nat} (h : r.Fc W F) (hk : r.Ok W) (hh : home < r.n) (hmi : mi ≤ 1000000) : Calls Tryz.prog 56 #[.pointer (some ⟨F, 0, none⟩), .int .i64 (home : Nat), .int .i64 (mi : Nat)] W fun e w' =>
    e = .returned (.int .i64 (safeN r.S r.lim (r.st home) mi r.hours (r.ns home))) ∧ G W w' := by
  obtain ⟨m, cnt, gw, wc, sa, sc, h1, h2, h3, h4, h5⟩ := h.use hk.nums hh
  have hs := hk.st_le hh
  have hn := Rl.ns_le hk.nums hh
  exact safe_any m cnt F r.hours home (r.ns home) sc mi r.lw r.lg r.lh _ r.S (r.st home) gw 0 r.n wc sa W h1 rfl rfl rfl rfl rfl rfl h2 hh h3 (by simpa using h4) h5 hs (by omega) hmi
/-- what question leaves of a release whose parts are valid -/
def QP (r : Rl) (w : World) (e : Ending) (w' : World) : Prop :=
  (¬ r.good ∧ e = .returned (.tuple #[.pointer none, .int .i64 3]) ∧ G w w') ∨ (r.good ∧ ∃ F, e = .returned (.tuple #[.pointer (some ⟨F, 0, none⟩), .int .i64 0]) ∧ G w w' ∧ r.Fc w' F)
set_option maxRecDepth 100000 in
theorem rQuestion_ok {r : Rl} {w : World} (h : r.Ok w) : Calls Tryz.prog 48 #[.agg r.v, .bool true] w (QP r w) := by
  have hN := h.nums
  refine (question_walk r.north r.lofts r.wrong r.bx r.bY r.sl r.sh r.lw r.lg r.lh r.dark r.cols r.hours r.east.length r.ec r.svs.length r.sc r.n r.hc r.k r.fc r.ea r.sa r.ha r.fa r.f r.hx r.hy r.ns r.L w (fun W hW => ?_) (fun i hi W hW => ?_) h.hH h.hF h.hk12 hN.cols hN.rows hN.hours.2 hN.many (fun i hi => (Rl.ns_le hN hi).1)).mono fun e w' hq => ?_
  · have hk := h.keep hW
    exact relQuestion_ok r.north r.cols r.lofts r.wrong r.bx r.bY r.sl r.sh r.lw r.lg r.lh r.hours r.dark r.east r.svs r.n r.k r.h r.f r.ea r.sa r.ha r.fa r.ec r.sc r.hc r.fc W hk.he hk.hs hk.hk hk.hr hk.hH hk.hF hk.hk12 hk.hfo
  · have hk := h.keep hW
    have h1 := hN.homes i hi
    exact stopsTo_ok r.north r.wrong r.lw r.lg r.lh r.hours r.dark r.cols r.lofts r.bx r.bY (r.hx i) (r.hy i) r.sl r.sh r.east r.svs r.n r.k r.ea r.sa r.ha r.fa r.ec r.sc r.hc r.fc W hk.he hk.hs hk.hk hN.base.1 hN.base.2 h1.1 h1.2 ⟨hN.speed.1, hN.speed.2.1⟩ hN.speed.2.2
  · rcases hq with ⟨h1, h2, h3⟩ | ⟨h1, F, m, cnt, v, wl, B, h2, h3, h4, h5, h6, h7⟩
    · exact .inl ⟨h1, h2, h3⟩
    · exact .inr ⟨h1, F, h2, h3, ⟨m, cnt, v, wl, B, h4, h5, h6, h7⟩⟩
end Go.Proofs.YtcekdljjmfkacaaGreat
set_option linter.unusedSimpArgs false
set_option linter.unusedVariables false
namespace Go.Proofs.YtcekdljjmfkacaaGreat
open Go.RowKit Go.Shelf
attribute [local go_sem] Oper.semAt_some wide_fn wide_dep wideR_fn wideR_dep
/-- an error Z, or (at 0) a pointer of which FcP says something -/
def QR (w : World) (Z : Int) (FcP : World → Nat → Prop) (e : Ending) (w' : World) : Prop :=
  ∃ p, e = .returned (.tuple #[.pointer p, .int .i64 Z]) ∧ G w w' ∧ (Z = 0 → ∃ F, p = some ⟨F, 0, none⟩ ∧ FcP w' F)
/-- a value and no error, or another value and an error -/
def TwoPost (w : World) (Z : Int) (v v0 : Value) (e : Ending) (w' : World) : Prop := e = .returned (.tuple #[if Z = 0 then v else v0, .int .i64 Z]) ∧ G w w'
section
variable (hi mi Z sN : Int) (b1 b2 : Bool) (REL : Array Value) (FcP : World → Nat → Prop) (w : World)
set_option maxRecDepth 100000 in
set_option maxHeartbeats 4000000 in
theorem Safe_walk (hIs : IsRel REL) (hI : ∀ W, Calls Tryz.prog 39 #[.agg REL, .int .i64 hi] W fun e w' => e = .returned (.bool b1) ∧ G W w') (hM : ∀ W, Calls Tryz.prog 43 #[.int .i64 mi] W fun e w' => e = .returned (.bool b2) ∧ G W w')
    (hQ : ∀ W, G w W → Calls Tryz.prog 48 #[.agg REL, .bool (b1 && b2)] W (QR W Z FcP)) (hF : ∀ W F, G w W → FcP W F → Calls Tryz.prog 56 #[.pointer (some ⟨F, 0, none⟩), .int .i64 hi, .int .i64 mi] W fun e w' => e = .returned (.int .i64 sN) ∧ G W w') :
    Calls Tryz.prog 20 #[.agg REL, .int .i64 hi, .int .i64 mi] w (TwoPost w Z (.int .i64 sN) (.int .i64 0)) := by
  have HOK : Hid (∀ w', Z = 0 → G w w' → TwoPost w Z (.int .i64 sN) (.int .i64 0) (.returned (.tuple #[.int .i64 sN, .int .i64 0])) w') := fun w' h a => ⟨by rw [if_pos h, h], a⟩
  have HER : Hid (∀ w', Z ≠ 0 → G w w' → TwoPost w Z (.int .i64 sN) (.int .i64 0) (.returned (.tuple #[.int .i64 0, .int .i64 Z])) w') := fun w' h a => ⟨by rw [if_neg h], a⟩
  generalize TwoPost w Z (.int .i64 sN) (.int .i64 0) = PP at *
  have HIS := Lib.hid hIs
  have HI := Lib.hid hI
  have HM := Lib.hid hM
  have HQ := Lib.hid hQ
  have HF := Lib.hid hF
  clear hI hM hQ hF hIs
  have g0 : G w (w.alloc (.cells REL 35)) := (G.rf _).a _
  have b0 : Blk (w.alloc (.cells REL 35)) w.heap.size 35 REL := Blk.new w 35 REL
  go_enter Tryz.func20, Tryz.ntmps20
  go_upto_region 1 with fail
  change Code.wp _ _ _ _ (w.alloc (.cells REL 35))
  generalize w.alloc (.cells REL 35) = w1 at *
  refine wp_region_Y (S := fun W' => Blk W' w.heap.size 35 REL) 13 14 rfl (by kernel_rfl) (b0.keep (G.rf _).d) (fun hS => ?_)
  have ga := (G.rf w1).d
  refine wpAnyY_take (i := 0) (v := .agg REL) rfl (by kernel_rfl) (by kernel_rfl) (by kernel_rfl) (by kernel_rfl) (fun _ _ _ h => h) (Or.inl ⟨by kernel_rfl, ?_⟩) hS ?_
  · intro w' hSw; exact load46o w' w.heap.size 3 HIS.out _ _ rfl (by kernel_rfl) hSw
  try simp only [Act.put, List.getElem_toArray, List.getElem_cons_zero, List.getElem_cons_succ, List.setIfInBounds_toArray, List.set_cons_zero, List.set_cons_succ]
  refine wpAnyY_take (i := 1) (v := .agg REL) rfl (by kernel_rfl) (by kernel_rfl) (by kernel_rfl) (by kernel_rfl) (fun _ _ _ h => h) (Or.inl ⟨by kernel_rfl, ?_⟩) hS ?_
  · intro w' hSw; exact load46o w' w.heap.size 3 HIS.out _ _ rfl (by kernel_rfl) hSw
  try simp only [Act.put, List.getElem_toArray, List.getElem_cons_zero, List.getElem_cons_succ, List.setIfInBounds_toArray, List.set_cons_zero, List.set_cons_succ]
  refine wpAnyY_take (i := 2) (v := ?_) rfl (by kernel_rfl) (by kernel_rfl) (by kernel_rfl) (by kernel_rfl) (fun _ _ _ h => h) (Or.inl ⟨by kernel_rfl, ?_⟩) hS ?_
  rotate_left
  · intro w' hSw; go_simp; with_reducible rfl
  try simp only [Act.put, List.getElem_toArray, List.getElem_cons_zero, List.getElem_cons_succ, List.setIfInBounds_toArray, List.set_cons_zero, List.set_cons_succ]
  refine wpAnyY_oneSW (i := 3) (by kernel_rfl) rfl (by kernel_rfl) (fun K3 hK3 => ?_)
  go_simp
  refine (HI.out _).mono ?_
  rintro e w2 ⟨rfl, hG3⟩
  replace ga := ga.t hG3
  refine hK3.out _ _ (b0.keep ga) (fun hS => ?_)
  try simp only [Act.put, List.getElem_toArray, List.getElem_cons_zero, List.getElem_cons_succ, List.setIfInBounds_toArray, List.set_cons_zero, List.set_cons_succ]
  refine wpAnyY_take (i := 4) (v := ?_) rfl (by kernel_rfl) (by kernel_rfl) (by kernel_rfl) (by kernel_rfl) (fun _ _ _ h => h) (Or.inl ⟨by kernel_rfl, ?_⟩) hS ?_
  rotate_left
  · intro w' hSw; go_simp; with_reducible rfl
  try simp only [Act.put, List.getElem_toArray, List.getElem_cons_zero, List.getElem_cons_succ, List.setIfInBounds_toArray, List.set_cons_zero, List.set_cons_succ]
  cases b1
  ·
    refine wpAnyY_take (i := 5) (v := undef) rfl (by kernel_rfl) (by kernel_rfl) (by kernel_rfl) (by kernel_rfl) (fun _ _ _ h => h) (Or.inr ⟨by kernel_rfl, rfl⟩) hS ?_
    try simp only [Act.put, List.getElem_toArray, List.getElem_cons_zero, List.getElem_cons_succ, List.setIfInBounds_toArray, List.set_cons_zero, List.set_cons_succ]
    refine wpAnyY_take (i := 6) (v := undef) rfl (by kernel_rfl) (by kernel_rfl) (by kernel_rfl) (by kernel_rfl) (fun _ _ _ h => h) (Or.inr ⟨by kernel_rfl, rfl⟩) hS ?_
    try simp only [Act.put, List.getElem_toArray, List.getElem_cons_zero, List.getElem_cons_succ, List.setIfInBounds_toArray, List.set_cons_zero, List.set_cons_succ]
    refine wpAnyY_take (i := 7) (v := ?_) rfl (by kernel_rfl) (by kernel_rfl) (by kernel_rfl) (by kernel_rfl) (fun _ _ _ h => h) (Or.inl ⟨by kernel_rfl, ?_⟩) hS ?_
    rotate_left
    · intro w' hSw; go_simp; with_reducible rfl
    try simp only [Act.put, List.getElem_toArray, List.getElem_cons_zero, List.getElem_cons_succ, List.setIfInBounds_toArray, List.set_cons_zero, List.set_cons_succ]
    refine wpAnyY_oneSW (i := 8) (by kernel_rfl) rfl (by kernel_rfl) (fun K8 hK8 => ?_)
    go_simp
    refine (HQ.out _ (g0.t ga)).mono ?_
    rintro e w4 ⟨p, rfl, hG8, hZ⟩
    replace ga := ga.t hG8
    refine hK8.out _ _ (b0.keep ga) (fun hS => ?_)
    try simp only [Act.put, List.getElem_toArray, List.getElem_cons_zero, List.getElem_cons_succ, List.setIfInBounds_toArray, List.set_cons_zero, List.set_cons_succ]
    refine wpAnyY_take (i := 9) (v := ?_) rfl (by kernel_rfl) (by kernel_rfl) (by kernel_rfl) (by kernel_rfl) (fun _ _ _ h => h) (Or.inl ⟨by kernel_rfl, ?_⟩) hS ?_
    rotate_left
    · intro w' hSw; go_simp; with_reducible rfl
    try simp only [Act.put, List.getElem_toArray, List.getElem_cons_zero, List.getElem_cons_succ, List.setIfInBounds_toArray, List.set_cons_zero, List.set_cons_succ]
    refine wpAnyY_take (i := 10) (v := ?_) rfl (by kernel_rfl) (by kernel_rfl) (by kernel_rfl) (by kernel_rfl) (fun _ _ _ h => h) (Or.inl ⟨by kernel_rfl, ?_⟩) hS ?_
    rotate_left
    · intro w' hSw; go_simp; with_reducible rfl
    try simp only [Act.put, List.getElem_toArray, List.getElem_cons_zero, List.getElem_cons_succ, List.setIfInBounds_toArray, List.set_cons_zero, List.set_cons_succ]
    refine wpAnyY_take (i := 11) (v := ?_) rfl (by kernel_rfl) (by kernel_rfl) (by kernel_rfl) (by kernel_rfl) (fun _ _ _ h => h) (Or.inl ⟨by kernel_rfl, ?_⟩) hS ?_
    rotate_left
    · intro w' hSw; go_simp; with_reducible rfl
    try simp only [Act.put, List.getElem_toArray, List.getElem_cons_zero, List.getElem_cons_succ, List.setIfInBounds_toArray, List.set_cons_zero, List.set_cons_succ]
    refine wpAnyY_oneSW (i := 12) (by kernel_rfl) rfl (by kernel_rfl) (fun K12 hK12 => ?_)
    go_simp
    refine hK12.out _ _ (b0.keep ga) (fun hS => ?_)
    try simp only [Act.put, List.getElem_toArray, List.getElem_cons_zero, List.getElem_cons_succ, List.setIfInBounds_toArray, List.set_cons_zero, List.set_cons_succ]
    refine wpAnyY_oneW (i := 13) (by kernel_rfl) rfl (by kernel_rfl) (by kernel_rfl) (fun K13 hK13 => ?_)
    go_simp
    refine hK13.out _ _ ?_
    try simp only [Act.put, List.getElem_toArray, List.getElem_cons_zero, List.getElem_cons_succ, List.setIfInBounds_toArray, List.set_cons_zero, List.set_cons_succ]
    refine wpAnyY_done (by kernel_rfl) ?_ _
    have gz := g0.t ga
    clear b0 hS HI HM HQ HIS
    by_cases hz : Z = 0
    · obtain ⟨F, rfl, hfc⟩ := hZ hz
      subst hz
      have HFz := Lib.hid (HF.out _ F gz hfc)
      clear HF hfc hZ
      have HO := Lib.hid (fun w' h => HOK.out w' rfl h)
      clear HOK HER
      go_wp2_with (go_at_call 56; refine (HFz.out).mono ?_; rintro e w5 ⟨rfl, hG5⟩)
      exact HO.out _ (gz.t hG5)
    · have hz1 : (Z == 0) = false := by simpa using hz
      have HE := Lib.hid (HER.out _ hz gz)
      clear HOK HER HF hZ
      go_wp2
      exact HE.out
  ·
    refine wpAnyY_take (i := 5) (v := ?_) rfl (by kernel_rfl) (by kernel_rfl) (by kernel_rfl) (by kernel_rfl) (fun _ _ _ h => h) (Or.inl ⟨by kernel_rfl, ?_⟩) hS ?_
    rotate_left
    · intro w' hSw; go_simp; with_reducible rfl
    try simp only [Act.put, List.getElem_toArray, List.getElem_cons_zero, List.getElem_cons_succ, List.setIfInBounds_toArray, List.set_cons_zero, List.set_cons_succ]
    refine wpAnyY_oneSW (i := 6) (by kernel_rfl) rfl (by kernel_rfl) (fun K6 hK6 => ?_)
    go_simp
    refine (HM.out _).mono ?_
    rintro e w3 ⟨rfl, hG6⟩
    replace ga := ga.t hG6
    refine hK6.out _ _ (b0.keep ga) (fun hS => ?_)
    try simp only [Act.put, List.getElem_toArray, List.getElem_cons_zero, List.getElem_cons_succ, List.setIfInBounds_toArray, List.set_cons_zero, List.set_cons_succ]
    refine wpAnyY_take (i := 7) (v := ?_) rfl (by kernel_rfl) (by kernel_rfl) (by kernel_rfl) (by kernel_rfl) (fun _ _ _ h => h) (Or.inl ⟨by kernel_rfl, ?_⟩) hS ?_
    rotate_left
    · intro w' hSw; go_simp; with_reducible rfl
    try simp only [Act.put, List.getElem_toArray, List.getElem_cons_zero, List.getElem_cons_succ, List.setIfInBounds_toArray, List.set_cons_zero, List.set_cons_succ]
    refine wpAnyY_oneSW (i := 8) (by kernel_rfl) rfl (by kernel_rfl) (fun K8 hK8 => ?_)
    go_simp
    refine (HQ.out _ (g0.t ga)).mono ?_
    rintro e w4 ⟨p, rfl, hG8, hZ⟩
    replace ga := ga.t hG8
    refine hK8.out _ _ (b0.keep ga) (fun hS => ?_)
    try simp only [Act.put, List.getElem_toArray, List.getElem_cons_zero, List.getElem_cons_succ, List.setIfInBounds_toArray, List.set_cons_zero, List.set_cons_succ]
    refine wpAnyY_take (i := 9) (v := ?_) rfl (by kernel_rfl) (by kernel_rfl) (by kernel_rfl) (by kernel_rfl) (fun _ _ _ h => h) (Or.inl ⟨by kernel_rfl, ?_⟩) hS ?_
    rotate_left
    · intro w' hSw; go_simp; with_reducible rfl
    try simp only [Act.put, List.getElem_toArray, List.getElem_cons_zero, List.getElem_cons_succ, List.setIfInBounds_toArray, List.set_cons_zero, List.set_cons_succ]
    refine wpAnyY_take (i := 10) (v := ?_) rfl (by kernel_rfl) (by kernel_rfl) (by kernel_rfl) (by kernel_rfl) (fun _ _ _ h => h) (Or.inl ⟨by kernel_rfl, ?_⟩) hS ?_
    rotate_left
    · intro w' hSw; go_simp; with_reducible rfl
    try simp only [Act.put, List.getElem_toArray, List.getElem_cons_zero, List.getElem_cons_succ, List.setIfInBounds_toArray, List.set_cons_zero, List.set_cons_succ]
    refine wpAnyY_take (i := 11) (v := ?_) rfl (by kernel_rfl) (by kernel_rfl) (by kernel_rfl) (by kernel_rfl) (fun _ _ _ h => h) (Or.inl ⟨by kernel_rfl, ?_⟩) hS ?_
    rotate_left
    · intro w' hSw; go_simp; with_reducible rfl
    try simp only [Act.put, List.getElem_toArray, List.getElem_cons_zero, List.getElem_cons_succ, List.setIfInBounds_toArray, List.set_cons_zero, List.set_cons_succ]
    refine wpAnyY_oneSW (i := 12) (by kernel_rfl) rfl (by kernel_rfl) (fun K12 hK12 => ?_)
    go_simp
    refine hK12.out _ _ (b0.keep ga) (fun hS => ?_)
    try simp only [Act.put, List.getElem_toArray, List.getElem_cons_zero, List.getElem_cons_succ, List.setIfInBounds_toArray, List.set_cons_zero, List.set_cons_succ]
    refine wpAnyY_oneW (i := 13) (by kernel_rfl) rfl (by kernel_rfl) (by kernel_rfl) (fun K13 hK13 => ?_)
    go_simp
    refine hK13.out _ _ ?_
    try simp only [Act.put, List.getElem_toArray, List.getElem_cons_zero, List.getElem_cons_succ, List.setIfInBounds_toArray, List.set_cons_zero, List.set_cons_succ]
    refine wpAnyY_done (by kernel_rfl) ?_ _
    have gz := g0.t ga
    clear b0 hS HI HM HQ HIS
    by_cases hz : Z = 0
    · obtain ⟨F, rfl, hfc⟩ := hZ hz
      subst hz
      have HFz := Lib.hid (HF.out _ F gz hfc)
      clear HF hfc hZ
      have HO := Lib.hid (fun w' h => HOK.out w' rfl h)
      clear HOK HER
      go_wp2_with (go_at_call 56; refine (HFz.out).mono ?_; rintro e w5 ⟨rfl, hG5⟩)
      exact HO.out _ (gz.t hG5)
    · have hz1 : (Z == 0) = false := by simpa using hz
      have HE := Lib.hid (HER.out _ hz gz)
      clear HOK HER HF hZ
      go_wp2
      exact HE.out
end
end Go.Proofs.YtcekdljjmfkacaaGreat
