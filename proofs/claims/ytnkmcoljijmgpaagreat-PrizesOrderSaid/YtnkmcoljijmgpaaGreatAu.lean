import Derived.Test.YtnkmcoljijmgpaaGreatAt
set_option linter.unusedSimpArgs false
set_option linter.unusedVariables false
namespace Go.Proofs.YtnkmcoljijmgpaaGreat
open Go.RowKit Go.Shelf Go.Sort
attribute [local go_sem] Oper.semAt_some
theorem uniq_of {r : Ra} (h : racersB r = true) : r.racers.length ≤ 12 ∧ Uniq r.racers := by
  unfold racersB at h
  simp only [Bool.and_eq_true, decide_eq_true_eq] at h
  refine ⟨h.1, ?_⟩
  unfold Uniq
  rw [List.pairwise_iff_getElem]
  intro i j hi hj hij
  have h2 := allU_iff.1 h.2 j hj
  simp only [Bool.and_eq_true, Bool.not_eq_true'] at h2
  intro e
  have h3 : hasB (r.racers.take j) (r.racers.getD j default).bird = true := by
    unfold hasB
    refine anyU_yes (i := i) (by rw [List.length_take]; omega) ?_
    simp [List.getD_eq_getElem?_getD, List.getElem?_take_of_lt hij, hi, hj, e]
  rw [h3] at h2
  cases h2.1
theorem race_parts {r : Ra} (h : raceB r = true) : racersB r = true := by
  unfold raceB at h
  simp only [Bool.and_eq_true] at h
  exact h.2.2.1
/-- the error of a question about a pool and some birds -/
def qE (r : Ra) (p : Int) (bs : List Int) : Int := if raceB r = true then (if isInB p 0 ((r.pools.length : Int) - 1) = true then (if allU (fun i => hasB (runners r p) (bs.getD i 0)) bs.length = true then 0 else 1) else 1) else 80
def fuOf (r : Ra) (p : Int) (fa : Option Addr) (fc : Nat) : Fu := ⟨poolAt r p, fa, fc, runners r p, r.ta, r.tc, r.protests⟩
def fu0 : Array Value := #[.int .i64 0, .int .i64 0, .int .i64 0, .slice none 0 0, .int .i64 0, .bool false, .slice none 0 0, .slice none 0 0]
def QPost (r : Ra) (p : Int) (bs : List Int) (w : World) (e : Ending) (w' : World) : Prop := G w w' ∧ ((qE r p bs ≠ 0 ∧ e = .returned (.tuple #[.agg fu0, .int .i64 (qE r p bs)])) ∨ (qE r p bs = 0 ∧ ∃ fa fc, e = .returned (.tuple #[.agg (fuOf r p fa fc).v, .int .i64 0]) ∧ w'.ownsRow w.heap.size 60 5 (.slice fa (runners r p).length fc) (runners r p).length (rcV (runners r p))))
theorem has72 (l : List Rc) (a : Option Addr) (cap : Nat) (b : Int) (K : Nat) (fv : Array Value) (W : World) (hB : Blk W K 85 fv) (h6 : fv[6]? = some (.slice a l.length cap)) (h : RowE Rc.v 5 W a l) (hl : l.length ≤ 1000) : Calls Tryz.prog 72 #[.int .i64 b, .pointer (some ⟨K, 0, none⟩)] W fun e w' => e = .returned (.bool (hasB l b)) ∧ G W w' := by
  have HH := Lib.hid (has_any l a cap b W h hl)
  have m6 := (hB.cell 6).trans h6
  have lB := hB.lt
  clear h hB h6
  go_enter Tryz.func72, Tryz.ntmps72
  go_wp2_with (go_at_call 73; refine (HH.out).mono ?_; rintro e w1 ⟨rfl, hG1⟩)
  first | (go_ret; exact ⟨rfl, hG1⟩) | exact ⟨rfl, hG1⟩
set_option maxRecDepth 100000 in
set_option maxHeartbeats 4000000 in
theorem res46 (tmps : Array Value) (w : World) (g : Nat) (n : Int) {REL : Array Value} (hR : IsFu REL) (h : tmps.getD 6 undef = .pointer (some ⟨g, 0, none⟩)) (h7 : tmps.getD 7 undef = .int .i64 n) (hB : Blk w g 85 REL) :
    (results Tryz.f46 tmps).run Tryz.prog w = .ok (.tuple #[.agg REL, .int .i64 n]) w := by
  obtain ⟨x0, x1, x2, x3, xl, xc, x4, x5, x6, xm, xd, x7, xn, xe, rfl⟩ := hR
  have c0 := hB.cell 0
  have c1 := hB.cell 1
  have c2 := hB.cell 2
  have c3 := hB.cell 3
  have c4 := hB.cell 4
  have c5 := hB.cell 5
  have c6 := hB.cell 6
  have c7 := hB.cell 7
  clear hB
  have hr : Tryz.f46.results = #[.cell 6 85, .tmp 7] := rfl
  have h' : tmps[6]?.getD undef = .pointer (some ⟨g, 0, none⟩) := by simpa using h
  have h7' : tmps[7]?.getD undef = .int .i64 n := by simpa using h7
  simp only [results, hr]
  go_simp
end Go.Proofs.YtnkmcoljijmgpaaGreat
