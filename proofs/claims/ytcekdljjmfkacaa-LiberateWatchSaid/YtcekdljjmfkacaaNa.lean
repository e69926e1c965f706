import Derived.Test.YtcekdljjmfkacaaLx
set_option linter.unusedSimpArgs false
set_option linter.unusedVariables false
namespace Go.Proofs.Ytcekdljjmfkacaa
open Go.RowKit
attribute [local go_sem] Oper.semAt_some

/-- what is known of the weather: the winds, the sights, the heats from and to -/
structure Sk where
  wl : Int
  wh : Int
  sl : Int
  sh : Int
  hl : Int
  hh : Int
def Sk.v (s : Sk) : Array Value := #[.int .i64 s.wl, .int .i64 s.wh, .int .i64 s.sl, .int .i64 s.sh, .int .i64 s.hl, .int .i64 s.hh]
def Sk.both (a b : Sk) : Sk := ⟨max a.wl b.wl, min a.wh b.wh, max a.sl b.sl, min a.sh b.sh, max a.hl b.hl, min a.hh b.hh⟩
def skAny : Sk := ⟨0, 999, 0, 999, 0, 999⟩
def skNone (s : Sk) : Bool := decide (s.wh < s.wl) || (decide (s.sh < s.sl) || decide (s.hh < s.hl))
def skLim (lw lg lh : Int) : Sk := ⟨0, lw, lg, 999, 0, lh⟩
def skEq (a b : Sk) : Bool := (a.wl == b.wl && a.wh == b.wh) && ((a.sl == b.sl && a.sh == b.sh) && (a.hl == b.hl && a.hh == b.hh))
def skIn (s l : Sk) : Bool := skEq (s.both l) s
def skOut (s l : Sk) : Bool := skNone (s.both l)

theorem max2 (a b : Int) (w : World) : (Builtin.max_ #[3, 3] 3 #[.int .i64 a, .int .i64 b]).run Try.prog w = .ok (.int .i64 (max a b)) w := by
  simp only [Builtin.max_, List.foldlM]
  simp [go_sem, Builtin.max2]
  split <;> omega
theorem min2 (a b : Int) (w : World) : (Builtin.min_ #[3, 3] 3 #[.int .i64 a, .int .i64 b]).run Try.prog w = .ok (.int .i64 (min a b)) w := by
  simp only [Builtin.min_, List.foldlM]
  simp [go_sem, Builtin.min2]
  split <;> omega
theorem resSpan (f : Func) (t : Nat) (tmps : Array Value) (w : World) (g : Nat) (x y : Int) (hr : f.results = #[.cell t 30]) (h : tmps.getD t undef = .pointer (some ⟨g, 0, none⟩)) (c0 : w.cell? ⟨g, 0, none⟩ = some (.int .i64 x)) (c1 : w.cell? ⟨g, 1, none⟩ = some (.int .i64 y)) :
    (results f tmps).run Try.prog w = .ok (.agg #[.int .i64 x, .int .i64 y]) w := by
  have h' : tmps[t]?.getD undef = .pointer (some ⟨g, 0, none⟩) := by simpa using h
  simp only [results, hr]
  go_simp
theorem resSky (f : Func) (t : Nat) (tmps : Array Value) (w : World) (g : Nat) (s : Sk) (hr : f.results = #[.cell t 102]) (h : tmps.getD t undef = .pointer (some ⟨g, 0, none⟩)) (hB : Blk w g 102 s.v) :
    (results f tmps).run Try.prog w = .ok (.agg s.v) w := by
  have h' : tmps[t]?.getD undef = .pointer (some ⟨g, 0, none⟩) := by simpa using h
  have c0 : w.cell? ⟨g, 0, none⟩ = some (.int .i64 s.wl) := hB.cell 0
  have c1 : w.cell? ⟨g, 1, none⟩ = some (.int .i64 s.wh) := hB.cell 1
  have c2 : w.cell? ⟨g, 2, none⟩ = some (.int .i64 s.sl) := hB.cell 2
  have c3 : w.cell? ⟨g, 3, none⟩ = some (.int .i64 s.sh) := hB.cell 3
  have c4 : w.cell? ⟨g, 4, none⟩ = some (.int .i64 s.hl) := hB.cell 4
  have c5 : w.cell? ⟨g, 5, none⟩ = some (.int .i64 s.hh) := hB.cell 5
  clear hB
  simp only [results, hr]
  go_simp
  rfl
theorem w3_spec6 (w : World) (c0 c1 c2 : Array Value) (t0 t1 t2 : TypeId) : G w (((w.alloc (.cells c0 t0)).alloc (.cells c1 t1)).alloc (.cells c2 t2)) ∧ Blk (((w.alloc (.cells c0 t0)).alloc (.cells c1 t1)).alloc (.cells c2 t2)) w.heap.size t0 c0 ∧ Blk (((w.alloc (.cells c0 t0)).alloc (.cells c1 t1)).alloc (.cells c2 t2)) (w.heap.size + 1) t1 c1 ∧ Blk (((w.alloc (.cells c0 t0)).alloc (.cells c1 t1)).alloc (.cells c2 t2)) (w.heap.size + 1 + 1) t2 c2 :=
  ⟨(((G.rf _).a _).a _).a _, ((Blk.new w t0 c0).alloc _).alloc _, (Blk.new1 w _ t1 c1).alloc _, Blk.new2 w _ _ t2 c2⟩
theorem both_any (a b c d : Int) (w : World) : Calls Try.prog 116 #[.agg #[.int .i64 a, .int .i64 b], .agg #[.int .i64 c, .int .i64 d]] w fun e w' => e = .returned (.agg #[.int .i64 (max a c), .int .i64 (min b d)]) ∧ G w w' := by
  have hmx := fun W => max2 a c W
  have hmn := fun W => min2 b d W
  go_enter Try.func116, Try.ntmps116
  go_wp2
  have b2 : Blk (((w.alloc (.cells #[.int .i64 a, .int .i64 b] 30)).alloc (.cells #[.int .i64 c, .int .i64 d] 30)).alloc (.cells #[.int .i64 (max a c), .int .i64 (min b d)] 30)) (w.heap.size + 1 + 1) 30 #[.int .i64 (max a c), .int .i64 (min b d)] := (w3_spec6 w _ _ _ _ _ _).2.2.2
  exact bodyPost_ret (resSpan Try.f116 4 _ _ (w.heap.size + 1 + 1) _ _ rfl rfl (b2.cell 0) (b2.cell 1)) rfl ⟨rfl, (((G.rf _).a _).a _).a _⟩
theorem isNone_any (a b : Int) (w : World) : Calls Try.prog 114 #[.agg #[.int .i64 a, .int .i64 b]] w fun e w' => e = .returned (.bool (decide (b < a))) ∧ G w w' := by
  go_enter Try.func114, Try.ntmps114
  go_wp2
  go_ret
  exact ⟨by simp, (G.rf _).a _⟩
theorem anySky_any (w : World) : Calls Try.prog 75 #[] w fun e w' => e = .returned (.agg skAny.v) ∧ G w w' := by
  go_enter Try.func75, Try.ntmps75
  go_wp2
  exact bodyPost_ret (resSky Try.f75 0 _ _ w.heap.size skAny rfl rfl (Blk.new w 102 skAny.v)) rfl ⟨rfl, (G.rf _).a _⟩
theorem skyOf_any (s : Sk) (w : World) : Calls Try.prog 113 #[.agg s.v] w fun e w' => e = .returned (.agg s.v) ∧ G w w' := by
  obtain ⟨wl, wh, sl, sh, hl, hh⟩ := s
  go_enter Try.func113, Try.ntmps113
  simp only [Sk.v]
  go_wp2
  exact bodyPost_ret (resSky Try.f113 2 _ _ (w.heap.size + 1) ⟨wl, wh, sl, sh, hl, hh⟩ rfl rfl (Blk.new1 w _ 102 _)) rfl ⟨rfl, ((G.rf _).a _).a _⟩
theorem limitsOf_any (lw lg lh : Int) (w : World) : Calls Try.prog 78 #[.agg #[.int .i64 lw, .int .i64 lg, .int .i64 lh]] w fun e w' => e = .returned (.agg (skLim lw lg lh).v) ∧ G w w' := by
  go_enter Try.func78, Try.ntmps78
  go_wp2
  exact bodyPost_ret (resSky Try.f78 2 _ _ (w.heap.size + 1) (skLim lw lg lh) rfl rfl (Blk.new1 w _ 102 _)) rfl ⟨rfl, ((G.rf _).a _).a _⟩
end Go.Proofs.Ytcekdljjmfkacaa
