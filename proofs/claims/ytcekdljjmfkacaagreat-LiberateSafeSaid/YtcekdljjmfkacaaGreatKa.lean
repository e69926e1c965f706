import Derived.WalkKit
import Derived.Below
import Derived.BigQuiet
import Derived.Deep.QuietTactic
import Derived.Lib.Hide
import Derived.WalkSpells
import Derived.Outline
import Derived.Test.YtcekdljjmfkacaaGreatProg
import Derived.Laws.OwnMore
import Derived.Laws.Rows
import Derived.Deep.Draws
import Derived.Laws.StructEq
import Derived.IntWalk
import Derived.Shelf.SlSorted.Search
import Derived.Ground.SlsoProg
set_option linter.unusedSimpArgs false
set_option linter.unusedVariables false
namespace Go.Proofs.YtcekdljjmfkacaaGreat
open Go.RowKit

theorem bcell {W w1 : World} (hb : Below W.heap.size W w1) : (∀ b o, b < W.heap.size → w1.cell? ⟨b, o, none⟩ = W.cell? ⟨b, o, none⟩) ∧ (∀ b o, b < W.heap.size → w1.frozen? ⟨b, o, none⟩ = W.frozen? ⟨b, o, none⟩) :=
  ⟨fun b o h => hb.cell (p := ⟨b, o, none⟩) h, fun b o h => hb.frozen (p := ⟨b, o, none⟩) h⟩

def isInB (n lo hi : Int) : Bool := decide (lo ≤ n) && decide (n ≤ hi)
def isScaleB (n : Int) : Bool := isInB n 1 2000000

theorem isIn_any (n lo hi : Int) (w : World) : Calls Tryz.prog 112 #[.int .i64 n, .agg #[.int .i64 lo, .int .i64 hi]] w fun e w' =>
    e = .returned (.bool (isInB n lo hi)) ∧ Below w.heap.size w w' := by
  by_cases h1 : lo ≤ n
  · go_enter Tryz.func112, Tryz.ntmps112
    go_wp2
    go_ret
    exact ⟨by simp [isInB, h1], (Below.refl _ _).alloc (Nat.le_refl _) _⟩
  · go_enter Tryz.func112, Tryz.ntmps112
    go_wp2
    go_ret
    exact ⟨by unfold isInB; rw [decide_eq_false (by omega)]; rfl, (Below.refl _ _).alloc (Nat.le_refl _) _⟩

theorem isScale_any (n : Int) (w : World) : Calls Tryz.prog 111 #[.int .i64 n] w fun e w' =>
    e = .returned (.bool (isScaleB n)) ∧ Below w.heap.size w w' := by
  go_enter Tryz.func111, Tryz.ntmps111
  go_wp2_with (go_at_call 112; refine (isIn_any _ _ _ _).mono ?_; rintro e w' ⟨rfl, hb⟩)
  go_ret
  exact ⟨rfl, hb⟩

def IntsAt (w : World) (a : Option Addr) (l : List Int) : Prop := l = [] ∨ ∃ b off, a = some ⟨b, off, none⟩ ∧ b < w.heap.size ∧ ∀ k, k < l.length → w.cell? ⟨b, off + k, none⟩ = some (.int .i64 (l.getD k 0))

theorem bcellB {B : Nat} {W w1 : World} (hb : Below B W w1) : (∀ b o, b < B → w1.cell? ⟨b, o, none⟩ = W.cell? ⟨b, o, none⟩) ∧ (∀ b o, b < B → w1.frozen? ⟨b, o, none⟩ = W.frozen? ⟨b, o, none⟩) :=
  ⟨fun b o h => hb.cell (p := ⟨b, o, none⟩) h, fun b o h => hb.frozen (p := ⟨b, o, none⟩) h⟩

theorem IntsAt.below {w w' : World} {a : Option Addr} {l : List Int} (h : IntsAt w a l) (hb : Below w.heap.size w w') : IntsAt w' a l := by
  rcases h with rfl | ⟨b, off, rfl, hlt, hc⟩
  · exact .inl rfl
  · exact .inr ⟨b, off, rfl, Nat.lt_of_lt_of_le hlt hb.size, fun k hk => (hb.cell (p := ⟨b, off + k, none⟩) hlt).trans (hc k hk)⟩

def validMapB (north cols : Int) (east : List Int) (lofts wrong : Int) : Bool :=
  east.all isScaleB && (isInB east.length 1 10 && (isInB cols 1 10 && (isScaleB north && (isInB lofts 1 8 && isInB wrong 0 3))))

theorem all_take_succ (p : Int → Bool) (l : List Int) (k : Nat) (h : k < l.length) : (l.take (k + 1)).all p = ((l.take k).all p && p (l.getD k 0)) := by
  rw [List.take_succ_eq_append_getElem h, List.all_append]
  simp [h]
theorem all_false (p : Int → Bool) (l : List Int) (k : Nat) (h : k < l.length) (hp : p (l.getD k 0) = false) : l.all p = false := by
  rw [List.all_eq_false]
  refine ⟨l[k], List.getElem_mem h, ?_⟩
  simp [h] at hp
  simp [hp]


abbrev G (w w' : World) : Prop := Below w.heap.size w w'
theorem G.rf (w : World) : G w w := Below.refl _ _
theorem G.t {a b c : World} (h : G a b) (k : G b c) : G a c := h.trans (k.mono h.size)
theorem G.a {a b : World} (h : G a b) (o : Obj) : G a (b.alloc o) := Below.alloc h h.size o
theorem G.d {a b : World} (h : G a b) : G a b.drew := ⟨h.os, h.tape, h.output, h.size, h.block⟩
theorem G.dn {a b : World} (h : G a b) (n : Nat) : G a (b.drewN n) := ⟨h.os, h.tape, h.output, h.size, h.block⟩
theorem G.s {a b : World} (h : G a b) {p : Addr} (hp : a.heap.size ≤ p.block) (v : Value) : G a (b.setCell p v) := Below.setCell h hp v

theorem and5 (a b c d e : Bool) : a = false ∨ (a = true ∧ b = false) ∨ (a = true ∧ b = true ∧ c = false) ∨ (a = true ∧ b = true ∧ c = true ∧ d = false) ∨ (a = true ∧ b = true ∧ c = true ∧ d = true) := by
  cases a <;> cases b <;> cases c <;> cases d <;> simp

set_option maxHeartbeats 1000000 in
theorem validMap_any (north cols lofts wrong : Int) (east : List Int) (ea sa : Option Addr) (ec sl sc : Nat) (w : World) (he : IntsAt w ea east) (hl : east.length ≤ 9223372036854775807) :
    Calls Tryz.prog 96 #[.agg #[.int .i64 north, .int .i64 cols, .slice ea east.length ec, .int .i64 lofts, .slice sa sl sc, .int .i64 wrong]] w fun e w' =>
    e = .returned (.bool (validMapB north cols east lofts wrong)) ∧ G w w' := by
  go_enter Tryz.func96, Tryz.ntmps96
  go_wp2
  obtain ⟨W0, hW0⟩ : ∃ W0, (w.alloc (.cells #[.int .i64 north, .int .i64 cols, .slice ea east.length ec, .int .i64 lofts, .slice sa sl sc, .int .i64 wrong] 25)) = W0 := ⟨_, rfl⟩
  have hB0 : G w W0 := by rw [← hW0]; exact (G.rf _).a _
  have hsz : W0.heap.size = w.heap.size + 1 := by rw [← hW0]; simp
  have m0 : W0.cell? ⟨w.heap.size, 0, none⟩ = some (.int .i64 north) := by rw [← hW0]; simp
  have m1 : W0.cell? ⟨w.heap.size, 1, none⟩ = some (.int .i64 cols) := by rw [← hW0]; simp
  have m2 : W0.cell? ⟨w.heap.size, 2, none⟩ = some (.slice ea east.length ec) := by rw [← hW0]; simp
  have m3 : W0.cell? ⟨w.heap.size, 3, none⟩ = some (.int .i64 lofts) := by rw [← hW0]; simp
  have m5 : W0.cell? ⟨w.heap.size, 5, none⟩ = some (.int .i64 wrong) := by rw [← hW0]; simp
  rw [hW0]
  clear hW0
  go_loopw [8] (fun i wr => ∃ k : Nat, k ≤ east.length ∧ i = .int .i64 k ∧ Hid ((east.take k).all isScaleB = true) ∧ G W0 wr) (fun i _ => east.length - (intOf i).toNat)
  case atStart => exact ⟨0, Nat.zero_le _, rfl, Lib.hid rfl, G.rf _⟩
  case round =>
    obtain ⟨k, hk, rfl, hall, hb0⟩ := hrel
    obtain ⟨hc, hf⟩ := bcellB hb0
    have hlo : w.heap.size < wr.heap.size := by have := hb0.size; omega
    by_cases hlt : k < east.length
    · have he' := he.below (hB0.t hb0)
      rcases he' with rfl | ⟨b, off, rfl, hbb, hcell⟩
      · simp at hlt
      have hcx := hcell k hlt
      have hs1 := all_take_succ isScaleB east k hlt
      have hs2 := all_false isScaleB east k hlt
      generalize east.getD k 0 = x at hcx hs1 hs2
      clear hcell he
      cases hx : isScaleB x
      · have H2 := Lib.hid (hs2 hx)
        clear hs1 hs2
        go_wp2_with (go_at_call 111; refine (isScale_any _ _).mono ?_; rintro e w' ⟨rfl, hb1⟩)
        go_ret
        exact ⟨by simp [validMapB, H2.out], (hB0.t hb0).t hb1⟩
      · have H1 := Lib.hid hs1
        clear hs1 hs2
        go_wp2_with (go_at_call 111; refine (isScale_any _ _).mono ?_; rintro e w' ⟨rfl, hb1⟩)
        go_roundw
        case rel => exact ⟨k + 1, by omega, by go_num, Lib.hid (by rw [H1.out, hall.out, hx]; rfl), hb0.t hb1⟩
        case measure => simp [intOf]; omega
    · have HA : Hid (validMapB north cols east lofts wrong = (isInB east.length 1 10 && (isInB cols 1 10 && (isScaleB north && (isInB lofts 1 8 && isInB wrong 0 3))))) := by
        have : east.take k = east := List.take_of_length_le (by omega)
        have h2 := hall.out; rw [this] at h2
        exact (by unfold validMapB; rw [h2]; rfl)
      have hG : G w wr := hB0.t hb0
      clear hall he
      rcases and5 (isInB east.length 1 10) (isInB cols 1 10) (isScaleB north) (isInB lofts 1 8) (isInB wrong 0 3) with h1 | ⟨h1, h2⟩ | ⟨h1, h2, h3⟩ | ⟨h1, h2, h3, h4⟩ | ⟨h1, h2, h3, h4⟩
      all_goals
        go_wp2_with (first | (go_at_call 111; refine (isScale_any _ _).mono ?_; rintro e w' ⟨rfl, hbx⟩; have hcy := (bcellB hbx).1; have hsy : w.heap.size < w'.heap.size := (by have := hbx.size; omega); have hG := G.t hG hbx) | (go_at_call 112; refine (isIn_any _ _ _ _).mono ?_; rintro e w' ⟨rfl, hbx⟩; have hcy := (bcellB hbx).1; have hsy : w.heap.size < w'.heap.size := (by have := hbx.size; omega); have hG := G.t hG hbx))
        go_ret
        exact ⟨by rw [HA.out]; simp [*], hG⟩

def isSpanB (lo hi last : Int) : Bool := decide (0 ≤ lo) && (decide (lo ≤ hi) && decide (hi ≤ last))
theorem isSpan_any (lo hi last : Int) (w : World) : Calls Tryz.prog 114 #[.agg #[.int .i64 lo, .int .i64 hi], .int .i64 last] w fun e w' =>
    e = .returned (.bool (isSpanB lo hi last)) ∧ G w w' := by
  have h : ¬ 0 ≤ lo ∨ (0 ≤ lo ∧ ¬ lo ≤ hi) ∨ (0 ≤ lo ∧ lo ≤ hi) := by omega
  rcases h with h1 | ⟨h1, h2⟩ | ⟨h1, h2⟩
  all_goals
    go_enter Tryz.func114, Tryz.ntmps114
    go_wp2
    go_ret
    refine ⟨?_, (G.rf _).a _⟩
  · unfold isSpanB; rw [decide_eq_false (by omega)]; rfl
  · unfold isSpanB; rw [decide_eq_true h1, decide_eq_false (p := lo ≤ hi) (by omega)]; rfl
  · unfold isSpanB; rw [decide_eq_true h1, decide_eq_true h2]; rfl

theorem isLoft_any (north cols lofts wrong n : Int) (e s : Value) (w : World) (hl : 0 ≤ lofts ∧ lofts ≤ 9223372036854775807) :
    Calls Tryz.prog 113 #[.agg #[.int .i64 north, .int .i64 cols, e, .int .i64 lofts, s, .int .i64 wrong], .int .i64 n] w fun e w' =>
    e = .returned (.bool (isInB n 0 (lofts - 1))) ∧ G w w' := by
  go_enter Tryz.func113, Tryz.ntmps113
  go_wp2_with (go_at_call 112; refine (isIn_any _ _ _ _).mono ?_; rintro e w' ⟨rfl, hb⟩)
  go_ret
  exact ⟨rfl, ((G.rf _).a _).t hb⟩
end Go.Proofs.YtcekdljjmfkacaaGreat
set_option linter.unusedSimpArgs false
set_option linter.unusedVariables false
namespace Go.Proofs.YtcekdljjmfkacaaGreat
open Go.RowKit
def Blk (w : World) (g : Nat) (t : TypeId) (cs : Array Value) : Prop := w.heap[g]? = some (.cells cs t (0, 0))
section
variable {w w' : World} {g : Nat} {t : TypeId} {cs : Array Value}
theorem Blk.lt (h : Blk w g t cs) : g < w.heap.size := by
  rcases Nat.lt_or_ge g w.heap.size with hlt | hge
  · exact hlt
  · unfold Blk at h; rw [Array.getElem?_eq_none hge] at h; cases h
theorem Blk.cell (h : Blk w g t cs) (i : Nat) : w.cell? ⟨g, i, none⟩ = cs[i]? := cell_of_row w g i cs t (0, 0) h
theorem Blk.frozen (h : Blk w g t cs) (i : Nat) : w.frozen? ⟨g, i, none⟩ = false := by
  unfold Blk at h
  simp [World.frozen?, h]
theorem Blk.new (w : World) (t : TypeId) (cs : Array Value) : Blk (w.alloc (.cells cs t)) w.heap.size t cs := heap_alloc_new w _
theorem Blk.new1 (w : World) (o : Obj) (t : TypeId) (cs : Array Value) : Blk ((w.alloc o).alloc (.cells cs t)) (w.heap.size + 1) t cs := by
  have := Blk.new (w.alloc o) t cs
  rwa [World.size_alloc] at this
theorem Blk.new2 (w : World) (o o' : Obj) (t : TypeId) (cs : Array Value) : Blk (((w.alloc o).alloc o').alloc (.cells cs t)) (w.heap.size + 1 + 1) t cs := by
  have := Blk.new ((w.alloc o).alloc o') t cs
  rwa [World.size_alloc, World.size_alloc] at this
theorem Blk.drewN (h : Blk w g t cs) (n : Nat) : Blk (w.drewN n) g t cs := h
theorem Blk.alloc (h : Blk w g t cs) (o : Obj) : Blk (w.alloc o) g t cs := (Below.heap_alloc w o g h.lt).trans h
theorem Blk.set_ (h : Blk w g t cs) (i : Nat) (u : Value) : Blk (w.setCell ⟨g, i, none⟩ u) g t (cs.setIfInBounds i u) := by
  unfold Blk at h ⊢
  simp [World.setCell, Array.getElem?_modify, h]
theorem Blk.far (h : Blk w g t cs) {p : Addr} (hp : g ≠ p.block) (u : Value) : Blk (w.setCell p u) g t cs := (Below.heap_setCell w p u g hp).trans h
theorem Blk.below {B : Nat} (h : Blk w g t cs) (hb : Below B w w') (hg : g < B) : Blk w' g t cs := (hb.block g hg).trans h
theorem Blk.keep (h : Blk w g t cs) (hb : G w w') : Blk w' g t cs := h.below hb h.lt
theorem Blk.grown {row : Option Nat} (h : Blk w g t cs) (hb : w.grownBy w' row) (hg : some g ≠ row) : Blk w' g t cs := (hb.block g h.lt hg).trans h
end
end Go.Proofs.YtcekdljjmfkacaaGreat
set_option linter.unusedSimpArgs false
set_option linter.unusedVariables false
namespace Go.Proofs.YtcekdljjmfkacaaGreat
open Go.RowKit

def isPlaceB (cols : Int) (rows : Nat) (x y : Int) : Bool := isInB x 0 (cols - 1) && isInB y 0 (rows - 1)

set_option maxHeartbeats 1000000 in
theorem isPlace_any (north cols lofts wrong x y : Int) (ea : Option Addr) (el ec : Nat) (s : Value) (w : World) (hc : 0 ≤ cols ∧ cols ≤ 9223372036854775807) (hel : el ≤ 9223372036854775807) :
    Calls Tryz.prog 103 #[.agg #[.int .i64 north, .int .i64 cols, .slice ea el ec, .int .i64 lofts, s, .int .i64 wrong], .agg #[.int .i64 x, .int .i64 y]] w fun e w' =>
    e = .returned (.bool (isPlaceB cols el x y)) ∧ G w w' := by
  cases h1 : isInB x 0 (cols - 1)
  all_goals
    go_enter Tryz.func103, Tryz.ntmps103
    go_wp2_with fail
    have hG : G w ((w.alloc (.cells #[.int .i64 north, .int .i64 cols, .slice ea el ec, .int .i64 lofts, s, .int .i64 wrong] 25)).alloc (.cells #[.int .i64 x, .int .i64 y] 27)) := ((G.rf _).a _).a _
    have hz : w.heap.size + 1 < ((w.alloc (.cells #[.int .i64 north, .int .i64 cols, .slice ea el ec, .int .i64 lofts, s, .int .i64 wrong] 25)).alloc (.cells #[.int .i64 x, .int .i64 y] 27)).heap.size := by simp
    go_wp2_with (go_at_call 112; refine (isIn_any _ _ _ _).mono ?_; rintro e w' ⟨rfl, hbx⟩; have hcy := (bcellB hbx).1; have hsy : w.heap.size + 1 < w'.heap.size := (by have := hbx.size; omega); have hs0 : w.heap.size < w'.heap.size := (by omega); have hG := G.t hG hbx)
    go_ret
    exact ⟨by unfold isPlaceB; simp [*], hG⟩
theorem eq27 (a b c d : Int) (w : World) : (binOp .eql 27 (.agg #[.int .i64 a, .int .i64 b]) (.agg #[.int .i64 c, .int .i64 d])).run Tryz.prog w = .ok (.bool (a == c && b == d)) w := by
  have u3 := Tryz.underlying3
  have hS : Tryz.prog.underlying 27 = some (.struct (Tryz.prog.fieldsOf 27)) := by kernel_rfl
  have hp : Tryz.prog.stoodInHeld 27 = false := by kernel_rfl
  rw [run_eql_struct, show (10000 : Nat) = 9999 + 1 from rfl, run_equalIn_agg w 9999 27 _ _ hS hp]
  simp only [Program.fieldsOf, Tryz.underlying27]
  go_simp
  by_cases h1 : a = c <;> by_cases h2 : b = d <;> simp [h1, h2]
theorem eq46 (a b c d : Int) (w : World) : (binOp .eql 30 (.agg #[.int .i64 a, .int .i64 b]) (.agg #[.int .i64 c, .int .i64 d])).run Tryz.prog w = .ok (.bool (a == c && b == d)) w := by
  have u3 := Tryz.underlying3
  have hS : Tryz.prog.underlying 30 = some (.struct (Tryz.prog.fieldsOf 30)) := by kernel_rfl
  have hp : Tryz.prog.stoodInHeld 30 = false := by kernel_rfl
  rw [run_eql_struct, show (10000 : Nat) = 9999 + 1 from rfl, run_equalIn_agg w 9999 30 _ _ hS hp]
  simp only [Program.fieldsOf, Tryz.underlying30]
  go_simp
  by_cases h1 : a = c <;> by_cases h2 : b = d <;> simp [h1, h2]

def validSurveyB (cols : Int) (rows : Nat) (lofts loft kind xl xh yl yh ax ay dl dh : Int) : Bool :=
  isInB loft 0 (lofts - 1) &&
  (if kind = 1 then isSpanB xl xh (cols - 1) && (isSpanB yl yh (rows - 1) && ((ax == 0 && ay == 0) && (dl == 0 && dh == 0)))
   else if kind = 2 then (xl == 0 && xh == 0) && ((yl == 0 && yh == 0) && (isPlaceB cols rows ax ay && isSpanB dl dh 100000000))
   else false)
theorem and4 (a b c : Bool) : a = false ∨ (a = true ∧ b = false) ∨ (a = true ∧ b = true ∧ c = false) ∨ (a = true ∧ b = true ∧ c = true) := by
  cases a <;> cases b <;> cases c <;> simp

section
variable (north cols lofts wrong loft kind xl xh yl yh ax ay dl dh : Int) (ea : Option Addr) (el ec : Nat) (s : Value) (w : World)
def vsWorld : World := (w.alloc (.cells #[.int .i64 north, .int .i64 cols, .slice ea el ec, .int .i64 lofts, s, .int .i64 wrong] 25)).alloc (.cells #[.int .i64 loft, .int .i64 kind, .int .i64 xl, .int .i64 xh, .int .i64 yl, .int .i64 yh, .int .i64 ax, .int .i64 ay, .int .i64 dl, .int .i64 dh] 135)
abbrev VsPost : Prop := Calls Tryz.prog 97 #[.agg #[.int .i64 north, .int .i64 cols, .slice ea el ec, .int .i64 lofts, s, .int .i64 wrong], .agg #[.int .i64 loft, .int .i64 kind, .int .i64 xl, .int .i64 xh, .int .i64 yl, .int .i64 yh, .int .i64 ax, .int .i64 ay, .int .i64 dl, .int .i64 dh]] w fun e w' =>
    e = .returned (.bool (validSurveyB cols el lofts loft kind xl xh yl yh ax ay dl dh)) ∧ G w w'
end

set_option maxHeartbeats 4000000 in
theorem validSurvey_any (north cols lofts wrong loft kind xl xh yl yh ax ay dl dh : Int) (ea : Option Addr) (el ec : Nat) (s : Value) (w : World)
    (hc : 0 ≤ cols ∧ cols ≤ 9223372036854775807) (hel : el ≤ 9223372036854775807) (hlo : 0 ≤ lofts ∧ lofts ≤ 9223372036854775807) :
    VsPost north cols lofts wrong loft kind xl xh yl yh ax ay dl dh ea el ec s w := by
  unfold VsPost
  have hG : G w ((w.alloc (.cells #[.int .i64 north, .int .i64 cols, .slice ea el ec, .int .i64 lofts, s, .int .i64 wrong] 25)).alloc (.cells #[.int .i64 loft, .int .i64 kind, .int .i64 xl, .int .i64 xh, .int .i64 yl, .int .i64 yh, .int .i64 ax, .int .i64 ay, .int .i64 dl, .int .i64 dh] 135)) := ((G.rf _).a _).a _
  have hz : w.heap.size + 1 < ((w.alloc (.cells #[.int .i64 north, .int .i64 cols, .slice ea el ec, .int .i64 lofts, s, .int .i64 wrong] 25)).alloc (.cells #[.int .i64 loft, .int .i64 kind, .int .i64 xl, .int .i64 xh, .int .i64 yl, .int .i64 yh, .int .i64 ax, .int .i64 ay, .int .i64 dl, .int .i64 dh] 135)).heap.size := by simp
  have q27 := eq27
  have q46 := eq46
  have key : (isInB loft 0 (lofts - 1) = false) ∨ (isInB loft 0 (lofts - 1) = true ∧ kind = 1) ∨ (isInB loft 0 (lofts - 1) = true ∧ kind = 2) ∨ (isInB loft 0 (lofts - 1) = true ∧ (kind == 1) = false ∧ (kind == 2) = false) := by
    cases isInB loft 0 (lofts - 1)
    · simp
    · by_cases h1 : kind = 1
      · simp [h1]
      · by_cases h2 : kind = 2
        · simp [h2]
        · simp [h1, h2]
  rcases key with h0 | ⟨h0, rfl⟩ | ⟨h0, rfl⟩ | ⟨h0, h1, h2⟩
  · have HV : Hid (validSurveyB cols el lofts loft kind xl xh yl yh ax ay dl dh = false) := by unfold validSurveyB Hid; rw [h0]; rfl
    go_enter Tryz.func97, Tryz.ntmps97
    go_wp2_with (go_at_call 113; refine (isLoft_any _ _ _ _ _ _ _ _ hlo).mono ?_; rintro e w' ⟨rfl, hbx⟩; have hcy := (bcellB hbx).1; have hsy : w.heap.size + 1 < w'.heap.size := (by have := hbx.size; omega); have hs0 : w.heap.size < w'.heap.size := (by omega); have hG := G.t hG hbx)
    go_ret
    exact ⟨by rw [HV.out]; rfl, hG⟩
  · have HV : Hid (validSurveyB cols el lofts loft 1 xl xh yl yh ax ay dl dh = (isSpanB xl xh (cols - 1) && (isSpanB yl yh (el - 1) && ((ax == 0 && ay == 0) && (dl == 0 && dh == 0))))) := by
      unfold validSurveyB Hid; rw [h0, if_pos rfl]; rfl
    rcases and4 (isSpanB xl xh (cols - 1)) (isSpanB yl yh (el - 1)) (ax == 0 && ay == 0) with h1 | ⟨h1, h2⟩ | ⟨h1, h2, h3⟩ | ⟨h1, h2, h3⟩
    all_goals
      go_enter Tryz.func97, Tryz.ntmps97
      go_wp2_with (first | (go_at_call 113; refine (isLoft_any _ _ _ _ _ _ _ _ hlo).mono ?_; rintro e w' ⟨rfl, hbx⟩; have hcy := (bcellB hbx).1; have hsy : w.heap.size + 1 < w'.heap.size := (by have := hbx.size; omega); have hs0 : w.heap.size < w'.heap.size := (by omega); have hG := G.t hG hbx) | (go_at_call 114; refine (isSpan_any _ _ _ _).mono ?_; rintro e w' ⟨rfl, hbx⟩; have hcy := (bcellB hbx).1; have hsy : w.heap.size + 1 < w'.heap.size := (by have := hbx.size; omega); have hs0 : w.heap.size < w'.heap.size := (by omega); have hG := G.t hG hbx) | (go_at_call 103; refine (isPlace_any _ _ _ _ _ _ _ _ _ _ _ hc hel).mono ?_; rintro e w' ⟨rfl, hbx⟩; have hcy := (bcellB hbx).1; have hsy : w.heap.size + 1 < w'.heap.size := (by have := hbx.size; omega); have hs0 : w.heap.size < w'.heap.size := (by omega); have hG := G.t hG hbx))
      go_ret
      exact ⟨by rw [HV.out]; simp [*], hG⟩
  · have HV : Hid (validSurveyB cols el lofts loft 2 xl xh yl yh ax ay dl dh = ((xl == 0 && xh == 0) && ((yl == 0 && yh == 0) && (isPlaceB cols el ax ay && isSpanB dl dh 100000000)))) := by
      unfold validSurveyB Hid; rw [h0, if_neg (by decide), if_pos rfl]; rfl
    rcases and4 (xl == 0 && xh == 0) (yl == 0 && yh == 0) (isPlaceB cols el ax ay) with h1 | ⟨h1, h2⟩ | ⟨h1, h2, h3⟩ | ⟨h1, h2, h3⟩
    all_goals
      go_enter Tryz.func97, Tryz.ntmps97
      go_wp2_with (first | (go_at_call 113; refine (isLoft_any _ _ _ _ _ _ _ _ hlo).mono ?_; rintro e w' ⟨rfl, hbx⟩; have hcy := (bcellB hbx).1; have hsy : w.heap.size + 1 < w'.heap.size := (by have := hbx.size; omega); have hs0 : w.heap.size < w'.heap.size := (by omega); have hG := G.t hG hbx) | (go_at_call 114; refine (isSpan_any _ _ _ _).mono ?_; rintro e w' ⟨rfl, hbx⟩; have hcy := (bcellB hbx).1; have hsy : w.heap.size + 1 < w'.heap.size := (by have := hbx.size; omega); have hs0 : w.heap.size < w'.heap.size := (by omega); have hG := G.t hG hbx) | (go_at_call 103; refine (isPlace_any _ _ _ _ _ _ _ _ _ _ _ hc hel).mono ?_; rintro e w' ⟨rfl, hbx⟩; have hcy := (bcellB hbx).1; have hsy : w.heap.size + 1 < w'.heap.size := (by have := hbx.size; omega); have hs0 : w.heap.size < w'.heap.size := (by omega); have hG := G.t hG hbx))
      go_ret
      exact ⟨by rw [HV.out]; simp [*], hG⟩
  · have HV : Hid (validSurveyB cols el lofts loft kind xl xh yl yh ax ay dl dh = false) := by
      unfold validSurveyB Hid; rw [h0, if_neg (by simpa using h1), if_neg (by simpa using h2)]; rfl
    go_enter Tryz.func97, Tryz.ntmps97
    go_wp2_with (go_at_call 113; refine (isLoft_any _ _ _ _ _ _ _ _ hlo).mono ?_; rintro e w' ⟨rfl, hbx⟩; have hcy := (bcellB hbx).1; have hsy : w.heap.size + 1 < w'.heap.size := (by have := hbx.size; omega); have hs0 : w.heap.size < w'.heap.size := (by omega); have hG := G.t hG hbx)
    go_ret
    exact ⟨by rw [HV.out]; rfl, hG⟩
end Go.Proofs.YtcekdljjmfkacaaGreat
set_option linter.unusedSimpArgs false
set_option linter.unusedVariables false
namespace Go.Proofs.YtcekdljjmfkacaaGreat
open Go.RowKit

structure Sv where
  loft : Int
  kind : Int
  xl : Int
  xh : Int
  yl : Int
  yh : Int
  ax : Int
  ay : Int
  dl : Int
  dh : Int
instance : Inhabited Sv := ⟨⟨0, 0, 0, 0, 0, 0, 0, 0, 0, 0⟩⟩

def SvCells (w : World) (b o : Nat) (s : Sv) : Prop :=
  w.cell? ⟨b, o, none⟩ = some (.int .i64 s.loft) ∧ w.cell? ⟨b, o + 1, none⟩ = some (.int .i64 s.kind) ∧ w.cell? ⟨b, o + 2, none⟩ = some (.int .i64 s.xl) ∧ w.cell? ⟨b, o + 3, none⟩ = some (.int .i64 s.xh) ∧
  w.cell? ⟨b, o + 4, none⟩ = some (.int .i64 s.yl) ∧ w.cell? ⟨b, o + 5, none⟩ = some (.int .i64 s.yh) ∧ w.cell? ⟨b, o + 6, none⟩ = some (.int .i64 s.ax) ∧ w.cell? ⟨b, o + 7, none⟩ = some (.int .i64 s.ay) ∧
  w.cell? ⟨b, o + 8, none⟩ = some (.int .i64 s.dl) ∧ w.cell? ⟨b, o + 9, none⟩ = some (.int .i64 s.dh)

def SvsAt (w : World) (a : Option Addr) (l : List Sv) : Prop := l = [] ∨ ∃ b off, a = some ⟨b, off, none⟩ ∧ b < w.heap.size ∧ ∀ k, k < l.length → SvCells w b (off + k * 10) (l.getD k default)

theorem SvCells.below {w w' : World} {b o : Nat} {s : Sv} (h : SvCells w b o s) (hb : G w w') (hlt : b < w.heap.size) : SvCells w' b o s := by
  obtain ⟨h0, h1, h2, h3, h4, h5, h6, h7, h8, h9⟩ := h
  have hc := (bcellB hb).1
  exact ⟨(hc _ _ hlt).trans h0, (hc _ _ hlt).trans h1, (hc _ _ hlt).trans h2, (hc _ _ hlt).trans h3, (hc _ _ hlt).trans h4, (hc _ _ hlt).trans h5, (hc _ _ hlt).trans h6, (hc _ _ hlt).trans h7, (hc _ _ hlt).trans h8, (hc _ _ hlt).trans h9⟩

theorem SvsAt.below {w w' : World} {a : Option Addr} {l : List Sv} (h : SvsAt w a l) (hb : G w w') : SvsAt w' a l := by
  rcases h with rfl | ⟨b, off, rfl, hlt, hc⟩
  · exact .inl rfl
  · exact .inr ⟨b, off, rfl, Nat.lt_of_lt_of_le hlt hb.size, fun k hk => (hc k hk).below hb hlt⟩

def svOk (cols : Int) (rows : Nat) (lofts : Int) (s : Sv) : Bool := validSurveyB cols rows lofts s.loft s.kind s.xl s.xh s.yl s.yh s.ax s.ay s.dl s.dh

def checkE (north cols : Int) (east : List Int) (lofts : Int) (svs : List Sv) (wrong : Int) : Int :=
  if validMapB north cols east lofts wrong = false then 20
  else if svs.length > 16 then 21
  else if svs.all (svOk cols east.length lofts) then 0 else 21

theorem vm_bounds {north cols lofts wrong : Int} {east : List Int} (h : validMapB north cols east lofts wrong = true) :
    (1 ≤ cols ∧ cols ≤ 10) ∧ (1 ≤ lofts ∧ lofts ≤ 8) ∧ (0 ≤ wrong ∧ wrong ≤ 3) ∧ (1 ≤ north ∧ north ≤ 2000000) ∧ (1 ≤ east.length ∧ east.length ≤ 10) ∧ ∀ x ∈ east, 1 ≤ x ∧ x ≤ 2000000 := by
  simp [validMapB, isScaleB, isInB] at h
  obtain ⟨h1, h2, h3, h4, h5, h6⟩ := h
  exact ⟨by omega, by omega, by omega, by omega, by omega, h1⟩

theorem all_take_succ' {α : Type} [Inhabited α] (p : α → Bool) (l : List α) (k : Nat) (h : k < l.length) : (l.take (k + 1)).all p = ((l.take k).all p && p (l.getD k default)) := by
  rw [List.take_succ_eq_append_getElem h, List.all_append]
  simp [h]
theorem all_false' {α : Type} [Inhabited α] (p : α → Bool) (l : List α) (k : Nat) (h : k < l.length) (hp : p (l.getD k default) = false) : l.all p = false := by
  rw [List.all_eq_false]
  refine ⟨l[k], List.getElem_mem h, ?_⟩
  simp [h] at hp
  simp [hp]

set_option maxHeartbeats 4000000 in
theorem Check_any (north cols lofts wrong : Int) (east : List Int) (svs : List Sv) (ea sa : Option Addr) (ec sc : Nat) (w : World) (he : IntsAt w ea east) (hs : SvsAt w sa svs)
    (hl : east.length ≤ 9223372036854775807) (hl2 : svs.length ≤ 9223372036854775807) :
    Calls Tryz.prog 66 #[.agg #[.int .i64 north, .int .i64 cols, .slice ea east.length ec, .int .i64 lofts, .slice sa svs.length sc, .int .i64 wrong]] w fun e w' =>
    e = .returned (.int .i64 (checkE north cols east lofts svs wrong)) ∧ G w w' := by
  cases hv : validMapB north cols east lofts wrong
  · have HV : Hid (checkE north cols east lofts svs wrong = 20) := by unfold checkE Hid; rw [if_pos hv]
    go_enter Tryz.func66, Tryz.ntmps66
    go_wp2_with (go_at_call 96; refine (validMap_any _ _ _ _ _ _ _ _ _ _ _ (he.below ((G.rf _).a _)) hl).mono ?_; rintro e w' ⟨rfl, hbx⟩)
    go_ret
    exact ⟨by rw [HV.out]; rfl, ((G.rf _).a _).t hbx⟩
  · have hvb := vm_bounds hv
    have hcb : 0 ≤ cols ∧ cols ≤ 9223372036854775807 := by omega
    have hlb : 0 ≤ lofts ∧ lofts ≤ 9223372036854775807 := by omega
    clear hvb
    by_cases hn : svs.length > 16
    · have HV : Hid (checkE north cols east lofts svs wrong = 21) := by unfold checkE Hid; rw [if_neg (by rw [hv]; simp), if_pos hn]
      go_enter Tryz.func66, Tryz.ntmps66
      go_wp2_with (go_at_call 96; refine (validMap_any _ _ _ _ _ _ _ _ _ _ _ (he.below ((G.rf _).a _)) hl).mono ?_; rintro e w' ⟨rfl, hbx⟩; have hcy := (bcellB hbx).1; have hs0 : w.heap.size < w'.heap.size := (by have := hbx.size; simp at this; omega))
      go_ret
      exact ⟨by rw [HV.out]; rfl, ((G.rf _).a _).t hbx⟩
    · have HV : Hid (checkE north cols east lofts svs wrong = if svs.all (svOk cols east.length lofts) then 0 else 21) := by unfold checkE Hid; rw [if_neg (by rw [hv]; simp), if_neg hn]
      go_enter Tryz.func66, Tryz.ntmps66
      go_wp2_with (go_at_call 96; refine (validMap_any _ _ _ _ _ _ _ _ _ _ _ (he.below ((G.rf _).a _)) hl).mono ?_; rintro e w' ⟨rfl, hbx⟩; have hcy := (bcellB hbx).1; have hs0 : w.heap.size < w'.heap.size := (by have := hbx.size; simp at this; omega); have hG := G.t ((G.rf _).a _) hbx)
      obtain ⟨w1, rfl⟩ : ∃ w1, w1 = w' := ⟨_, rfl⟩
      go_loopw [15] (fun i wr => ∃ k : Nat, k ≤ svs.length ∧ i = .int .i64 k ∧ Hid ((svs.take k).all (svOk cols east.length lofts) = true) ∧ G w1 wr) (fun i _ => svs.length - (intOf i).toNat)
      case atStart => exact ⟨0, Nat.zero_le _, rfl, Lib.hid rfl, G.rf _⟩
      case round =>
        obtain ⟨k, hk, rfl, hall, hb0⟩ := hrel
        have hc := (bcellB hb0).1
        have hlo : w.heap.size < wr.heap.size := by have := hb0.size; omega
        by_cases hlt : k < svs.length
        · have hs' := hs.below (hG.t hb0)
          rcases hs' with rfl | ⟨b, off, rfl, hbb, hcell⟩
          · simp at hlt
          have hcx := hcell k hlt
          have hs1 := all_take_succ' (svOk cols east.length lofts) svs k hlt
          have hs2 := all_false' (svOk cols east.length lofts) svs k hlt
          generalize svs.getD k default = x at hcx hs1 hs2
          clear hcell hs he
          obtain ⟨x0, x1, x2, x3, x4, x5, x6, x7, x8, x9⟩ := hcx
          cases hx : svOk cols east.length lofts x
          · have H2 := Lib.hid (hs2 hx)
            clear hs1 hs2
            go_wp2_with (go_at_call 97; refine (validSurvey_any _ _ _ _ _ _ _ _ _ _ _ _ _ _ _ _ _ _ _ hcb hl hlb).mono ?_; rintro e w2 ⟨rfl, hbx⟩; rw [show validSurveyB cols east.length lofts x.loft x.kind x.xl x.xh x.yl x.yh x.ax x.ay x.dl x.dh = false from hx])
            go_ret
            exact ⟨by rw [HV.out, H2.out]; rfl, ((hG.t hb0).a _).t hbx⟩
          · have H1 := Lib.hid hs1
            clear hs1 hs2
            go_wp2_with (go_at_call 97; refine (validSurvey_any _ _ _ _ _ _ _ _ _ _ _ _ _ _ _ _ _ _ _ hcb hl hlb).mono ?_; rintro e w2 ⟨rfl, hbx⟩; rw [show validSurveyB cols east.length lofts x.loft x.kind x.xl x.xh x.yl x.yh x.ax x.ay x.dl x.dh = true from hx])
            go_roundw
            case rel => exact ⟨k + 1, by omega, by go_num, Lib.hid (by rw [H1.out, hall.out, hx]; rfl), (hb0.a _).t hbx⟩
            case measure => simp [intOf]; omega
        · have HA : Hid (svs.all (svOk cols east.length lofts) = true) := by
            have h2 := hall.out; rw [List.take_of_length_le (by omega)] at h2; exact h2
          go_wp2
          go_ret
          exact ⟨by rw [HV.out, HA.out]; rfl, hG.t hb0⟩
end Go.Proofs.YtcekdljjmfkacaaGreat
set_option linter.unusedSimpArgs false
set_option linter.unusedVariables false
namespace Go.Proofs.YtcekdljjmfkacaaGreat
open Go.RowKit

def sqI (north : Int) (east : List Int) (ax ay bx bY : Int) : Int :=
  (2 * north * (ay - bY)) * (2 * north * (ay - bY)) + ((east.getD ay.toNat 0 + east.getD bY.toNat 0) * (ax - bx)) * ((east.getD ay.toNat 0 + east.getD bY.toNat 0) * (ax - bx))

theorem mul_bd {a b A B : Int} (h1 : -A ≤ a) (h2 : a ≤ A) (h3 : -B ≤ b) (h4 : b ≤ B) : -(A * B) ≤ a * b ∧ a * b ≤ A * B := by
  have hA : 0 ≤ A := by omega
  have hB : 0 ≤ B := by omega
  have e1 : 0 ≤ (A - a) * (B + b) := Int.mul_nonneg (by omega) (by omega)
  have e2 : 0 ≤ (A + a) * (B - b) := Int.mul_nonneg (by omega) (by omega)
  have e3 : 0 ≤ (A - a) * (B - b) := Int.mul_nonneg (by omega) (by omega)
  have e4 : 0 ≤ (A + a) * (B + b) := Int.mul_nonneg (by omega) (by omega)
  have x1 : (A - a) * (B + b) = A * B + A * b - a * B - a * b := by rw [Int.sub_mul, Int.mul_add, Int.mul_add]; omega
  have x2 : (A + a) * (B - b) = A * B - A * b + a * B - a * b := by rw [Int.add_mul, Int.mul_sub, Int.mul_sub]; omega
  have x3 : (A - a) * (B - b) = A * B - A * b - a * B + a * b := by rw [Int.sub_mul, Int.mul_sub, Int.mul_sub]; omega
  have x4 : (A + a) * (B + b) = A * B + A * b + a * B + a * b := by rw [Int.add_mul, Int.mul_add, Int.mul_add]; omega
  omega

set_option maxHeartbeats 1000000 in
theorem square_any (north cols lofts wrong ax bx : Int) (p q : Nat) (east : List Int) (ea : Option Addr) (ec : Nat) (s : Value) (w : World) (he : IntsAt w ea east)
    (hv : validMapB north cols east lofts wrong = true) (hp : p < east.length) (hq : q < east.length) (h1 : isInB ax 0 (cols - 1) = true) (h2 : isInB bx 0 (cols - 1) = true) :
    Calls Tryz.prog 104 #[.agg #[.int .i64 north, .int .i64 cols, .slice ea east.length ec, .int .i64 lofts, s, .int .i64 wrong], .agg #[.int .i64 ax, .int .i64 p], .agg #[.int .i64 bx, .int .i64 q]] w fun e w' =>
    e = .returned (.int .i64 (sqI north east ax p bx q)) ∧ G w w' := by
  obtain ⟨hc, hlo, hw, hno, hel, hx⟩ := vm_bounds hv
  simp [isInB] at h1 h2
  have e1 : east.getD p 0 ∈ east := by simp [hp]
  have e2 : east.getD q 0 ∈ east := by simp [hq]
  have b1 := hx _ e1
  have b2 := hx _ e2
  rcases he with rfl | ⟨b, off, rfl, hbb, hcell⟩
  · simp at hp
  have c1 := hcell p hp
  have c2 := hcell q hq
  have HS : Hid (sqI north east ax p bx q = (2 * north * (↑p - ↑q)) * (2 * north * (↑p - ↑q)) + ((east.getD p 0 + east.getD q 0) * (ax - bx)) * ((east.getD p 0 + east.getD q 0) * (ax - bx))) := by
    unfold sqI Hid; simp only [Int.toNat_natCast]
  generalize east.getD p 0 = x at *
  generalize east.getD q 0 = y at *
  obtain ⟨n1, n2⟩ := mul_bd (A := 4000000) (B := 9) (a := 2 * north) (b := (p : Int) - q) (by omega) (by omega) (by omega) (by omega)
  obtain ⟨m1, m2⟩ := mul_bd (A := 4000000) (B := 9) (a := x + y) (b := ax - bx) (by omega) (by omega) (by omega) (by omega)
  obtain ⟨n3, n4⟩ := mul_bd (A := 36000000) (B := 36000000) (a := 2 * north * ((p : Int) - q)) (b := 2 * north * ((p : Int) - q)) (by omega) (by omega) (by omega) (by omega)
  obtain ⟨m3, m4⟩ := mul_bd (A := 36000000) (B := 36000000) (a := (x + y) * (ax - bx)) (b := (x + y) * (ax - bx)) (by omega) (by omega) (by omega) (by omega)
  have hc0 : w.heap.size + 2 < (((w.alloc (.cells #[.int .i64 north, .int .i64 cols, .slice (some ⟨b, off, none⟩) east.length ec, .int .i64 lofts, s, .int .i64 wrong] 25)).alloc (.cells #[.int .i64 ax, .int .i64 p] 27)).alloc (.cells #[.int .i64 bx, .int .i64 q] 27)).heap.size := by simp
  go_enter Tryz.func104, Tryz.ntmps104
  go_wp2
  have g1 : IntKind.i64.wrap (x + y) = x + y := IntWalk.i64_in _ (by omega)
  have g2 : IntKind.i64.wrap (ax - bx) = ax - bx := IntWalk.i64_in _ (by omega)
  have g3 : IntKind.i64.wrap ((x + y) * (ax - bx)) = (x + y) * (ax - bx) := IntWalk.i64_in _ (by omega)
  have k1 : (p : Int) < east.length := by omega
  have k2 : (q : Int) < east.length := by omega
  obtain ⟨W0, hW0⟩ : ∃ W0, (((w.alloc (.cells #[.int .i64 north, .int .i64 cols, .slice (some ⟨b, off, none⟩) east.length ec, .int .i64 lofts, s, .int .i64 wrong] 25)).alloc (.cells #[.int .i64 ax, .int .i64 p] 27)).alloc (.cells #[.int .i64 bx, .int .i64 q] 27)) = W0 := ⟨_, rfl⟩
  have hG : G w W0 := by rw [← hW0]; exact (((G.rf _).a _).a _).a _
  have k0 : Blk W0 w.heap.size 25 #[.int .i64 north, .int .i64 cols, .slice (some ⟨b, off, none⟩) east.length ec, .int .i64 lofts, s, .int .i64 wrong] := by rw [← hW0]; exact ((Blk.new _ _ _).alloc _).alloc _
  have k1 : Blk W0 (w.heap.size + 1) 27 #[.int .i64 ax, .int .i64 p] := by rw [← hW0]; exact (Blk.new1 _ _ _ _).alloc _
  have k2 : Blk W0 (w.heap.size + 1 + 1) 27 #[.int .i64 bx, .int .i64 q] := by rw [← hW0]; exact Blk.new2 _ _ _ _ _
  have i1 : W0.cell? ⟨w.heap.size, 2, none⟩ = some (.slice (some ⟨b, off, none⟩) east.length ec) := k0.cell 2
  have i2 : W0.cell? ⟨w.heap.size + 1, 0, none⟩ = some (.int .i64 ax) := k1.cell 0
  have i3 : W0.cell? ⟨w.heap.size + 1, 1, none⟩ = some (.int .i64 p) := k1.cell 1
  have i4 : W0.cell? ⟨w.heap.size + 1 + 1, 0, none⟩ = some (.int .i64 bx) := k2.cell 0
  have i5 : W0.cell? ⟨w.heap.size + 1 + 1, 1, none⟩ = some (.int .i64 q) := k2.cell 1
  have c1' := ((bcellB hG).1 b (off + p) hbb).trans c1
  have c2' := ((bcellB hG).1 b (off + q) hbb).trans c2
  rw [hW0]
  clear hW0 c1 c2 hcell k0 k1 k2 hc0
  go_quiet (fail)
  clear g1 g2 g3
  go_wp2
  go_ret
  exact ⟨by rw [HS.out]; rfl, hG.dn _⟩
end Go.Proofs.YtcekdljjmfkacaaGreat
set_option linter.unusedSimpArgs false
set_option linter.unusedVariables false
namespace Go.Proofs.YtcekdljjmfkacaaGreat
/-- binary search for the root: lo*lo ≤ n < hi*hi -/
def rtGo : Nat → Nat → Nat → Nat → Nat
  | 0, lo, _, _ => lo
  | f + 1, lo, hi, n => if hi ≤ lo + 1 then lo else if ((lo + hi) / 2) * ((lo + hi) / 2) ≤ n then rtGo f ((lo + hi) / 2) hi n else rtGo f lo ((lo + hi) / 2) n
def rt (n : Nat) : Nat := rtGo 32 0 4294967296 n

theorem rtGo_spec (f lo hi n : Nat) (hf : hi - lo ≤ 2 ^ f) (h1 : lo * lo ≤ n) (h2 : n < hi * hi) (h3 : lo < hi) :
    rtGo f lo hi n * rtGo f lo hi n ≤ n ∧ n < (rtGo f lo hi n + 1) * (rtGo f lo hi n + 1) := by
  induction f generalizing lo hi with
  | zero =>
    have : hi = lo + 1 := by simp at hf; omega
    subst this
    exact ⟨h1, h2⟩
  | succ f ih =>
    unfold rtGo
    have hp : 2 ^ (f + 1) = 2 * 2 ^ f := by rw [Nat.pow_succ]; omega
    split
    · have : hi = lo + 1 := by omega
      subst this
      exact ⟨h1, h2⟩
    · split
      · rename_i hc
        exact ih _ _ (by omega) hc h2 (by omega)
      · rename_i hc
        exact ih _ _ (by omega) h1 (by omega) (by omega)
theorem rt_spec (n : Nat) (h : n < 18446744073709551616) : rt n * rt n ≤ n ∧ n < (rt n + 1) * (rt n + 1) :=
  rtGo_spec 32 0 4294967296 n (by decide) (by omega) (by omega) (by omega)
theorem rt_unique (n k : Nat) (h : n < 18446744073709551616) (h1 : k * k ≤ n) (h2 : n < (k + 1) * (k + 1)) : rt n = k := by
  obtain ⟨a, b⟩ := rt_spec n h
  have c : ¬ k < rt n := fun hk => by
    have := Nat.mul_le_mul (show k + 1 ≤ rt n by omega) (show k + 1 ≤ rt n by omega)
    omega
  have d : ¬ rt n < k := fun hk => by
    have := Nat.mul_le_mul (show rt n + 1 ≤ k by omega) (show rt n + 1 ≤ k by omega)
    omega
  omega
theorem countP_cut (p : Nat → Bool) (k : Nat) : ∀ N, k ≤ N → (∀ t, t < k → p t = false) → (∀ t, k ≤ t → t < N → p t = true) → (List.range N).countP (fun i => !p i) = k
  | 0, h, _, _ => by simp; omega
  | N + 1, h, h1, h2 => by
    rw [List.range_succ, List.countP_append]
    by_cases e : k = N + 1
    · subst e
      have ih : (List.range N).countP (fun i => !p i) = N := by
        rw [List.countP_eq_length.2]
        · simp
        · intro a ha; simp at ha; simp [h1 a (by omega)]
      rw [ih]
      simp [h1 N (by omega)]
    · rw [countP_cut p k N (by omega) h1 (fun t a b => h2 t a (by omega))]
      simp [h2 N (by omega) (by omega)]
theorem rt_le (n k : Nat) (h : n < 18446744073709551616) (h2 : n < (k + 1) * (k + 1)) : rt n ≤ k := by
  obtain ⟨a, b⟩ := rt_spec n h
  apply Nat.le_of_not_lt
  intro hk
  have := Nat.mul_le_mul (show k + 1 ≤ rt n by omega) (show k + 1 ≤ rt n by omega)
  omega
theorem rt_count (n N : Nat) (h : n < 18446744073709551616) (h2 : n < (N + 1) * (N + 1)) :
    (List.range N).countP (fun r => !decide (n < (r + 1) * (r + 1))) = rt n := by
  obtain ⟨a, b⟩ := rt_spec n h
  refine countP_cut (fun r => decide (n < (r + 1) * (r + 1))) (rt n) N (rt_le n N h h2) (fun t ht => ?_) (fun t ht _ => ?_)
  · have := Nat.mul_le_mul (show t + 1 ≤ rt n by omega) (show t + 1 ≤ rt n by omega)
    simp; omega
  · have := Nat.mul_le_mul (show rt n + 1 ≤ t + 1 by omega) (show rt n + 1 ≤ t + 1 by omega)
    simp; omega
end Go.Proofs.YtcekdljjmfkacaaGreat
namespace Go.Proofs
open Go.Shelf
def Tryz.searchL_ren : Go.Shelf.Ren := ⟨fun | 16 => 126 | n => n, fun | 3 => 3 | 35 => 80 | 4 => 4 | 38 => 148 | n => n, fun | n => n⟩
theorem Tryz.searchL : Go.Proofs.SlLaysO.n16 Tryz.prog Tryz.searchL_ren := {
  mixed := by kernel_rfl
  f16 := Tryz.func126.trans (congrArg some (by kernel_rfl))
  t3 := Tryz.underlying3
  a3 := Tryz.isAgg3
  z3 := Tryz.sizeOf3
  v3 := Tryz.zeroValue3
  t4 := Tryz.underlying4
  a4 := Tryz.isAgg4
  z4 := Tryz.sizeOf4
  v4 := Tryz.zeroValue4
  t35 := Tryz.underlying80
  a35 := Tryz.isAgg80
  z35 := Tryz.sizeOf80
  v35 := Tryz.zeroValue80
  t38 := Tryz.underlying148
  a38 := Tryz.isAgg148
  z38 := Tryz.sizeOf148
  v38 := Tryz.zeroValue148 }
end Go.Proofs
set_option linter.unusedSimpArgs false
set_option linter.unusedVariables false
namespace Go.Proofs.YtcekdljjmfkacaaGreat
open Go.RowKit Go.Lib Go.Sort Go.Shelf

theorem grow_G (w : World) (q : Nat) (os : Array Obj) : G w (grow (w.drewN q) os) := below_grown_sl _ w q os (Nat.le_refl _)

set_option maxHeartbeats 1000000 in
theorem rootFn_any (n : Int) (i B : Nat) (W : World) (hn : 0 ≤ n ∧ n ≤ 6400000160000000) (hi : i < 80000000) (hB : Blk W B 3 #[.int .i64 n]) :
    Calls Tryz.prog 127 (#[.int .i64 i] ++ #[.pointer (some ⟨B, 0, none⟩)]) W fun e w' => e = .returned (.bool (decide (n.toNat < (i + 1) * (i + 1)))) ∧ ∃ q os, w' = grow (W.drewN q) os := by
  have c0 : W.cell? ⟨B, 0, none⟩ = some (.int .i64 n) := hB.cell 0
  obtain ⟨m1, m2⟩ := mul_bd (A := 80000000) (B := 80000000) (a := (i : Int) + 1) (b := (i : Int) + 1) (by omega) (by omega) (by omega) (by omega)
  have e : (decide (n.toNat < (i + 1) * (i + 1))) = decide (n < ((i : Int) + 1) * ((i : Int) + 1)) := by
    have h1 : (((i + 1) * (i + 1) : Nat) : Int) = ((i : Int) + 1) * ((i : Int) + 1) := by simp
    rw [decide_eq_decide]
    omega
  have HE := Lib.hid e
  clear e
  go_enter Tryz.func127, Tryz.ntmps127
  go_wp2
  go_ret
  exact ⟨by rw [HE.out]; rfl, 0, #[], by rw [grow_empty]; rfl⟩

set_option maxHeartbeats 1000000 in
theorem root_any (n : Int) (w : World) (hn : 0 ≤ n ∧ n ≤ 6400000160000000) :
    Calls Tryz.prog 120 #[.int .i64 n] w fun e w' => e = .returned (.int .i64 (rt n.toNat)) ∧ G w w' := by
  have hC := fun (W : World) (hB : Blk W w.heap.size 3 #[.int .i64 n]) =>
    Any.sort_Search Tryz.searchL 127 #[.pointer (some ⟨w.heap.size, 0, none⟩)] 80000000 (fun i => decide (n.toNat < (i + 1) * (i + 1))) W (enters_of Tryz.func127 (by kernel_rfl) rfl) (by decide)
      (fun m os i hi => rootFn_any n i w.heap.size _ hn hi (hB.keep (grow_G W m os)))
      (fun a b hab hb h => by
        have := Nat.mul_le_mul (show a + 1 ≤ b + 1 by omega) (show a + 1 ≤ b + 1 by omega)
        exact decide_eq_true (Nat.lt_of_lt_of_le (of_decide_eq_true h) this))
  rw [rt_count n.toNat 80000000 (by omega) (by omega)] at hC
  change ∀ W _, Calls Tryz.prog 126 _ _ _ at hC
  go_enter Tryz.func120, Tryz.ntmps120
  go_wp2_with (go_at_call 126; refine (hC _ (Blk.new _ _ _)).mono ?_; rintro e w' ⟨rfl, q, os, rfl⟩)
  go_ret
  exact ⟨rfl, ((G.rf _).a _).t (grow_G _ _ _)⟩

set_option maxHeartbeats 1000000 in
theorem down_any (n : Int) (w : World) (hn : 0 ≤ n ∧ n ≤ 6400000160000000) :
    Calls Tryz.prog 118 #[.int .i64 n] w fun e w' => e = .returned (.int .i64 ((rt n.toNat / 2 : Nat))) ∧ G w w' := by
  have hb := rt_le n.toNat 80000000 (by omega) (by omega)
  have hC := root_any n w hn
  generalize rt n.toNat = r at hC hb ⊢
  go_enter Tryz.func118, Tryz.ntmps118
  go_wp2_with (go_at_call 120; refine hC.mono ?_; rintro e w' ⟨rfl, hG⟩)
  go_ret
  exact ⟨by simp, hG⟩

def rtUp (n : Nat) : Nat := if rt n * rt n < n then rt n + 1 else rt n
set_option maxHeartbeats 1000000 in
theorem rootAbove_any (n : Int) (w : World) (hn : 0 ≤ n ∧ n ≤ 6400000160000000) :
    Calls Tryz.prog 122 #[.int .i64 n] w fun e w' => e = .returned (.int .i64 (rtUp n.toNat)) ∧ G w w' := by
  have hb := rt_le n.toNat 80000000 (by omega) (by omega)
  have hC := root_any n w hn
  have HU : Hid (rtUp n.toNat = if rt n.toNat * rt n.toNat < n.toNat then rt n.toNat + 1 else rt n.toNat) := rfl
  generalize rt n.toNat = r at hC hb HU
  obtain ⟨m1, m2⟩ := mul_bd (A := 80000000) (B := 80000000) (a := (r : Int)) (b := (r : Int)) (by omega) (by omega) (by omega) (by omega)
  by_cases hlt : (r : Int) * r < n
  · have e : rtUp n.toNat = r + 1 := by
      rw [HU.out, if_pos]
      have h1 : ((r * r : Nat) : Int) = (r : Int) * r := by simp
      omega
    have HE := Lib.hid e
    clear e
    go_enter Tryz.func122, Tryz.ntmps122
    go_wp2_with (go_at_call 120; refine hC.mono ?_; rintro e w' ⟨rfl, hG⟩)
    go_ret
    exact ⟨by rw [HE.out]; simp, hG⟩
  · have e : rtUp n.toNat = r := by
      rw [HU.out, if_neg]
      have h1 : ((r * r : Nat) : Int) = (r : Int) * r := by simp
      omega
    have HE := Lib.hid e
    clear e
    go_enter Tryz.func122, Tryz.ntmps122
    go_wp2_with (go_at_call 120; refine hC.mono ?_; rintro e w' ⟨rfl, hG⟩)
    go_ret
    exact ⟨by rw [HE.out]; rfl, hG⟩

set_option maxHeartbeats 1000000 in
theorem near2_any (n : Int) (w : World) (hn : 0 ≤ n ∧ n ≤ 6400000160000000) :
    Calls Tryz.prog 119 #[.int .i64 n] w fun e w' => e = .returned (.int .i64 ((rt n.toNat + 1 : Nat))) ∧ G w w' := by
  have hb := rt_le n.toNat 80000000 (by omega) (by omega)
  have hC := root_any n w hn
  generalize rt n.toNat = r at hC hb ⊢
  go_enter Tryz.func119, Tryz.ntmps119
  go_wp2_with (go_at_call 120; refine hC.mono ?_; rintro e w' ⟨rfl, hG⟩)
  go_ret
  exact ⟨by simp, hG⟩

theorem rtUp_le (n : Nat) (h : n ≤ 6400000160000000) : rtUp n ≤ 80000001 := by
  have := rt_le n 80000000 (by omega) (by omega)
  unfold rtUp; split <;> omega

set_option maxHeartbeats 1000000 in
theorem up2_any (n : Int) (w : World) (hn : 0 ≤ n ∧ n ≤ 6400000160000000) :
    Calls Tryz.prog 121 #[.int .i64 n] w fun e w' => e = .returned (.int .i64 ((rtUp n.toNat + 1 : Nat))) ∧ G w w' := by
  have hb := rtUp_le n.toNat (by omega)
  have hC := rootAbove_any n w hn
  generalize rtUp n.toNat = r at hC hb ⊢
  go_enter Tryz.func121, Tryz.ntmps121
  go_wp2_with (go_at_call 122; refine hC.mono ?_; rintro e w' ⟨rfl, hG⟩)
  go_ret
  exact ⟨by simp, hG⟩

set_option maxHeartbeats 1000000 in
/-- the closure 'halved(twice)': its box holds the function value 'twice' -/
theorem halved_any (n : Int) (B g : Nat) (r : Nat) (w : World) (hB : Blk w B 121 #[.func (.func g) #[] #[]]) (eg : ∀ args w, (callFunc g args).run Tryz.prog w = .ok (.enter g args) w)
    (hr : r ≤ 80000002) (hC : Calls Tryz.prog g #[.int .i64 n] w fun e w' => e = .returned (.int .i64 r) ∧ G w w') :
    Calls Tryz.prog 117 #[.int .i64 n, .pointer (some ⟨B, 0, none⟩)] w fun e w' => e = .returned (.int .i64 ((r / 2 : Nat))) ∧ G w w' := by
  have c0 : w.cell? ⟨B, 0, none⟩ = some (.func (.func g) #[] #[]) := hB.cell 0
  go_enter Tryz.func117, Tryz.ntmps117
  go_wp2_with (go_at_fn g; refine hC.mono ?_; rintro e w' ⟨rfl, hG⟩)
  go_ret
  exact ⟨by simp, hG⟩
end Go.Proofs.YtcekdljjmfkacaaGreat
set_option linter.unusedSimpArgs false
set_option linter.unusedVariables false
namespace Go.Proofs.YtcekdljjmfkacaaGreat
open Go.RowKit

def rnd (rule : Int) (n : Nat) : Nat := if rule = 0 then rt n / 2 else if rule = 1 then (rt n + 1) / 2 else (rtUp n + 1) / 2

def RoundAt (w : World) (f : Value) (rule : Int) : Prop := ∃ g lb, f = .func (.func g) #[] lb ∧ (∀ args w, (callFunc g args).run Tryz.prog w = .ok (.enter g args) w) ∧
  ∀ W n, G w W → 0 ≤ n → n ≤ 6400000160000000 → Calls Tryz.prog g (#[.int .i64 n] ++ lb) W fun e w' => e = .returned (.int .i64 (rnd rule n.toNat)) ∧ G W w'

def RoundPost (w : World) (rule : Int) (e : Ending) (w' : World) : Prop := ∃ f, e = .returned (.tuple #[f, .bool true]) ∧ G w w' ∧ RoundAt w' f rule

set_option maxHeartbeats 1000000 in
theorem rounding_bad (rule : Int) (w : World) (h : rule < 0 ∨ 2 < rule) :
    Calls Tryz.prog 102 #[.int .i64 rule] w fun e w' => e = .returned (.tuple #[.nilFunc, .bool false]) ∧ G w w' := by
  have h0 : (rule == 0) = false := by simp; omega
  have h1 : (rule == 1) = false := by simp; omega
  have h2 : (rule == 2) = false := by simp; omega
  clear h
  go_enter Tryz.func102, Tryz.ntmps102
  go_wp2
  go_ret2
  exact ⟨rfl, G.rf _⟩

set_option maxHeartbeats 1000000 in
theorem rounding_ok (rule : Int) (w : World) (h : 0 ≤ rule ∧ rule ≤ 2) : Calls Tryz.prog 102 #[.int .i64 rule] w (RoundPost w rule) := by
  have h : rule = 0 ∨ rule = 1 ∨ rule = 2 := by omega
  rcases h with rfl | rfl | rfl
  · go_enter Tryz.func102, Tryz.ntmps102
    go_wp2
    go_ret2
    exact ⟨_, rfl, G.rf _, 118, #[], rfl, enters_of Tryz.func118 (by kernel_rfl) rfl, fun W n hW h0 h1 => down_any n W ⟨h0, h1⟩⟩
  · go_enter Tryz.func102, Tryz.ntmps102
    go_wp2
    go_ret2
    refine ⟨_, rfl, (G.rf _).a _, 117, #[.pointer (some ⟨w.heap.size, 0, none⟩)], rfl, enters_of Tryz.func117 (by kernel_rfl) rfl, fun W n hW h0 h1 => ?_⟩
    have hb := rt_le n.toNat 80000000 (by omega) (by omega)
    exact halved_any n w.heap.size 119 (rt n.toNat + 1) W ((Blk.new w 121 _).keep hW) (enters_of Tryz.func119 (by kernel_rfl) rfl) (by omega) (near2_any n W ⟨h0, h1⟩)
  · go_enter Tryz.func102, Tryz.ntmps102
    go_wp2
    go_ret2
    refine ⟨_, rfl, (G.rf _).a _, 117, #[.pointer (some ⟨w.heap.size, 0, none⟩)], rfl, enters_of Tryz.func117 (by kernel_rfl) rfl, fun W n hW h0 h1 => ?_⟩
    have hb := rtUp_le n.toNat (by omega)
    exact halved_any n w.heap.size 121 (rtUp n.toNat + 1) W ((Blk.new w 121 _).keep hW) (enters_of Tryz.func121 (by kernel_rfl) rfl) (by omega) (up2_any n W ⟨h0, h1⟩)
end Go.Proofs.YtcekdljjmfkacaaGreat
set_option linter.unusedSimpArgs false
set_option linter.unusedVariables false
namespace Go.Proofs.YtcekdljjmfkacaaGreat
open Go.RowKit

theorem sq_bd {north cols lofts wrong ax bx : Int} {p q : Nat} {east : List Int} (hv : validMapB north cols east lofts wrong = true) (hp : p < east.length) (hq : q < east.length)
    (h1 : isInB ax 0 (cols - 1) = true) (h2 : isInB bx 0 (cols - 1) = true) : 0 ≤ sqI north east ax p bx q ∧ sqI north east ax p bx q ≤ 2592000000000000 := by
  obtain ⟨hc, hlo, hw, hno, hel, hx⟩ := vm_bounds hv
  simp [isInB] at h1 h2
  have b1 := hx _ (show east.getD p 0 ∈ east by simp [hp])
  have b2 := hx _ (show east.getD q 0 ∈ east by simp [hq])
  unfold sqI
  simp only [Int.toNat_natCast]
  generalize east.getD p 0 = x at *
  generalize east.getD q 0 = y at *
  obtain ⟨n1, n2⟩ := mul_bd (A := 4000000) (B := 9) (a := 2 * north) (b := (p : Int) - q) (by omega) (by omega) (by omega) (by omega)
  obtain ⟨m1, m2⟩ := mul_bd (A := 4000000) (B := 9) (a := x + y) (b := ax - bx) (by omega) (by omega) (by omega) (by omega)
  obtain ⟨n3, n4⟩ := mul_bd (A := 36000000) (B := 36000000) (a := 2 * north * ((p : Int) - q)) (b := 2 * north * ((p : Int) - q)) (by omega) (by omega) (by omega) (by omega)
  obtain ⟨m3, m4⟩ := mul_bd (A := 36000000) (B := 36000000) (a := (x + y) * (ax - bx)) (b := (x + y) * (ax - bx)) (by omega) (by omega) (by omega) (by omega)
  have s1 : 0 ≤ (2 * north * ((p : Int) - q)) * (2 * north * ((p : Int) - q)) := by
    rcases Int.le_total 0 (2 * north * ((p : Int) - q)) with h | h
    · exact Int.mul_nonneg h h
    · exact Int.mul_nonneg_of_nonpos_of_nonpos h h
  have s2 : 0 ≤ ((x + y) * (ax - bx)) * ((x + y) * (ax - bx)) := by
    rcases Int.le_total 0 ((x + y) * (ax - bx)) with h | h
    · exact Int.mul_nonneg h h
    · exact Int.mul_nonneg_of_nonpos_of_nonpos h h
  omega

abbrev mapV (north cols : Int) (ea : Option Addr) (el ec : Nat) (lofts : Int) (sa : Option Addr) (sl sc : Nat) (wrong : Int) : Value :=
  .agg #[.int .i64 north, .int .i64 cols, .slice ea el ec, .int .i64 lofts, .slice sa sl sc, .int .i64 wrong]

theorem checkE_ok {north cols lofts wrong : Int} {east : List Int} {svs : List Sv} (h : checkE north cols east lofts svs wrong = 0) : validMapB north cols east lofts wrong = true := by
  unfold checkE at h
  cases hv : validMapB north cols east lofts wrong
  · simp [hv] at h
  · rfl

section
variable {north cols lofts wrong ax ay bx bY : Int} {east : List Int} {svs : List Sv} {ea sa : Option Addr} {ec sc : Nat} {w : World}

set_option maxHeartbeats 2000000 in
theorem Length_err (rule : Int) (he : IntsAt w ea east) (hs : SvsAt w sa svs) (hl : east.length ≤ 9223372036854775807) (hl2 : svs.length ≤ 9223372036854775807)
    (hk : (checkE north cols east lofts svs wrong == 0) = false) :
    Calls Tryz.prog 78 #[.agg #[.int .i64 north, .int .i64 cols, .slice ea east.length ec, .int .i64 lofts, .slice sa svs.length sc, .int .i64 wrong], .agg #[.int .i64 ax, .int .i64 ay], .agg #[.int .i64 bx, .int .i64 bY], .int .i64 rule] w fun e w' =>
    e = .returned (.tuple #[.int .i64 0, .int .i64 (checkE north cols east lofts svs wrong)]) ∧ G w w' := by
  have hC := fun (W : World) (hW : G w W) => Check_any north cols lofts wrong east svs ea sa ec sc W (he.below hW) (hs.below hW) hl hl2
  have hk2 : (checkE north cols east lofts svs wrong != 0) = true := by simp [bne, hk]
  generalize checkE north cols east lofts svs wrong = ce at *
  have hG3 : G w (((w.alloc (.cells #[.int .i64 north, .int .i64 cols, .slice ea east.length ec, .int .i64 lofts, .slice sa svs.length sc, .int .i64 wrong] 25)).alloc (.cells #[.int .i64 ax, .int .i64 ay] 27)).alloc (.cells #[.int .i64 bx, .int .i64 bY] 27)) := (((G.rf _).a _).a _).a _
  have HC := Lib.hid hC
  clear hC
  go_enter Tryz.func78, Tryz.ntmps78
  go_wp2_with (go_at_call 66; refine (HC.out _ hG3).mono ?_; rintro e w' ⟨rfl, hG⟩)
  go_ret2
  exact ⟨rfl, hG3.t hG⟩

theorem sz3 {w W w' : World} (h : G W w') (hz : w.heap.size + 3 ≤ W.heap.size) : w.heap.size < w'.heap.size ∧ w.heap.size + 1 < w'.heap.size ∧ w.heap.size + 1 + 1 < w'.heap.size := by
  have := h.size
  omega

set_option maxHeartbeats 2000000 in
theorem Length_rule (rule : Int) (he : IntsAt w ea east) (hs : SvsAt w sa svs) (hl : east.length ≤ 9223372036854775807) (hl2 : svs.length ≤ 9223372036854775807)
    (hk : checkE north cols east lofts svs wrong = 0) (hr : rule < 0 ∨ 2 < rule) :
    Calls Tryz.prog 78 #[.agg #[.int .i64 north, .int .i64 cols, .slice ea east.length ec, .int .i64 lofts, .slice sa svs.length sc, .int .i64 wrong], .agg #[.int .i64 ax, .int .i64 ay], .agg #[.int .i64 bx, .int .i64 bY], .int .i64 rule] w fun e w' =>
    e = .returned (.tuple #[.int .i64 0, .int .i64 1]) ∧ G w w' := by
  have hv := checkE_ok hk
  have hvb := vm_bounds hv
  have hcb : 0 ≤ cols ∧ cols ≤ 9223372036854775807 := by omega
  clear hvb
  have hC := fun (W : World) (hW : G w W) => Check_any north cols lofts wrong east svs ea sa ec sc W (he.below hW) (hs.below hW) hl hl2
  rw [hk] at hC
  have hG3 : G w (((w.alloc (.cells #[.int .i64 north, .int .i64 cols, .slice ea east.length ec, .int .i64 lofts, .slice sa svs.length sc, .int .i64 wrong] 25)).alloc (.cells #[.int .i64 ax, .int .i64 ay] 27)).alloc (.cells #[.int .i64 bx, .int .i64 bY] 27)) := (((G.rf _).a _).a _).a _
  have hz3 : w.heap.size + 3 ≤ (((w.alloc (.cells #[.int .i64 north, .int .i64 cols, .slice ea east.length ec, .int .i64 lofts, .slice sa svs.length sc, .int .i64 wrong] 25)).alloc (.cells #[.int .i64 ax, .int .i64 ay] 27)).alloc (.cells #[.int .i64 bx, .int .i64 bY] 27)).heap.size := by simp
  have HC := Lib.hid hC
  clear hC hk
  go_enter Tryz.func78, Tryz.ntmps78
  go_wp2_with (first | (go_at_call 66; refine (HC.out _ hG3).mono ?_; rintro e w' ⟨rfl, hGx⟩; have hcy := (bcellB hGx).1; have hG := G.t hG3 hGx; obtain ⟨z0, z1, z2⟩ := sz3 (w := w) hGx hz3) | (go_at_call 102; refine (rounding_bad rule _ hr).mono ?_; rintro e w' ⟨rfl, hGx⟩; have hcy := (bcellB hGx).1; have hG := G.t hG hGx; obtain ⟨z0, z1, z2⟩ := sz3 (w := w) hGx (by omega)) | (go_at_call 103; refine (isPlace_any _ _ _ _ _ _ _ _ _ _ _ hcb hl).mono ?_; rintro e w' ⟨rfl, hGx⟩; have hcy := (bcellB hGx).1; have hG := G.t hG hGx; obtain ⟨z0, z1, z2⟩ := sz3 (w := w) hGx (by omega)))
  go_ret2
  exact ⟨rfl, hG⟩

set_option maxHeartbeats 4000000 in
theorem Length_place (rule : Int) (he : IntsAt w ea east) (hs : SvsAt w sa svs) (hl : east.length ≤ 9223372036854775807) (hl2 : svs.length ≤ 9223372036854775807)
    (hk : checkE north cols east lofts svs wrong = 0) (hr : 0 ≤ rule ∧ rule ≤ 2) (hp : isPlaceB cols east.length ax ay = false ∨ (isPlaceB cols east.length ax ay = true ∧ isPlaceB cols east.length bx bY = false)) :
    Calls Tryz.prog 78 #[.agg #[.int .i64 north, .int .i64 cols, .slice ea east.length ec, .int .i64 lofts, .slice sa svs.length sc, .int .i64 wrong], .agg #[.int .i64 ax, .int .i64 ay], .agg #[.int .i64 bx, .int .i64 bY], .int .i64 rule] w fun e w' =>
    e = .returned (.tuple #[.int .i64 0, .int .i64 1]) ∧ G w w' := by
  have hv := checkE_ok hk
  have hvb := vm_bounds hv
  have hcb : 0 ≤ cols ∧ cols ≤ 9223372036854775807 := by omega
  clear hvb
  have hC := fun (W : World) (hW : G w W) => Check_any north cols lofts wrong east svs ea sa ec sc W (he.below hW) (hs.below hW) hl hl2
  rw [hk] at hC
  have hG3 : G w (((w.alloc (.cells #[.int .i64 north, .int .i64 cols, .slice ea east.length ec, .int .i64 lofts, .slice sa svs.length sc, .int .i64 wrong] 25)).alloc (.cells #[.int .i64 ax, .int .i64 ay] 27)).alloc (.cells #[.int .i64 bx, .int .i64 bY] 27)) := (((G.rf _).a _).a _).a _
  have hz3 : w.heap.size + 3 ≤ (((w.alloc (.cells #[.int .i64 north, .int .i64 cols, .slice ea east.length ec, .int .i64 lofts, .slice sa svs.length sc, .int .i64 wrong] 25)).alloc (.cells #[.int .i64 ax, .int .i64 ay] 27)).alloc (.cells #[.int .i64 bx, .int .i64 bY] 27)).heap.size := by simp
  have HC := Lib.hid hC
  clear hC hk
  rcases hp with hp | ⟨hp, hq⟩
  all_goals
    go_enter Tryz.func78, Tryz.ntmps78
    go_wp2_with (first | (go_at_call 66; refine (HC.out _ hG3).mono ?_; rintro e w' ⟨rfl, hGx⟩; have hcy := (bcellB hGx).1; have hG := G.t hG3 hGx; obtain ⟨z0, z1, z2⟩ := sz3 (w := w) hGx hz3) | (go_at_call 102; refine (rounding_ok rule _ hr).mono ?_; rintro e w' ⟨f, rfl, hGx, g, lb, rfl, eg, hRC⟩; have hcy := (bcellB hGx).1; have hG := G.t hG hGx; obtain ⟨z0, z1, z2⟩ := sz3 (w := w) hGx (by omega)) | (go_at_call 103; refine (isPlace_any _ _ _ _ _ _ _ _ _ _ _ hcb hl).mono ?_; rintro e w' ⟨rfl, hGx⟩; have hcy := (bcellB hGx).1; have hG := G.t hG hGx; obtain ⟨z0, z1, z2⟩ := sz3 (w := w) hGx (by omega)))
    go_ret2
    exact ⟨rfl, hG⟩

set_option maxHeartbeats 4000000 in
theorem Length_ok (rule : Int) (p q : Nat) (he : IntsAt w ea east) (hs : SvsAt w sa svs) (hl : east.length ≤ 9223372036854775807) (hl2 : svs.length ≤ 9223372036854775807)
    (hk : checkE north cols east lofts svs wrong = 0) (hr : 0 ≤ rule ∧ rule ≤ 2) (hp : isPlaceB cols east.length ax p = true) (hq : isPlaceB cols east.length bx q = true) :
    Calls Tryz.prog 78 #[.agg #[.int .i64 north, .int .i64 cols, .slice ea east.length ec, .int .i64 lofts, .slice sa svs.length sc, .int .i64 wrong], .agg #[.int .i64 ax, .int .i64 p], .agg #[.int .i64 bx, .int .i64 q], .int .i64 rule] w fun e w' =>
    e = .returned (.tuple #[.int .i64 (rnd rule (sqI north east ax p bx q).toNat), .int .i64 0]) ∧ G w w' := by
  have hv := checkE_ok hk
  have hvb := vm_bounds hv
  have hcb : 0 ≤ cols ∧ cols ≤ 9223372036854775807 := by omega
  clear hvb
  have hC := fun (W : World) (hW : G w W) => Check_any north cols lofts wrong east svs ea sa ec sc W (he.below hW) (hs.below hW) hl hl2
  rw [hk] at hC
  have hG3 : G w (((w.alloc (.cells #[.int .i64 north, .int .i64 cols, .slice ea east.length ec, .int .i64 lofts, .slice sa svs.length sc, .int .i64 wrong] 25)).alloc (.cells #[.int .i64 ax, .int .i64 p] 27)).alloc (.cells #[.int .i64 bx, .int .i64 q] 27)) := (((G.rf _).a _).a _).a _
  have hz3 : w.heap.size + 3 ≤ (((w.alloc (.cells #[.int .i64 north, .int .i64 cols, .slice ea east.length ec, .int .i64 lofts, .slice sa svs.length sc, .int .i64 wrong] 25)).alloc (.cells #[.int .i64 ax, .int .i64 p] 27)).alloc (.cells #[.int .i64 bx, .int .i64 q] 27)).heap.size := by simp
  have HC := Lib.hid hC
  clear hC hk
  have hp' : isInB ax 0 (cols - 1) = true ∧ p < east.length := by simp [isPlaceB, isInB] at hp ⊢; omega
  have hq' : isInB bx 0 (cols - 1) = true ∧ q < east.length := by simp [isPlaceB, isInB] at hq ⊢; omega
  have hsb := sq_bd hv hp'.2 hq'.2 hp'.1 hq'.1
  have hSQ := fun (W : World) (hW : G w W) => square_any north cols lofts wrong ax bx p q east ea ec (.slice sa svs.length sc) W (he.below hW) hv hp'.2 hq'.2 hp'.1 hq'.1
  generalize sqI north east ax p bx q = S at hSQ hsb ⊢
  have HSQ := Lib.hid hSQ
  clear hSQ hp' hq' hv
  go_enter Tryz.func78, Tryz.ntmps78
  go_wp2_with (first | (go_at_call 66; refine (HC.out _ hG3).mono ?_; rintro e w' ⟨rfl, hGx⟩; have hcy := (bcellB hGx).1; have hG := G.t hG3 hGx; obtain ⟨z0, z1, z2⟩ := sz3 (w := w) hGx hz3) | (go_at_call 102; refine (rounding_ok rule _ hr).mono ?_; rintro e w' ⟨f, rfl, hGx, g, lb, rfl, eg, hRC⟩; have HRC := Lib.hid hRC; clear hRC; have hR := G.rf w'; have hcy := (bcellB hGx).1; have hG := G.t hG hGx; obtain ⟨z0, z1, z2⟩ := sz3 (w := w) hGx (by omega)) | (go_at_call 103; refine (isPlace_any _ _ _ _ _ _ _ _ _ _ _ hcb hl).mono ?_; rintro e w' ⟨rfl, hGx⟩; have hR := G.t hR hGx; have hcy := (bcellB hGx).1; have hG := G.t hG hGx; obtain ⟨z0, z1, z2⟩ := sz3 (w := w) hGx (by omega)) | (go_at_call 104; refine (HSQ.out _ hG).mono ?_; rintro e w' ⟨rfl, hGx⟩; have hR := G.t hR hGx; have hcy := (bcellB hGx).1; have hG0 := hG; have hG := G.t hG hGx; obtain ⟨z0, z1, z2⟩ := sz3 (w := w) hGx (by omega)))
  refine (HRC.out _ S hR hsb.1 (by omega)).mono ?_
  rintro e w' ⟨rfl, hGx⟩
  go_wp2
  go_ret2
  exact ⟨rfl, hG.t hGx⟩
end
end Go.Proofs.YtcekdljjmfkacaaGreat
set_option linter.unusedSimpArgs false
set_option linter.unusedVariables false
namespace Go.Proofs.YtcekdljjmfkacaaGreat
open Go.RowKit
/-- A world that has grown out of W0: the class for regions that draw their order, whose calls make memory. -/
structure GW (W0 : World) where
  w : World
  g : G W0 w
instance (W0 : World) : Nonempty (GW W0) := ⟨⟨W0, G.rf W0⟩⟩
theorem wp_region_quiet_G {P : Program} {id : Nat} {Q : Exit → Act → World → Prop} {a : Act} {W0 : World} {l : List Oper} (hm : P.follows .mixedOrders = true) (hB : Region.lexB .any l.toArray = true)
    (h : wpQuiet P l.toArray (fun w' => ∃ x : GW W0, w' = x.w) (fun a' => ∀ w', (∃ x : GW W0, w' = x.w) → Q .normal a' w') l a) : (Code.region id l.toArray true).wp P Q a W0 :=
  wp_region_quiet (C := fun w' => ∃ x : GW W0, w' = x.w) hm hB ⟨⟨_, (G.rf W0).d⟩, rfl⟩ (by simpa using h)
theorem Calls.gq {P : Program} {f : FuncId} {args : Array Value} {W0 : World} {x : GW W0} {v : Value}
    (h : Calls P f args x.w fun e w' => e = .returned v ∧ G x.w w') : Calls P f args x.w fun e w'' => e = .returned v ∧ ∃ y : GW W0, w'' = y.w :=
  h.mono fun _ w' ⟨he, hg⟩ => ⟨he, ⟨w', x.g.t hg⟩, rfl⟩
theorem GW.cell {W0 : World} {b o : Nat} {v : Value} (h : W0.cell? ⟨b, o, none⟩ = some v) (hb : b < W0.heap.size) : ∀ x : GW W0, x.w.cell? ⟨b, o, none⟩ = some v := fun x => ((bcellB x.g).1 b o hb).trans h
theorem Blk.gw {W0 : World} {g : Nat} {t : TypeId} {cs : Array Value} (h : Blk W0 g t cs) (i : Nat) {v : Value} (hv : cs[i]? = some v) : ∀ x : GW W0, x.w.cell? ⟨g, i, none⟩ = some v := fun x => ((h.keep x.g).cell i).trans hv

def holdsB (north : Int) (east : List Int) (s : Sv) (x y : Int) : Bool :=
  if s.kind = 1 then isInB x s.xl s.xh && isInB y s.yl s.yh else isInB ((rt (sqI north east s.ax s.ay x y).toNat / 2 : Nat)) s.dl s.dh

theorem svOk_tape {cols lofts : Int} {rows : Nat} {s : Sv} (h : svOk cols rows lofts s = true) (hk : ¬ s.kind = 1) : isPlaceB cols rows s.ax s.ay = true ∧ s.kind = 2 ∧ 0 ≤ s.dl ∧ s.dl ≤ s.dh ∧ s.dh ≤ 100000000 := by
  unfold svOk validSurveyB at h
  rw [if_neg hk] at h
  by_cases h2 : s.kind = 2
  · rw [if_pos h2] at h
    simp only [Bool.and_eq_true, isSpanB, decide_eq_true_eq] at h
    exact ⟨h.2.2.2.1, h2, by omega, by omega, by omega⟩
  · rw [if_neg h2] at h; simp at h

end Go.Proofs.YtcekdljjmfkacaaGreat
set_option linter.unusedSimpArgs false
set_option linter.unusedVariables false
namespace Go.Proofs.YtcekdljjmfkacaaGreat
open Go.RowKit

def badB (north : Int) (east : List Int) (loft x y : Int) (s : Sv) : Bool := (s.loft == loft) && !holdsB north east s x y
def wrongN (north : Int) (east : List Int) (svs : List Sv) (loft x y : Int) : Nat := (svs.filter (badB north east loft x y)).length

theorem filter_take_succ {α : Type} [Inhabited α] (p : α → Bool) (l : List α) (k : Nat) (h : k < l.length) : ((l.take (k + 1)).filter p).length = ((l.take k).filter p).length + (if p (l.getD k default) then 1 else 0) := by
  rw [List.take_succ_eq_append_getElem h, List.filter_append]
  have : l.getD k default = l[k] := by simp [h]
  rw [this]
  cases hp : p l[k] <;> simp [hp]

end Go.Proofs.YtcekdljjmfkacaaGreat
