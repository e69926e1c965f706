import Derived.WalkKit
import Derived.Below
import Derived.BigQuiet
import Derived.Deep.QuietTactic
import Derived.Lib.Hide
import Derived.WalkSpells
import Derived.Outline
import Derived.Test.YtpjfdfddcnocpaaProg
set_option linter.unusedSimpArgs false
set_option linter.unusedVariables false
namespace Go.Proofs.Ytpjfdfddcnocpaa
open Go.RowKit

theorem bcell {W w1 : World} (hb : Below W.heap.size W w1) : (∀ b o, b < W.heap.size → w1.cell? ⟨b, o, none⟩ = W.cell? ⟨b, o, none⟩) ∧ (∀ b o, b < W.heap.size → w1.frozen? ⟨b, o, none⟩ = W.frozen? ⟨b, o, none⟩) :=
  ⟨fun b o h => hb.cell (p := ⟨b, o, none⟩) h, fun b o h => hb.frozen (p := ⟨b, o, none⟩) h⟩

def isInB (n lo hi : Int) : Bool := decide (lo ≤ n) && decide (n ≤ hi)
def isScaleB (n : Int) : Bool := isInB n 1 2000000

theorem isIn_any (n lo hi : Int) (w : World) : Calls Try.prog 62 #[.int .i64 n, .agg #[.int .i64 lo, .int .i64 hi]] w fun e w' =>
    e = .returned (.bool (isInB n lo hi)) ∧ Below w.heap.size w w' := by
  by_cases h1 : lo ≤ n
  · go_enter Try.func62, Try.ntmps62
    go_wp2
    go_ret
    exact ⟨by simp [isInB, h1], (Below.refl _ _).alloc (Nat.le_refl _) _⟩
  · go_enter Try.func62, Try.ntmps62
    go_wp2
    go_ret
    exact ⟨by unfold isInB; rw [decide_eq_false (by omega)]; rfl, (Below.refl _ _).alloc (Nat.le_refl _) _⟩

theorem isScale_any (n : Int) (w : World) : Calls Try.prog 96 #[.int .i64 n] w fun e w' =>
    e = .returned (.bool (isScaleB n)) ∧ Below w.heap.size w w' := by
  go_enter Try.func96, Try.ntmps96
  go_wp2_with (go_at_call 62; refine (isIn_any _ _ _ _).mono ?_; rintro e w' ⟨rfl, hb⟩)
  go_ret
  exact ⟨rfl, hb⟩

def IntsAt (w : World) (a : Option Addr) (l : List Int) : Prop := l = [] ∨ ∃ b off, a = some ⟨b, off, none⟩ ∧ b < w.heap.size ∧ ∀ k, k < l.length → w.cell? ⟨b, off + k, none⟩ = some (.int .i64 (l.getD k 0))

theorem bcellB {B : Nat} {W w1 : World} (hb : Below B W w1) : (∀ b o, b < B → w1.cell? ⟨b, o, none⟩ = W.cell? ⟨b, o, none⟩) ∧ (∀ b o, b < B → w1.frozen? ⟨b, o, none⟩ = W.frozen? ⟨b, o, none⟩) :=
  ⟨fun b o h => hb.cell (p := ⟨b, o, none⟩) h, fun b o h => hb.frozen (p := ⟨b, o, none⟩) h⟩

theorem IntsAt.below {w w' : World} {a : Option Addr} {l : List Int} (h : IntsAt w a l) (hb : Below w.heap.size w w') : IntsAt w' a l := by
  rcases h with rfl | ⟨b, off, rfl, hlt, hc⟩
  · exact .inl rfl
  · exact .inr ⟨b, off, rfl, Nat.lt_of_lt_of_le hlt hb.size, fun k hk => (hb.cell (p := ⟨b, off + k, none⟩) hlt).trans (hc k hk)⟩

def validMapB (north cols : Int) (east : List Int) (lofts wrong : Int) : Bool :=
  east.all isScaleB && (isInB east.length 1 10 && (isInB cols 1 10 && (isScaleB north && (isInB lofts 1 8 && isInB wrong 0 3))))

theorem all_take_succ (p : Int → Bool) (l : List Int) (k : Nat) (h : k < l.length) : (l.take (k + 1)).all p = ((l.take k).all p && p (l.getD k 0)) := by
  rw [List.take_succ_eq_append_getElem h, List.all_append]
  simp [h]
theorem all_false (p : Int → Bool) (l : List Int) (k : Nat) (h : k < l.length) (hp : p (l.getD k 0) = false) : l.all p = false := by
  rw [List.all_eq_false]
  refine ⟨l[k], List.getElem_mem h, ?_⟩
  simp [h] at hp
  simp [hp]


abbrev G (w w' : World) : Prop := Below w.heap.size w w'
theorem G.rf (w : World) : G w w := Below.refl _ _
theorem G.t {a b c : World} (h : G a b) (k : G b c) : G a c := h.trans (k.mono h.size)
theorem G.a {a b : World} (h : G a b) (o : Obj) : G a (b.alloc o) := Below.alloc h h.size o
theorem G.d {a b : World} (h : G a b) : G a b.drew := ⟨h.os, h.tape, h.output, h.size, h.block⟩
theorem G.dn {a b : World} (h : G a b) (n : Nat) : G a (b.drewN n) := ⟨h.os, h.tape, h.output, h.size, h.block⟩
theorem G.s {a b : World} (h : G a b) {p : Addr} (hp : a.heap.size ≤ p.block) (v : Value) : G a (b.setCell p v) := Below.setCell h hp v

theorem and5 (a b c d e : Bool) : a = false ∨ (a = true ∧ b = false) ∨ (a = true ∧ b = true ∧ c = false) ∨ (a = true ∧ b = true ∧ c = true ∧ d = false) ∨ (a = true ∧ b = true ∧ c = true ∧ d = true) := by
  cases a <;> cases b <;> cases c <;> cases d <;> simp

set_option maxHeartbeats 1000000 in
theorem validMap_any (north cols lofts wrong : Int) (east : List Int) (ea sa : Option Addr) (ec sl sc : Nat) (w : World) (he : IntsAt w ea east) (hl : east.length ≤ 9223372036854775807) :
    Calls Try.prog 66 #[.agg #[.int .i64 north, .int .i64 cols, .slice ea east.length ec, .int .i64 lofts, .slice sa sl sc, .int .i64 wrong]] w fun e w' =>
    e = .returned (.bool (validMapB north cols east lofts wrong)) ∧ G w w' := by
  go_enter Try.func66, Try.ntmps66
  go_wp2
  obtain ⟨W0, hW0⟩ : ∃ W0, (w.alloc (.cells #[.int .i64 north, .int .i64 cols, .slice ea east.length ec, .int .i64 lofts, .slice sa sl sc, .int .i64 wrong] 25)) = W0 := ⟨_, rfl⟩
  have hB0 : G w W0 := by rw [← hW0]; exact (G.rf _).a _
  have hsz : W0.heap.size = w.heap.size + 1 := by rw [← hW0]; simp
  have m0 : W0.cell? ⟨w.heap.size, 0, none⟩ = some (.int .i64 north) := by rw [← hW0]; simp
  have m1 : W0.cell? ⟨w.heap.size, 1, none⟩ = some (.int .i64 cols) := by rw [← hW0]; simp
  have m2 : W0.cell? ⟨w.heap.size, 2, none⟩ = some (.slice ea east.length ec) := by rw [← hW0]; simp
  have m3 : W0.cell? ⟨w.heap.size, 3, none⟩ = some (.int .i64 lofts) := by rw [← hW0]; simp
  have m5 : W0.cell? ⟨w.heap.size, 5, none⟩ = some (.int .i64 wrong) := by rw [← hW0]; simp
  rw [hW0]
  clear hW0
  go_loopw [8] (fun i wr => ∃ k : Nat, k ≤ east.length ∧ i = .int .i64 k ∧ Hid ((east.take k).all isScaleB = true) ∧ G W0 wr) (fun i _ => east.length - (intOf i).toNat)
  case atStart => exact ⟨0, Nat.zero_le _, rfl, Lib.hid rfl, G.rf _⟩
  case round =>
    obtain ⟨k, hk, rfl, hall, hb0⟩ := hrel
    obtain ⟨hc, hf⟩ := bcellB hb0
    have hlo : w.heap.size < wr.heap.size := by have := hb0.size; omega
    by_cases hlt : k < east.length
    · have he' := he.below (hB0.t hb0)
      rcases he' with rfl | ⟨b, off, rfl, hbb, hcell⟩
      · simp at hlt
      have hcx := hcell k hlt
      have hs1 := all_take_succ isScaleB east k hlt
      have hs2 := all_false isScaleB east k hlt
      generalize east.getD k 0 = x at hcx hs1 hs2
      clear hcell he
      cases hx : isScaleB x
      · have H2 := Lib.hid (hs2 hx)
        clear hs1 hs2
        go_wp2_with (go_at_call 96; refine (isScale_any _ _).mono ?_; rintro e w' ⟨rfl, hb1⟩)
        go_ret
        exact ⟨by simp [validMapB, H2.out], (hB0.t hb0).t hb1⟩
      · have H1 := Lib.hid hs1
        clear hs1 hs2
        go_wp2_with (go_at_call 96; refine (isScale_any _ _).mono ?_; rintro e w' ⟨rfl, hb1⟩)
        go_roundw
        case rel => exact ⟨k + 1, by omega, by go_num, Lib.hid (by rw [H1.out, hall.out, hx]; rfl), hb0.t hb1⟩
        case measure => simp [intOf]; omega
    · have HA : Hid (validMapB north cols east lofts wrong = (isInB east.length 1 10 && (isInB cols 1 10 && (isScaleB north && (isInB lofts 1 8 && isInB wrong 0 3))))) := by
        have : east.take k = east := List.take_of_length_le (by omega)
        have h2 := hall.out; rw [this] at h2
        exact (by unfold validMapB; rw [h2]; rfl)
      have hG : G w wr := hB0.t hb0
      clear hall he
      rcases and5 (isInB east.length 1 10) (isInB cols 1 10) (isScaleB north) (isInB lofts 1 8) (isInB wrong 0 3) with h1 | ⟨h1, h2⟩ | ⟨h1, h2, h3⟩ | ⟨h1, h2, h3, h4⟩ | ⟨h1, h2, h3, h4⟩
      all_goals
        go_wp2_with (first | (go_at_call 96; refine (isScale_any _ _).mono ?_; rintro e w' ⟨rfl, hbx⟩; have hcy := (bcellB hbx).1; have hsy : w.heap.size < w'.heap.size := (by have := hbx.size; omega); have hG := G.t hG hbx) | (go_at_call 62; refine (isIn_any _ _ _ _).mono ?_; rintro e w' ⟨rfl, hbx⟩; have hcy := (bcellB hbx).1; have hsy : w.heap.size < w'.heap.size := (by have := hbx.size; omega); have hG := G.t hG hbx))
        go_ret
        exact ⟨by rw [HA.out]; simp [*], hG⟩

def isSpanB (lo hi last : Int) : Bool := decide (0 ≤ lo) && (decide (lo ≤ hi) && decide (hi ≤ last))
theorem isSpan_any (lo hi last : Int) (w : World) : Calls Try.prog 97 #[.agg #[.int .i64 lo, .int .i64 hi], .int .i64 last] w fun e w' =>
    e = .returned (.bool (isSpanB lo hi last)) ∧ G w w' := by
  have h : ¬ 0 ≤ lo ∨ (0 ≤ lo ∧ ¬ lo ≤ hi) ∨ (0 ≤ lo ∧ lo ≤ hi) := by omega
  rcases h with h1 | ⟨h1, h2⟩ | ⟨h1, h2⟩
  all_goals
    go_enter Try.func97, Try.ntmps97
    go_wp2
    go_ret
    refine ⟨?_, (G.rf _).a _⟩
  · unfold isSpanB; rw [decide_eq_false (by omega)]; rfl
  · unfold isSpanB; rw [decide_eq_true h1, decide_eq_false (p := lo ≤ hi) (by omega)]; rfl
  · unfold isSpanB; rw [decide_eq_true h1, decide_eq_true h2]; rfl

theorem isLoft_any (north cols lofts wrong n : Int) (e s : Value) (w : World) (hl : 0 ≤ lofts ∧ lofts ≤ 9223372036854775807) :
    Calls Try.prog 86 #[.agg #[.int .i64 north, .int .i64 cols, e, .int .i64 lofts, s, .int .i64 wrong], .int .i64 n] w fun e w' =>
    e = .returned (.bool (isInB n 0 (lofts - 1))) ∧ G w w' := by
  go_enter Try.func86, Try.ntmps86
  go_wp2_with (go_at_call 62; refine (isIn_any _ _ _ _).mono ?_; rintro e w' ⟨rfl, hb⟩)
  go_ret
  exact ⟨rfl, ((G.rf _).a _).t hb⟩
end Go.Proofs.Ytpjfdfddcnocpaa
