import Derived.Test.YtpjfdfddcnocpaaGb
import Derived.Test.YtpjfdfddcnocpaaMc
set_option linter.unusedSimpArgs false
set_option linter.unusedVariables false
namespace Go.Proofs.Ytpjfdfddcnocpaa
open Go.RowKit
attribute [local go_sem] Oper.semAt_some

def isP (x y : Int) (p : Nat × Nat) : Bool := (p.1 : Int) == x && (p.2 : Int) == y
set_option maxHeartbeats 2000000 in
theorem has_any (g cap : Nat) (P : List (Nat × Nat)) (x y : Int) (w : World) (hg : g < w.heap.size) (hP : PtsAt w g P) (hl : P.length ≤ 1000000) :
    Calls Try.prog 23 #[.slice (some ⟨g, 0, none⟩) P.length cap, .agg #[.int .i64 x, .int .i64 y]] w fun e w' => e = .returned (.bool (P.any (isP x y))) ∧ G w w' := by
  have b0 := Blk.new w 27 #[.int .i64 x, .int .i64 y]
  have g0 := (G.rf w).a (.cells #[.int .i64 x, .int .i64 y] 27)
  go_enter Try.func23, Try.ntmps23
  go_wp2
  go_loopw [5] (fun i wr => ∃ k : Nat, k ≤ P.length ∧ i = .int .i64 k ∧ Hid ((P.take k).any (isP x y) = false) ∧ G (w.alloc (.cells #[.int .i64 x, .int .i64 y] 27)) wr) (fun i _ => P.length - (intOf i).toNat)
  case atStart => exact ⟨0, Nat.zero_le _, rfl, rfl, G.rf _⟩
  case round =>
    obtain ⟨k, hk, rfl, hno, hG⟩ := hrel
    by_cases hlt : k < P.length
    · obtain ⟨c1, c2⟩ := (hP.keep hg g0).keep (Nat.lt_of_lt_of_le hg g0.size) hG k hlt
      have b1 := b0.keep hG
      have x0 := b1.cell 0
      have x1 := b1.cell 1
      have hs := any_take_succ (isP x y) P (0, 0) k hlt
      rw [hno.out, Bool.false_or] at hs
      have hmem : P.getD k (0, 0) ∈ P := by simp [hlt]
      generalize P.getD k (0, 0) = p at *
      have q := eq27 p.1 p.2 x y
      have HS : Hid ((P.take (k + 1)).any (isP x y) = ((p.1 : Int) == x && (p.2 : Int) == y)) := hs
      have HM := Lib.hid hmem
      have HG := Lib.hid hG
      clear hs hmem hP b0 b1 hG
      cases hb : ((p.1 : Int) == x && (p.2 : Int) == y)
      · rw [hb] at q HS
        have HB := Lib.hid hb
        clear hb
        go_wp2
        go_quiet (fail)
        go_wp2
        go_roundw
        case rel => exact ⟨k + 1, by omega, by go_num, HS, HG.out.dn _⟩
        case measure => simp [intOf]; omega
      · rw [hb] at q HS
        have hfin : Hid (P.any (isP x y) = true) := List.any_eq_true.2 ⟨p, HM.out, hb⟩
        clear hb
        go_wp2
        go_quiet (fail)
        go_wp2
        go_ret
        exact ⟨by rw [hfin.out]; rfl, (g0.t HG.out).dn _⟩
    · have : P.take k = P := List.take_of_length_le (by omega)
      rw [this] at hno
      have HG := Lib.hid hG
      clear hG this
      go_wp2
      go_ret
      exact ⟨by rw [hno.out]; rfl, g0.t HG.out⟩
end Go.Proofs.Ytpjfdfddcnocpaa
