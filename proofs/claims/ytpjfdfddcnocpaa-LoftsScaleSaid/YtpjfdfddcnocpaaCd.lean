import Derived.Test.YtpjfdfddcnocpaaCc
import Derived.Test.YtpjfdfddcnocpaaCw
import Derived.BigQuiet
import Derived.Deep.QuietTactic
import Derived.IntWalk
set_option linter.unusedSimpArgs false
set_option linter.unusedVariables false
namespace Go.Proofs.Ytpjfdfddcnocpaa
open Go.RowKit

def sqI (north : Int) (east : List Int) (ax ay bx bY : Int) : Int :=
  (2 * north * (ay - bY)) * (2 * north * (ay - bY)) + ((east.getD ay.toNat 0 + east.getD bY.toNat 0) * (ax - bx)) * ((east.getD ay.toNat 0 + east.getD bY.toNat 0) * (ax - bx))

theorem mul_bd {a b A B : Int} (h1 : -A ≤ a) (h2 : a ≤ A) (h3 : -B ≤ b) (h4 : b ≤ B) : -(A * B) ≤ a * b ∧ a * b ≤ A * B := by
  have hA : 0 ≤ A := by omega
  have hB : 0 ≤ B := by omega
  have e1 : 0 ≤ (A - a) * (B + b) := Int.mul_nonneg (by omega) (by omega)
  have e2 : 0 ≤ (A + a) * (B - b) := Int.mul_nonneg (by omega) (by omega)
  have e3 : 0 ≤ (A - a) * (B - b) := Int.mul_nonneg (by omega) (by omega)
  have e4 : 0 ≤ (A + a) * (B + b) := Int.mul_nonneg (by omega) (by omega)
  have x1 : (A - a) * (B + b) = A * B + A * b - a * B - a * b := by rw [Int.sub_mul, Int.mul_add, Int.mul_add]; omega
  have x2 : (A + a) * (B - b) = A * B - A * b + a * B - a * b := by rw [Int.add_mul, Int.mul_sub, Int.mul_sub]; omega
  have x3 : (A - a) * (B - b) = A * B - A * b - a * B + a * b := by rw [Int.sub_mul, Int.mul_sub, Int.mul_sub]; omega
  have x4 : (A + a) * (B + b) = A * B + A * b + a * B + a * b := by rw [Int.add_mul, Int.mul_add, Int.mul_add]; omega
  omega

set_option maxHeartbeats 1000000 in
theorem square_any (north cols lofts wrong ax bx : Int) (p q : Nat) (east : List Int) (ea : Option Addr) (ec : Nat) (s : Value) (w : World) (he : IntsAt w ea east)
    (hv : validMapB north cols east lofts wrong = true) (hp : p < east.length) (hq : q < east.length) (h1 : isInB ax 0 (cols - 1) = true) (h2 : isInB bx 0 (cols - 1) = true) :
    Calls Try.prog 55 #[.agg #[.int .i64 north, .int .i64 cols, .slice ea east.length ec, .int .i64 lofts, s, .int .i64 wrong], .agg #[.int .i64 ax, .int .i64 p], .agg #[.int .i64 bx, .int .i64 q]] w fun e w' =>
    e = .returned (.int .i64 (sqI north east ax p bx q)) ∧ G w w' := by
  obtain ⟨hc, hlo, hw, hno, hel, hx⟩ := vm_bounds hv
  simp [isInB] at h1 h2
  have e1 : east.getD p 0 ∈ east := by simp [hp]
  have e2 : east.getD q 0 ∈ east := by simp [hq]
  have b1 := hx _ e1
  have b2 := hx _ e2
  rcases he with rfl | ⟨b, off, rfl, hbb, hcell⟩
  · simp at hp
  have c1 := hcell p hp
  have c2 := hcell q hq
  have HS : Hid (sqI north east ax p bx q = (2 * north * (↑p - ↑q)) * (2 * north * (↑p - ↑q)) + ((east.getD p 0 + east.getD q 0) * (ax - bx)) * ((east.getD p 0 + east.getD q 0) * (ax - bx))) := by
    unfold sqI Hid; simp only [Int.toNat_natCast]
  generalize east.getD p 0 = x at *
  generalize east.getD q 0 = y at *
  obtain ⟨n1, n2⟩ := mul_bd (A := 4000000) (B := 9) (a := 2 * north) (b := (p : Int) - q) (by omega) (by omega) (by omega) (by omega)
  obtain ⟨m1, m2⟩ := mul_bd (A := 4000000) (B := 9) (a := x + y) (b := ax - bx) (by omega) (by omega) (by omega) (by omega)
  obtain ⟨n3, n4⟩ := mul_bd (A := 36000000) (B := 36000000) (a := 2 * north * ((p : Int) - q)) (b := 2 * north * ((p : Int) - q)) (by omega) (by omega) (by omega) (by omega)
  obtain ⟨m3, m4⟩ := mul_bd (A := 36000000) (B := 36000000) (a := (x + y) * (ax - bx)) (b := (x + y) * (ax - bx)) (by omega) (by omega) (by omega) (by omega)
  have hc0 : w.heap.size + 2 < (((w.alloc (.cells #[.int .i64 north, .int .i64 cols, .slice (some ⟨b, off, none⟩) east.length ec, .int .i64 lofts, s, .int .i64 wrong] 25)).alloc (.cells #[.int .i64 ax, .int .i64 p] 27)).alloc (.cells #[.int .i64 bx, .int .i64 q] 27)).heap.size := by simp
  go_enter Try.func55, Try.ntmps55
  go_wp2
  have g1 : IntKind.i64.wrap (x + y) = x + y := IntWalk.i64_in _ (by omega)
  have g2 : IntKind.i64.wrap (ax - bx) = ax - bx := IntWalk.i64_in _ (by omega)
  have g3 : IntKind.i64.wrap ((x + y) * (ax - bx)) = (x + y) * (ax - bx) := IntWalk.i64_in _ (by omega)
  have k1 : (p : Int) < east.length := by omega
  have k2 : (q : Int) < east.length := by omega
  obtain ⟨W0, hW0⟩ : ∃ W0, (((w.alloc (.cells #[.int .i64 north, .int .i64 cols, .slice (some ⟨b, off, none⟩) east.length ec, .int .i64 lofts, s, .int .i64 wrong] 25)).alloc (.cells #[.int .i64 ax, .int .i64 p] 27)).alloc (.cells #[.int .i64 bx, .int .i64 q] 27)) = W0 := ⟨_, rfl⟩
  have hG : G w W0 := by rw [← hW0]; exact (((G.rf _).a _).a _).a _
  have k0 : Blk W0 w.heap.size 25 #[.int .i64 north, .int .i64 cols, .slice (some ⟨b, off, none⟩) east.length ec, .int .i64 lofts, s, .int .i64 wrong] := by rw [← hW0]; exact ((Blk.new _ _ _).alloc _).alloc _
  have k1 : Blk W0 (w.heap.size + 1) 27 #[.int .i64 ax, .int .i64 p] := by rw [← hW0]; exact (Blk.new1 _ _ _ _).alloc _
  have k2 : Blk W0 (w.heap.size + 1 + 1) 27 #[.int .i64 bx, .int .i64 q] := by rw [← hW0]; exact Blk.new2 _ _ _ _ _
  have i1 : W0.cell? ⟨w.heap.size, 2, none⟩ = some (.slice (some ⟨b, off, none⟩) east.length ec) := k0.cell 2
  have i2 : W0.cell? ⟨w.heap.size + 1, 0, none⟩ = some (.int .i64 ax) := k1.cell 0
  have i3 : W0.cell? ⟨w.heap.size + 1, 1, none⟩ = some (.int .i64 p) := k1.cell 1
  have i4 : W0.cell? ⟨w.heap.size + 1 + 1, 0, none⟩ = some (.int .i64 bx) := k2.cell 0
  have i5 : W0.cell? ⟨w.heap.size + 1 + 1, 1, none⟩ = some (.int .i64 q) := k2.cell 1
  have c1' := ((bcellB hG).1 b (off + p) hbb).trans c1
  have c2' := ((bcellB hG).1 b (off + q) hbb).trans c2
  rw [hW0]
  clear hW0 c1 c2 hcell k0 k1 k2 hc0
  go_quiet (fail)
  clear g1 g2 g3
  go_wp2
  go_ret
  exact ⟨by rw [HS.out]; rfl, hG.dn _⟩
end Go.Proofs.Ytpjfdfddcnocpaa
