import Derived.Test.YtcekdljjmfkacaaMc
import Derived.Test.YtcekdljjmfkacaaMe
set_option linter.unusedSimpArgs false
set_option linter.unusedVariables false
namespace Go.Proofs.Ytcekdljjmfkacaa
open Go.RowKit Go.Shelf
attribute [local go_sem] Oper.semAt_some wide_fn wide_dep wideR_fn wideR_dep
/-- three blocks stay -/
def K3 (a b c : Nat) (W W' : World) : Prop := KB a W W' ∧ KB b W W' ∧ KB c W W'
theorem K3.rf (a b c : Nat) (W : World) : K3 a b c W W := ⟨KB.rf _ _, KB.rf _ _, KB.rf _ _⟩
theorem K3.t {a b c : Nat} {A B C : World} (h : K3 a b c A B) (k : K3 a b c B C) : K3 a b c A C := ⟨h.1.t k.1, h.2.1.t k.2.1, h.2.2.t k.2.2⟩
/-- how many hours are yielded -/
def hrsN (lo hi H : Nat) : Nat := if hi / 60 < lo / 60 then 0 else if H ≤ lo / 60 then 1 else min (hi / 60) H - lo / 60 + 1
def hrsL (lo hi H : Nat) : List Nat := (List.range (hrsN lo hi H)).map fun j => lo / 60 + j
theorem hrsL_len (lo hi H : Nat) : (hrsL lo hi H).length = hrsN lo hi H := by simp [hrsL]
theorem hrsL_take {lo hi H y : Nat} (h : y < hrsN lo hi H) : (hrsL lo hi H).take (y + 1) = (hrsL lo hi H).take y ++ [lo / 60 + y] := by
  have hl := hrsL_len lo hi H
  rw [List.take_succ_eq_append_getElem (by omega)]
  simp [hrsL]
set_option maxRecDepth 100000 in
set_option maxHeartbeats 4000000 in
theorem hours_in (F' : Fence) (n : Nat) (h101 : F'.fn 101) (hro : F'.round = none) (hn : 1 ≤ n) (l B3 B2 F lo hi H : Nat) (FC : Array Value) (hlo : lo ≤ 100000000000) (hhi : hi ≤ 100000000000)
    (J Jx : List Nat → World → Prop)
    (hY : ∀ pre x W, x ≤ 100000000000 → J pre W → pre.length < (hrsL lo hi H).length → YieldAt F' (n - 1) Try.prog l #[.int .i64 (x : Nat)] W fun e W' =>
      (e = .returned (.bool true) ∧ J (pre ++ [x]) W' ∧ K3 B3 B2 F W W') ∨ (e = .returned (.bool false) ∧ Jx (pre ++ [x]) W'))
    (W : World) (hB3 : Blk W B3 30 #[.int .i64 (lo : Nat), .int .i64 (hi : Nat)]) (hB2 : Blk W B2 96 #[.pointer (some ⟨F, 0, none⟩)]) (hF : Blk W F 112 FC) (h15 : FC[15]? = some (.int .i64 (H : Nat))) (h0 : J [] W) :
    CallsIn F' n Try.prog 101 #[.func (.yield l) #[] #[], .pointer (some ⟨B3, 0, none⟩), .pointer (some ⟨B2, 0, none⟩)] W fun e W' => (∃ v, e = .returned v) ∧
      ((∃ ys, ys = hrsL lo hi H ∧ J ys W') ∨ (∃ pre, pre <+: hrsL lo hi H ∧ Jx pre W')) := by
  have c0 : W.cell? ⟨B3, 0, none⟩ = some (.int .i64 (lo : Nat)) := hB3.cell 0
  have xd : IntKind.i64.wrap ((lo : Int) / 60) = ((lo / 60 : Nat) : Int) := wrap_div2 lo 60 (by omega)
  obtain ⟨lq, hlq⟩ : ∃ lq, lq = lo / 60 := ⟨_, rfl⟩
  obtain ⟨hq, hhq⟩ : ∃ hq, hq = hi / 60 := ⟨_, rfl⟩
  have xh : IntKind.i64.wrap ((hi : Int) / 60) = ((hi / 60 : Nat) : Int) := wrap_div2 hi 60 (by omega)
  have lqb : lq ≤ 100000000000 := by rw [hlq]; exact Nat.le_trans (Nat.div_le_self _ _) hlo
  have hqb : hq ≤ 100000000000 := by rw [hhq]; exact Nat.le_trans (Nat.div_le_self _ _) hhi
  have HN : Hid (hrsN lo hi H = if hq < lq then 0 else if H ≤ lq then 1 else min hq H - lq + 1) := by unfold hrsN Hid; rw [hlq, hhq]
  have HTK : Hid (∀ y, y < hrsN lo hi H → (hrsL lo hi H).take (y + 1) = (hrsL lo hi H).take y ++ [lq + y]) := fun y hy => by rw [hlq]; exact hrsL_take hy
  have HLL := Lib.hid (hrsL_len lo hi H)
  rw [← hlq] at xd
  rw [← hhq] at xh
  clear hlq hhq
  generalize hrsL lo hi H = LS at *
  generalize hrsN lo hi H = N at *
  refine callsIn_of_wp Try.func101 rfl h101 ?_ hro
  simp only [Try.ntmps101, List.size_toArray, List.length_cons, List.length_nil, Nat.reduceAdd, Nat.reduceSub, Array.replicate_succ, Array.replicate_zero, List.push_toArray, List.append_toArray, List.nil_append, List.cons_append]
  gi_wp2
  gi_loopw [4] (fun i wr => ∃ y : Nat, y ≤ N ∧ (y = 0 ∨ lq + y ≤ H) ∧ i = .int .i64 ((lq + y : Nat) : Int) ∧ J (LS.take y) wr ∧ K3 B3 B2 F W wr)
    (fun i _ => hq + 1 - (intOf i).toNat)
  case atStart => exact ⟨0, Nat.zero_le _, .inl rfl, by simp, h0, K3.rf _ _ _ _⟩
  case round =>
    obtain ⟨y, hy, hyH, rfl, hJs, hk⟩ := hrel
    have d1 : wr.cell? ⟨B3, 1, none⟩ = some (.int .i64 (hi : Nat)) := (World.cell?_of_block (a := ⟨B3, 1, none⟩) hk.1).trans (hB3.cell 1)
    obtain ⟨z, hz⟩ : ∃ z, z = lq + y := ⟨_, rfl⟩
    rw [← hz]
    by_cases hle : z ≤ hq
    · have hlei : (z : Int) ≤ hq := by omega
      have hyN : y < N := by
        have := HN.out
        split at this
        · omega
        · split at this <;> omega
      have hpl : (LS.take y).length < LS.length := by
        have := HLL.out
        rw [List.length_take]
        omega
      have hsn := HTK.out y hyN
      rw [← hz] at hsn
      have HSN := Lib.hid hsn
      have x5 : IntKind.i64.wrap ((z : Int) + 1) = ((z + 1 : Nat) : Int) := by rw [IntWalk.i64_in _ (by omega)]; rfl
      obtain ⟨fn, tmps, assign, body, hy', hR⟩ := hY _ z _ (by omega) hJs hpl
      have HZ := Lib.hid hz
      clear hsn hz
      gi_wp2
      refine hR.mono ?_
      rintro e W3 (⟨rfl, hJ3, hk3⟩ | ⟨rfl, hJx3⟩)
      · have hkk := hk.t hk3
        have f2 : W3.cell? ⟨B2, 0, none⟩ = some (.pointer (some ⟨F, 0, none⟩)) := (World.cell?_of_block (a := ⟨B2, 0, none⟩) hkk.2.1).trans (hB2.cell 0)
        have f15 : W3.cell? ⟨F, 15, none⟩ = some (.int .i64 (H : Nat)) := (World.cell?_of_block (a := ⟨F, 15, none⟩) hkk.2.2).trans ((hF.cell 15).trans h15)
        clear d1
        by_cases hH : H ≤ z
        · have hHi : (H : Int) ≤ z := by omega
          have hend : (LS.take y ++ [z]) = LS := by
            rw [← HSN.out]
            refine List.take_of_length_le ?_
            have h1 := HLL.out
            have h2 := HN.out
            have h3 := HZ.out
            split at h2
            · omega
            · split at h2 <;> omega
          rw [hend] at hJ3
          gi_wp2
          refine bodyPost_ret (results_none rfl _ _ _) rfl ?_
          exact ⟨⟨_, rfl⟩, .inl ⟨_, rfl, hJ3⟩⟩
        · have hHi : ¬ (H : Int) ≤ z := by omega
          gi_wp2
          go_roundw
          case rel => exact ⟨y + 1, by omega, .inr (by have := HZ.out; omega), by rw [show ((lq + (y + 1) : Nat) : Int) = (z : Int) + 1 by have := HZ.out; omega], by rw [HZ.out] at HSN; rw [HTK.out y hyN, ← HZ.out]; exact hJ3, hkk⟩
          case measure => simp [intOf]; omega
      · clear d1
        gi_wp2
        refine bodyPost_ret (results_none rfl _ _ _) rfl ?_
        exact ⟨⟨_, rfl⟩, .inr ⟨_, by rw [← HSN.out]; exact List.take_prefix _ _, hJx3⟩⟩
    · have hlei : ¬ (z : Int) ≤ hq := by omega
      have hta : LS.take y = LS := by
        refine List.take_of_length_le ?_
        have h1 := HLL.out
        have h2 := HN.out
        split at h2
        · omega
        · split at h2 <;> omega
      rw [hta] at hJs
      gi_wp2
      go_end0
      first | exact ⟨⟨_, rfl⟩, .inl hJs⟩ | exact .inl hJs | exact hJs
end Go.Proofs.Ytcekdljjmfkacaa
