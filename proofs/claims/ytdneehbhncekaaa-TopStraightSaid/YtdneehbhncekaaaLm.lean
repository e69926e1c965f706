import Derived.Test.YtdneehbhncekaaaLh
set_option linter.unusedSimpArgs false
set_option linter.unusedVariables false
namespace Go.Proofs.Ytdneehbhncekaaa
open Go.RowKit

theorem rnd0_even (K : Nat) (h : K ≤ 100000000) : rnd 0 ((2 * K) * (2 * K)) = K := by
  have hb : (2 * K) * (2 * K) ≤ 200000000 * 200000000 := Nat.mul_le_mul (by omega) (by omega)
  have e : rt ((2 * K) * (2 * K)) = 2 * K := rt_unique _ _ (by omega) (Nat.le_refl _) (Nat.mul_self_lt_mul_self (by omega))
  unfold rnd
  simp only [if_pos rfl, e]
  simp
theorem dst_self (a : Nat) : dst a a = 0 := by unfold dst; omega
theorem line_sq (K a b : Nat) (s : Int) (hs : s = (K : Int) + K) : (s * ((a : Int) - b)) * (s * ((a : Int) - b)) = (((2 * (K * dst a b)) * (2 * (K * dst a b)) : Nat) : Int) := by
  subst hs
  rcases Nat.le_total a b with h | h
  · obtain ⟨d, rfl⟩ := Nat.le.dest h
    have h1 : dst a (a + d) = d := by unfold dst; omega
    rw [h1]
    have e1 : ((K : Int) + K) * ((a : Int) - ((a + d : Nat) : Int)) = -((2 * (K * d) : Nat) : Int) := by
      rw [show (a : Int) - ((a + d : Nat) : Int) = -(d : Int) by omega, Int.mul_neg, Int.add_mul]
      have : ((2 * (K * d) : Nat) : Int) = 2 * ((K : Int) * d) := by simp
      rw [this]
      omega
    rw [e1, Int.neg_mul_neg]
    simp
  · obtain ⟨d, rfl⟩ := Nat.le.dest h
    have h1 : dst (b + d) b = d := by unfold dst; omega
    rw [h1]
    have e1 : ((K : Int) + K) * (((b + d : Nat) : Int) - (b : Int)) = ((2 * (K * d) : Nat) : Int) := by
      rw [show ((b + d : Nat) : Int) - (b : Int) = (d : Int) by omega, Int.add_mul]
      have : ((2 * (K * d) : Nat) : Int) = 2 * ((K : Int) * d) := by simp
      rw [this]
      omega
    rw [e1]
    simp
theorem sq_row (north : Int) (east : List Int) (y e a b : Nat) (hE : east.getD y 0 = (e : Int)) : (sqI north east a y b y).toNat = (2 * (e * dst a b)) * (2 * (e * dst a b)) := by
  unfold sqI
  simp only [Int.toNat_natCast, hE, Int.sub_self, Int.mul_zero, Int.zero_add]
  rw [line_sq e a b _ rfl, Int.toNat_natCast]
theorem sq_col (n : Nat) (east : List Int) (x a b : Nat) : (sqI (n : Int) east x a x b).toNat = (2 * (n * dst a b)) * (2 * (n * dst a b)) := by
  unfold sqI
  simp only [Int.sub_self, Int.mul_zero, Int.add_zero]
  rw [line_sq n a b (2 * (n : Int)) (by omega), Int.toNat_natCast]
theorem div_q (n q : Nat) (hn : 1 ≤ n) : (2 * (n * q) + n) / (2 * n) = q := by
  rw [← Nat.mul_assoc, Nat.mul_comm (2 * n) q, Nat.add_comm, Nat.add_mul_div_right _ _ (by omega : 0 < 2 * n), Nat.div_eq_of_lt (by omega)]
  omega
theorem btw_same (f k n : Nat) (hk : k ≤ n) (hn : 1 ≤ n) : btw f f k n = f := by
  unfold btw
  rw [← Nat.mul_add, show n - k + k = n by omega, Nat.mul_comm f n]
  exact div_q n f hn
theorem btw_up (f k n : Nat) (hk : k ≤ n) (hn : 1 ≤ n) : btw f (f + n) k n = f + k := by
  unfold btw
  rw [show f * (n - k) + (f + n) * k = n * (f + k) by
    rw [Nat.add_mul, ← Nat.add_assoc, ← Nat.mul_add, show n - k + k = n by omega, Nat.mul_add, Nat.mul_comm f n]]
  exact div_q n _ hn
theorem btw_down (t k n : Nat) (hk : k ≤ n) (hn : 1 ≤ n) : btw (t + n) t k n = t + (n - k) := by
  unfold btw
  rw [show (t + n) * (n - k) + t * k = n * (t + (n - k)) by
    rw [Nat.add_mul, Nat.add_right_comm, ← Nat.mul_add, show n - k + k = n by omega, Nat.mul_add, Nat.mul_comm t n]]
  exact div_q n _ hn
theorem btw_step (f t k : Nat) (hk : k < dst f t) : dst (btw f t k (dst f t)) (btw f t (k + 1) (dst f t)) = 1 := by
  rcases Nat.le_total f t with h | h
  · obtain ⟨n, rfl⟩ := Nat.le.dest h
    have h1 : dst f (f + n) = n := by unfold dst; omega
    rw [h1] at hk ⊢
    rw [btw_up _ _ _ (by omega) (by omega), btw_up _ _ _ (by omega) (by omega)]
    unfold dst
    omega
  · obtain ⟨n, rfl⟩ := Nat.le.dest h
    have h1 : dst (t + n) t = n := by unfold dst; omega
    rw [h1] at hk ⊢
    rw [btw_down _ _ _ (by omega) (by omega), btw_down _ _ _ (by omega) (by omega)]
    unfold dst
    omega
theorem btw_zero (f t n : Nat) (hn : 1 ≤ n) : btw f t 0 n = f := by
  unfold btw
  rw [Nat.sub_zero, Nat.mul_zero, Nat.add_zero, Nat.mul_comm f n]
  exact div_q n f hn
theorem pbK_get (fx fy tx ty n : Nat) (i : Nat) (hi : i ≤ n) (hn : 1 ≤ n) : (pbK fx fy tx ty n n).getD i (0, 0) = (btw fx tx i n, btw fy ty i n) := by
  cases i with
  | zero => rw [btw_zero _ _ _ hn, btw_zero _ _ _ hn]; rfl
  | succ i =>
    unfold pbK
    have : i < n := by omega
    simp [List.getD, this]
theorem lenS_at {north : Int} {east : List Int} {fx fy tx ty n : Nat} (hn : 1 ≤ n) (i : Nat) (hi : i < n) :
    lenS north east (pbK fx fy tx ty n n) i = rnd 0 (sqI north east (btw fx tx i n) (btw fy ty i n) (btw fx tx (i + 1) n) (btw fy ty (i + 1) n)).toNat := by
  unfold lenS
  rw [pbK_len, show min (i + 1) (n + 1 - 1) = i + 1 by omega, pbK_get _ _ _ _ _ _ (by omega) hn, pbK_get _ _ _ _ _ _ (by omega) hn]
theorem farL_const {north : Int} {east : List Int} {P : List (Nat × Nat)} {c : Nat} : ∀ n, (∀ i, i < n → lenS north east P i = c) → farL north east P n = c * n
  | 0, _ => by simp [farL]
  | n + 1, h => by rw [farL_succ, farL_const n (fun i hi => h i (by omega)), h n (by omega), Nat.mul_add, Nat.mul_one]
theorem lenS_last {north : Int} {east : List Int} {fx fy tx ty : Nat} (n : Nat) (hE : ∃ e : Nat, east.getD ((pbK fx fy tx ty n n).getD n (0, 0)).2 0 = (e : Int)) : lenS north east (pbK fx fy tx ty n n) n = 0 := by
  obtain ⟨e, hE⟩ := hE
  unfold lenS
  rw [pbK_len, show min (n + 1) (n + 1 - 1) = n by omega, sq_row north east _ e _ _ hE, dst_self, Nat.mul_zero]
  exact rnd0_even 0 (by omega)
theorem straight {north : Int} {east : List Int} {fx fy tx ty : Nat} (hn : 1 ≤ north ∧ north ≤ 2000000) (he : ∀ x ∈ east, 1 ≤ x ∧ x ≤ 2000000) (h1 : fx < 10) (h2 : tx < 10) (h3 : fy < east.length) (h4 : ty < east.length) (h5 : east.length ≤ 10) (hs : fx = tx ∨ fy = ty) :
    farL north east (pbK fx fy tx ty (stepsN fx fy tx ty) (stepsN fx fy tx ty)) (stepsN fx fy tx ty) = rnd 0 (sqI north east fx fy tx ty).toNat ∧ lenS north east (pbK fx fy tx ty (stepsN fx fy tx ty) (stepsN fx fy tx ty)) (stepsN fx fy tx ty) = 0 := by
  have hE : ∀ y, y < east.length → ∃ e : Nat, east.getD y 0 = (e : Int) ∧ e ≤ 2000000 := fun y hy => by
    have h := he (east.getD y 0) (by simp [List.getD, hy])
    exact ⟨(east.getD y 0).toNat, by omega, by omega⟩
  have hlast : ∀ n, n = stepsN fx fy tx ty → ∃ e : Nat, east.getD ((pbK fx fy tx ty n n).getD n (0, 0)).2 0 = (e : Int) := fun n hn => by
    have hm := pbK_mem (fx := fx) (fy := fy) (tx := tx) (ty := ty) (n := n) (k := n) (cols := 10) (rows := east.length) (Nat.le_refl _) h1 h3 h2 h4
    have hl := pbK_len fx fy tx ty n n
    obtain ⟨e, h, _⟩ := hE ((pbK fx fy tx ty n n).getD n (0, 0)).2 (hm _ (by
      rw [show (pbK fx fy tx ty n n).getD n (0, 0) = (pbK fx fy tx ty n n)[n] by simp [List.getD, hl]]
      exact List.getElem_mem _)).2
    exact ⟨e, h⟩
  refine ⟨?_, lenS_last _ (hlast _ rfl)⟩
  clear hlast
  rcases hs with rfl | rfl
  · have hst : stepsN fx fy fx ty = dst fy ty := by unfold stepsN; rw [dst_self]; omega
    obtain ⟨N, rfl⟩ := Int.eq_ofNat_of_zero_le (show 0 ≤ north by omega)
    have hd : dst fy ty ≤ 9 := by unfold dst; omega
    have hb : N * dst fy ty ≤ 2000000 * 9 := Nat.mul_le_mul (by omega) hd
    rw [hst, sq_col, rnd0_even _ (by omega)]
    refine farL_const _ fun i hi => ?_
    rw [lenS_at (by omega) i hi, btw_same _ _ _ (by omega) (by omega), btw_same _ _ _ (by omega) (by omega), sq_col, btw_step _ _ _ hi, Nat.mul_one]
    exact rnd0_even _ (by omega)
  · have hst : stepsN fx fy tx fy = dst fx tx := by unfold stepsN; rw [dst_self]; omega
    obtain ⟨e, hE, heb⟩ := hE fy h3
    have hd : dst fx tx ≤ 9 := by unfold dst; omega
    have hb : e * dst fx tx ≤ 2000000 * 9 := Nat.mul_le_mul heb hd
    rw [hst, sq_row north east _ e _ _ hE, rnd0_even _ (by omega)]
    refine farL_const _ fun i hi => ?_
    rw [lenS_at (by omega) i hi, btw_same _ _ _ (by omega) (by omega), btw_same _ _ _ (by omega) (by omega), sq_row north east _ e _ _ hE, btw_step _ _ _ hi, Nat.mul_one]
    exact rnd0_even _ (by omega)
end Go.Proofs.Ytdneehbhncekaaa
