import Derived.Test.YtcekdljjmfkacaaQn
import Derived.Test.YtcekdljjmfkacaaRa
import Derived.Test.YtcekdljjmfkacaaQm
import Derived.Test.YtcekdljjmfkacaaRc
set_option linter.unusedSimpArgs false
set_option linter.unusedVariables false
namespace Go.Proofs.Ytcekdljjmfkacaa
open Go.RowKit Go.Shelf
attribute [local go_sem] Oper.semAt_some wide_fn wide_dep wideR_fn wideR_dep
theorem err_cases (r : Rl) : r.err = 0 ∨ r.err = 3 := by
  unfold Rl.err
  split
  · exact .inl rfl
  · exact .inr rfl
/-- Blocks names a home just if its way is not surely inside -/
theorem named (r : Rl) {i m : Nat} (hi : i < r.n) : (bks (r.blk m) r.n).any (fun b => b.1 == i) = !(r.safe i m == 1) := by
  rw [bks_any]
  have h := safeN_one (S := r.S) (lim := r.lim) (st := r.st i) (mi := m) (H := r.hours) (ns := r.ns i)
  cases hb : r.blk m i with
  | none =>
    have : r.safe i m = 1 := h.2 hb
    rw [this]; simp
  | some p =>
    have : r.safe i m ≠ 1 := fun e => by
      have := h.1 e
      unfold Rl.blk at hb
      rw [hb] at this
      cases this
    simp [hi, this]
section
variable (north cols lofts wrong bx bY sl sh lw lg lh hours dark : Int) (east : List Int) (svs : List Sv) (n k : Nat) (h f : Nat → Nat → Int) (ea sa ha fa : Option Addr) (ec sc hc fc : Nat) (w : World)
set_option maxRecDepth 100000 in
set_option maxHeartbeats 4000000 in
theorem EarlyLaw_any (L : Laid east svs n k h f ea sa ha fa w) (home minute to px py hr : Int) (hto : -9223372036854775808 ≤ to ∧ to ≤ 9223372036854775807) : Calls Try.prog 9 #[.agg #[.int .i64 north, .int .i64 cols, .slice ea east.length ec, .int .i64 lofts, .slice sa svs.length sc, .int .i64 wrong, .int .i64 bx, .int .i64 bY, .slice ha n hc, .int .i64 sl, .int .i64 sh, .slice fa k fc, .int .i64 lw, .int .i64 lg, .int .i64 lh, .int .i64 hours, .int .i64 dark], .agg #[.int .i64 home, .int .i64 minute, .int .i64 to, .int .i64 px, .int .i64 py, .int .i64 hr]] w fun e w' => e = .returned (.bool true) ∧ G w w' := by
  have hV := fun (W : World) (hW : G w W) => valid_any north cols lofts wrong bx bY sl sh lw lg lh hours dark east svs n k h f ea sa ha fa ec sc hc fc W (L.keep hW) home minute
  by_cases hp : (COk north cols lofts wrong bx bY sl sh lw lg lh hours dark east svs n k h f ∧ (0 ≤ home ∧ home < n) ∧ (0 : Int) ≤ minute ∧ minute ≤ (9999 : Int)) ∧ ¬ OffE minute to
  · obtain ⟨hp, hoff⟩ := hp
    obtain ⟨r, hv, hok, hrn, hrk, hre⟩ := to_Rl north cols lofts wrong bx bY sl sh lw lg lh hours dark east svs n k h f ea sa ha fa ec sc hc fc w L hp.1
    unfold OffE at hoff
    obtain ⟨i, rfl⟩ : ∃ i : Nat, home = i := ⟨home.toNat, by omega⟩
    obtain ⟨m, rfl⟩ : ∃ m : Nat, minute = m := ⟨minute.toNat, by omega⟩
    obtain ⟨b, rfl⟩ : ∃ b : Nat, to = b := ⟨to.toNat, by omega⟩
    rw [← hv] at hV ⊢
    have hi : i < r.n := by omega
    refine Early_walk r.v i m b r.n px py hr r.err (r.safe i m) (lightB r) r.blk (flyB r) w (rIs r) (by omega) (by omega) (by omega) (by have := hok.nums.many; omega) (err_cases r)
      (fun W hW => (hV W hW).mono fun e w' hh => by obtain ⟨b, h1, _, h2⟩ := hh; exact ⟨b, h1, h2⟩) (fun W hW => rFirst_ok (hok.keep hW) (by omega) (by omega)) (fun W hW => rSafe_ok (hok.keep hW) hi (by omega))
      (fun m W hm hW => rBlocks_ok (hok.keep hW) hm) (fun m W hm hW => Light_any (hok.keep hW) (by omega)) (fun m => ?_) (named r hi)
    rw [flyB_eq hok.nums m, bks_len0]
  · refine EarlyOut_walk #[.int .i64 north, .int .i64 cols, .slice ea east.length ec, .int .i64 lofts, .slice sa svs.length sc, .int .i64 wrong, .int .i64 bx, .int .i64 bY, .slice ha n hc, .int .i64 sl, .int .i64 sh, .slice fa k fc, .int .i64 lw, .int .i64 lg, .int .i64 lh, .int .i64 hours, .int .i64 dark] home minute to px py hr w isRelV hto (fun W hW => (hV W hW).mono fun e w' hh => ?_)
    obtain ⟨b, h1, h2, h3⟩ := hh
    refine ⟨b, h1, fun hb => ?_, h3⟩
    have h4 := h2 hb
    exact ⟨h4.2.2, Classical.byContradiction fun hno => hp ⟨h4, hno⟩⟩
end
end Go.Proofs.Ytcekdljjmfkacaa
