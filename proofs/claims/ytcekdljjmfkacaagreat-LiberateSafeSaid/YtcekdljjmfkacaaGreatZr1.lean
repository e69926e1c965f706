import Derived.Test.YtcekdljjmfkacaaGreatZp7
import Derived.Test.YtcekdljjmfkacaaGreatZl
import Derived.Test.YtcekdljjmfkacaaGreatXk
set_option linter.unusedSimpArgs false
set_option linter.unusedVariables false
namespace Go.Proofs.YtcekdljjmfkacaaGreat
open Go.RowKit Go.Shelf
theorem all_congr {p q : Nat → Bool} {n : Nat} (h : ∀ k, k < n → p k = q k) : (List.range n).all p = (List.range n).all q := by
  rw [Bool.eq_iff_iff, List.all_eq_true, List.all_eq_true]
  exact ⟨fun a x hx => by rw [← h x (List.mem_range.1 hx)]; exact a x hx, fun a x hx => by rw [h x (List.mem_range.1 hx)]; exact a x hx⟩
theorem any_congr {p q : Nat → Bool} {n : Nat} (h : ∀ k, k < n → p k = q k) : (List.range n).any p = (List.range n).any q := by
  rw [Bool.eq_iff_iff, List.any_eq_true, List.any_eq_true]
  exact ⟨fun ⟨x, hx, a⟩ => ⟨x, hx, by rw [← h x (List.mem_range.1 hx)]; exact a⟩, fun ⟨x, hx, a⟩ => ⟨x, hx, by rw [h x (List.mem_range.1 hx)]; exact a⟩⟩
section
variable {r : Rl} {w : World} {i mi k : Nat}
theorem okP_ok (hk : k < r.ns i) (t : Nat) : okP r.lw r.lg r.lh r.f r.k (r.P i) k t = okT r i k t := by
  unfold okP okT
  simp only [Rl.st, if_pos hk]
theorem ouP_ou (hk : k < r.ns i) (t : Nat) : ouP r.lw r.lg r.lh r.f r.k (r.P i) k t = ouT r i k t := by
  unfold ouP ouT
  simp only [Rl.st, if_pos hk]
theorem rBlockR (h : r.Ok w) (hi : i < r.n) (hm : mi ≤ 1000000) : Calls Tryz.prog 91 #[.agg r.v, .int .i64 (i : Nat), .int .i64 (mi : Nat)] w fun e w' => e = .returned (.tuple #[.agg (blkV i (r.blk mi i)), .bool (r.blk mi i).isSome]) ∧ G w w' := by
  have hN := h.nums
  have hns := Rl.ns_le hN hi
  have h12 := h.hk12
  exact rBlock6_walk i mi r.k r.fc r.lw r.lg r.lh (r.P i) (pvL (r.ln i) (r.ns i) r.sl r.sh mi (r.ns i)) (fun k => mi + r.st i k 2) (fun k => mi + r.st i k 3) r.f r.fa r.v (r.blk mi i) w (rIs r) rfl rfl rfl rfl h.hF (by omega) ⟨hns.1, by have : r.ns i = (r.P i).length := rfl; omega⟩
    (fun k hk => by have := h.st_le hi k; exact ⟨by omega, by omega⟩) (fun W hW => rRefWay (h.keep hW) hi) (fun W hW => rRefPasses (h.keep hW) hi hm) (fun k hk => pv_get hN hi hk)
    (fun H => blk_noneR h hi fun k hk m a b => by rw [← okP_ok hk]; exact H k hk m a b)
    (fun k m hk H a b hb hn => blk_someR h hi hk (fun j hj m a b => by rw [← okP_ok (Nat.lt_trans hj hk)]; exact H j hj m a b) a b (by rw [← okP_ok hk]; exact hb) (fun m' a b => by rw [← okP_ok hk]; exact hn m' a b))
theorem rSafeR (h : r.Ok w) (hg : r.good) (hi : i < r.n) (hm : mi ≤ 1000000) : Calls Tryz.prog 57 #[.agg r.v, .int .i64 (i : Nat), .int .i64 (mi : Nat)] w fun e w' => e = .returned (.int .i64 (r.safe i mi)) ∧ G w w' := by
  have hN := h.nums
  have hns := Rl.ns_le hN hi
  have h12 := h.hk12
  have he : sumS r.lw r.lg r.lh r.f r.k (r.P i) (fun k => mi + r.st i k 2) (fun k => mi + r.st i k 3) = r.safe i mi := by
    rw [safe_eq h hg hi mi]
    unfold sumS allA anyN
    have e1 := all_congr (n := r.ns i) (p := fun k => hB (okP r.lw r.lg r.lh r.f r.k (r.P i) k) ((mi + r.st i k 2) / 60) ((mi + r.st i k 3) / 60 + 1 - (mi + r.st i k 2) / 60)) (q := fun k => hB (okT r i k) ((mi + r.st i k 2) / 60) ((mi + r.st i k 3) / 60 + 1 - (mi + r.st i k 2) / 60)) fun k hk => by
      rw [show okP r.lw r.lg r.lh r.f r.k (r.P i) k = okT r i k from funext (okP_ok hk)]
    have e2 := any_congr (n := r.ns i) (p := fun k => hB (ouP r.lw r.lg r.lh r.f r.k (r.P i) k) ((mi + r.st i k 2) / 60) ((mi + r.st i k 3) / 60 + 1 - (mi + r.st i k 2) / 60)) (q := fun k => hB (ouT r i k) ((mi + r.st i k 2) / 60) ((mi + r.st i k 3) / 60 + 1 - (mi + r.st i k 2) / 60)) fun k hk => by
      rw [show ouP r.lw r.lg r.lh r.f r.k (r.P i) k = ouT r i k from funext (ouP_ou hk)]
    rw [← e1, ← e2]
    rfl
  rw [← he]
  exact rSafeN_walk i mi r.k r.fc r.lw r.lg r.lh (r.P i) (pvL (r.ln i) (r.ns i) r.sl r.sh mi (r.ns i)) (fun k => mi + r.st i k 2) (fun k => mi + r.st i k 3) r.f r.fa r.v w (rIs r) rfl rfl rfl rfl h.hF (by omega) ⟨hns.1, by have : r.ns i = (r.P i).length := rfl; omega⟩
    (fun k hk => by have := h.st_le hi k; exact ⟨by omega, by omega⟩) (fun W hW => rRefWay (h.keep hW) hi) (fun W hW => rRefPasses (h.keep hW) hi hm) (fun k hk => pv_get hN hi hk)
theorem rBlocksR (h : r.Ok w) (hm : mi ≤ 1000000) : Calls Tryz.prog 59 #[.agg r.v, .int .i64 (mi : Nat)] w fun e w' => ∃ v, e = .returned v ∧ OwnBk w (bks (r.blk mi) r.n) v w' ∧ G w w' :=
  rBlocks6_in (mi : Nat) r.v (r.blk mi) r.ha r.n r.hc w (rIs r) rfl (by have := h.nums.many; omega) (fun W i hW hi => rBlockR (h.keep hW) hi hm)
end
end Go.Proofs.YtcekdljjmfkacaaGreat
