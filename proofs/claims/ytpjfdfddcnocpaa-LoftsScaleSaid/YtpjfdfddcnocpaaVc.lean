import Derived.Test.YtpjfdfddcnocpaaVb
import Derived.Test.YtpjfdfddcnocpaaSg
import Derived.Lib.SlKeysI
set_option linter.unusedSimpArgs false
set_option linter.unusedVariables false
namespace Go.Proofs.Ytpjfdfddcnocpaa
open Go.RowKit Go.Shelf Go.Sort

def sortL (ls : List Int) : List Int := ls.mergeSort fun x y => decide (x ≤ y)
theorem sortL_len (ls : List Int) : (sortL ls).length = ls.length := List.length_mergeSort ls

section
variable (B g off cap : Nat) (ls : List Int) (hlen : ls.length ≤ 1000000) (h1 : 1 ≤ ls.length) (w : World) (hBs : Blk w B 22 #[.slice (some ⟨g, off, none⟩) ls.length cap]) (hg : g < w.heap.size) (hI : IntsIn w g off ls)
include hlen hBs hg hI
theorem Collect_any : Calls Try.prog 103 #[.func (.func 105) #[] #[.pointer (some ⟨B, 0, none⟩)]] w fun e w' =>
      ∃ v, e = .returned v ∧ w'.ownsRow w.heap.size 3 1 v ls.length (ls.map (Value.int .i64)) ∧ G w w' := by
  have hA := callsIn_wide.1 (appendSeq_in 3 (by omega) B g off cap ls hlen w hBs hg hI)
  go_enter Try.func103, Try.ntmps103
  go_wp2_with (go_at_call 107; refine hA.mono ?_; rintro e w' ⟨v, rfl, hr, hG⟩)
  go_ret
  exact ⟨v, rfl, hr, hG⟩

include h1
theorem Sorted_any : Calls Try.prog 89 #[.func (.func 105) #[] #[.pointer (some ⟨B, 0, none⟩)]] w fun e w' =>
      ∃ g' cap', e = .returned (.slice (some ⟨g', 0, none⟩) ls.length cap') ∧ w'.ownsRow w.heap.size 3 1 (.slice (some ⟨g', 0, none⟩) ls.length cap') ls.length ((sortL ls).map (Value.int .i64)) ∧ G w w' := by
  have hC := Collect_any B g off cap ls hlen w hBs hg hI
  have hS : ∀ (v : Value) (W : World), W.ownsRow w.heap.size 3 1 v ls.length (ls.map (Value.int .i64)) → G w W → Calls Try.prog 104 #[v] W fun e w' => ∃ g' cap', v = .slice (some ⟨g', 0, none⟩) ls.length cap' ∧ e = .returned (.tuple #[]) ∧
      w'.ownsRow w.heap.size 3 1 (.slice (some ⟨g', 0, none⟩) ls.length cap') ls.length ((sortL ls).map (Value.int .i64)) ∧ G w w' := by
    intro v W hrow hG
    rcases hrow.2 with ⟨_, hz⟩ | ⟨gb, cap, cur, rfl, hbase, hgb, r1, r2, r3, r4⟩
    · omega
    · have hH : Holds encZ W gb 0 ls.toArray := holds_of_block_i hgb (by simpa using r4)
      refine (Try.slices_Sort_int gb 0 cap ls W hH (Array.getElem?_eq_some_iff.1 hgb).1 (by omega)).mono ?_
      rintro e w' ⟨rfl, nn, os, rfl⟩
      exact ⟨gb, cap, rfl, rfl, ownsRow_sorted_i (sortL_len ls) hbase hgb r1 r2 r3, hG.grown (grownBy_sorted_i _) hG.size (fun j hj => by cases hj; exact hbase)⟩
  go_enter Try.func89, Try.ntmps89
  go_wp2_with (first | (go_at_call 103; refine hC.mono ?_; rintro e w' ⟨v, rfl, hr, hG⟩) | (go_at_call 104; refine (hS _ _ hr hG).mono ?_; rintro e w' ⟨g', cap', rfl, rfl, hr2, hG2⟩))
  go_ret
  exact ⟨g', cap', rfl, hr2, hG2⟩
end
end Go.Proofs.Ytpjfdfddcnocpaa
