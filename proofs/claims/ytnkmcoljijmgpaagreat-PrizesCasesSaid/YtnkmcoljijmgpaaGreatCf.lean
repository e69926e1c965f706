import Derived.Test.YtnkmcoljijmgpaaGreatCb
set_option linter.unusedSimpArgs false
set_option linter.unusedVariables false
namespace Go.Proofs.YtnkmcoljijmgpaaGreat
open Go.RowKit Go.Shelf Go.Sort Go.Maps
attribute [local go_sem] Oper.semAt_some
/-- the racers of the new race so far -/
def AloneAt (W : World) (B : Nat) (v : Value) (L : List Rc) : Prop := W.ownsRow B 60 5 v L.length (rcV L) ∧ ∀ y ∈ L, y.pools = [0] ∧ ∃ g, y.pa = some ⟨g, 0, none⟩ ∧ Blk W g 3 #[.int .i64 0]
theorem ints0 {W : World} {g : Nat} (h : Blk W g 3 #[.int .i64 0]) : IntsAt W (some ⟨g, 0, none⟩) [0] := ints_blk h (fun k hk => by
  have : k = 0 := by simpa using hk
  subst this
  rfl)
theorem eq33s (a b c d : Int) (w : World) : (binOp .eql 33 (.agg #[.int .i64 a, .int .i64 b, .int .i64 c, .int .i64 d]) (.agg #[.int .i64 a, .int .i64 b, .int .i64 c, .int .i64 d])).run Tryz.prog w = .ok (.bool true) w := by
  go_simp
theorem own_cap {W : World} {B T k : Nat} {a : Option Addr} {n c : Nat} {xs : List Value} (h : W.ownsRow B T k (.slice a n c) n xs) : n ≤ c := by
  rcases h.2 with ⟨e, h0⟩ | ⟨g, cap, cur, e, _, _, h1, _⟩
  · omega
  · injection e with _ _ e3
    omega
theorem runners_len (r : Ra) (p : Int) : (runners r p).length ≤ r.racers.length := by
  unfold runners
  rw [srt_len]
  exact List.length_filter_le _ _
theorem prQ0 (r : Ra) (p : Int) (w : World) (h : r.At w) (hq : qE r p [] = 0) : Calls Tryz.prog 18 #[.agg r.v, .int .i64 p] w fun e w' => G w w' ∧ ∃ a c, e = .returned (.tuple #[.slice a (prizesL (fuOf r p none 0)).length c, .int .i64 0]) ∧ RowE Pz.v 3 w' a (prizesL (fuOf r p none 0)) := by
  refine (Prizes_any r p w h).mono ?_
  rintro e w' ⟨hG, ⟨h1, _⟩ | ⟨_, v, rfl, ho⟩⟩
  · exact absurd hq h1
  · obtain ⟨a, c, rfl, hr⟩ := own_rowE Pz.vs ho
    exact ⟨hG, a, c, rfl, hr⟩
theorem potQ0 (r : Ra) (p : Int) (w : World) (h : r.At w) (hq : qE r p [] = 0) : Calls Tryz.prog 17 #[.agg r.v, .int .i64 p] w fun e w' => G w w' ∧ e = .returned (.tuple #[.agg (potV (fuOf r p none 0)), .int .i64 0]) := by
  refine (Pot_any r p w h).mono ?_
  rintro e w' ⟨hG, ⟨h1, _⟩ | ⟨_, rfl⟩⟩
  · exact absurd hq h1
  · exact ⟨hG, rfl⟩
theorem own_ge {W : World} {base k n : Nat} {e : TypeId} {v : Value} {xs : List Value} (h : W.ownsRow base e k v n xs) : ∀ g, v.ownBlock = some g → base ≤ g := fun g hg => by
  rcases h.2 with ⟨rfl, _⟩ | ⟨g', cap, cur, rfl, hb, _⟩
  · cases hg
  · have : some g' = some g := hg
    injection this with e
    omega
theorem blk_ne {W : World} {a b : Nat} {t u : TypeId} {cs ds : Array Value} (h : Blk W a t cs) (k : Blk W b u ds) (hn : t ≠ u) : a ≠ b := fun e => by
  subst e
  have := h.symm.trans k
  injection this with h1
  injection h1 with _ h2
  exact hn h2
end Go.Proofs.YtnkmcoljijmgpaaGreat
