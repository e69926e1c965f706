import Derived.Test.YtcekdljjmfkacaaNi
set_option linter.unusedSimpArgs false
set_option linter.unusedVariables false
namespace Go.Proofs.Ytcekdljjmfkacaa
open Go.RowKit Go.Shelf
attribute [local go_sem] Oper.semAt_some wide_fn wide_dep wideR_fn wideR_dep
section
variable {F : Fence} {n : Nat} {P : Program}
/-- a range over a function whose one loop variable is a slot; three blocks stay while the rounds go on -/
theorem rangeFunc_three {α : Type} {g : Operand} {tv : Tmp} {assign body : Code} {Q : Exit → Act → World → Prop} {a : Act} {w : World}
    (hro : F.round = none) (h1 : 1 ≤ n) {gf : Nat} {lb : Array Value} (hg : a.eval g = .func (.func gf) #[] lb) (hFg : F.fn gf) (eg : ∀ args w, (callFunc gf args).run P w = .ok (.enter gf args) w)
    {ev : α → Value} {B1 B2 B3 : Nat} {S Sp : List α → Prop} {N : Nat} {w0 : World} (hseq : SeqStopsK F (n - 1) P gf lb (fun x => #[ev x]) (K3 B1 B2 B3) S Sp N w0)
    (hB1 : B1 < w.heap.size) (hB2 : B2 < w.heap.size) (hB3 : B3 < w.heap.size) (hb0 : Below w0.heap.size w0 w)
    (I : List α → World → Prop) (Ix : Code → List α → World → Prop) (hI : OwnFrom w.heap.size I) (hIx : ∀ c, OwnFrom w.heap.size (Ix c)) (h0 : I [] w)
    (tb : Tmp)
    (hassign : ∀ (l : Nat) (x : α) (W : World) (K : Act → World → Prop), K { tmps := (a.tmps.setIfInBounds tv (ev x)).setIfInBounds tb (ev x), defers := [] } W →
      assign.wpIn (F.inRound l) (n - 1 - 1) P (Exit.then K (fun _ _ _ => False)) { tmps := a.tmps.setIfInBounds tv (ev x), defers := [] } W)
    (hbody : ∀ (l : Nat) (pre : List α) (x : α) (W : World), w.heap.size ≤ l → (∃ r, W.heap[l]? = some (.loop r)) → I pre W → pre.length < N →
      body.wpIn (F.inRound l) (n - 1 - 1) P (ownPostG w.heap.size (K3 B1 B2 B3) I Ix (pre ++ [x]) W) { tmps := (a.tmps.setIfInBounds tv (ev x)).setIfInBounds tb (ev x), defers := [] } W)
    (hdone : ∀ (D : Nat) (xs : List α) (W : World), w.heap.size ≤ D → S xs → I xs W → W.heap[D]? = some (.deferred (some [])) → Q .normal { a with defers := { target := .collected D, args := #[] } :: a.defers } W)
    (hstop : ∀ (D : Nat) (c : Code) (pre : List α) (W : World), w.heap.size ≤ D → Sp pre → Ix c pre W → W.heap[D]? = some (.deferred (some [])) → c.wpIn F n P Q { a with defers := { target := .collected D, args := #[] } :: a.defers } W) :
    (Code.rangeFunc g #[tv] assign body).wpIn F n P Q a w := by
  refine wpIn_rangeFunc_ownH hro h1 hg hFg eg hseq (fun h k => K3.t h k) (fun W l o o' hl h1 h2 h3 => ⟨KB.b hB1 W l o o' hl h1 h2 h3, KB.b hB2 W l o o' hl h1 h2 h3, KB.b hB3 W l o o' hl h1 h2 h3⟩) hb0 (fun _ => rfl) I Ix hI hIx h0
    (fun x a' _ => a' = { tmps := (a.tmps.setIfInBounds tv (ev x)).setIfInBounds tb (ev x), defers := [] })
    ?_ ?_ ?_ hdone hstop
  · rintro x a' _ X Y row h _ _
    exact h
  · intro l pre x W K hi hK
    have e : ((#[tv] : Array Tmp).zip #[ev x]).foldl (fun t (p, v) => t.setIfInBounds p v) a.tmps = a.tmps.setIfInBounds tv (ev x) := by simp
    rw [e]
    exact hassign l x W K (hK _ _ ((KeepsOthers.refl W).from _) (K3.rf _ _ _ _) hi rfl)
  · rintro l pre x a' W hl hr hi rfl hN
    exact hbody l pre x W hl hr hi hN
end
theorem hours_any (F lo hi : Nat) (w : World) : Calls Try.prog 79 #[.pointer (some ⟨F, 0, none⟩), .agg #[.int .i64 (lo : Nat), .int .i64 (hi : Nat)]] w fun e w' =>
    e = .returned (.func (.func 101) #[] #[.pointer (some ⟨w.heap.size + 1, 0, none⟩), .pointer (some ⟨w.heap.size, 0, none⟩)]) ∧ w' = (w.alloc (.cells #[.pointer (some ⟨F, 0, none⟩)] 96)).alloc (.cells #[.int .i64 (lo : Nat), .int .i64 (hi : Nat)] 30) := by
  go_enter Try.func79, Try.ntmps79
  go_wp2
  go_ret
  exact ⟨rfl, rfl⟩
/-- an hour, not too late -/
abbrev Hr : Type := { x : Nat // x ≤ 100000000000 }
theorem hours_stops (n : Nat) (hn : 1 ≤ n) (B3 B2 F lo hi H : Nat) (FC : Array Value) (hlo : lo ≤ 100000000000) (hhi : hi ≤ 100000000000) (w : World) (hB3 : Blk w B3 30 #[.int .i64 (lo : Nat), .int .i64 (hi : Nat)]) (hB2 : Blk w B2 96 #[.pointer (some ⟨F, 0, none⟩)]) (hF : Blk w F 112 FC) (h15 : FC[15]? = some (.int .i64 (H : Nat))) :
    SeqStopsK Fence.wide n Try.prog 101 #[.pointer (some ⟨B3, 0, none⟩), .pointer (some ⟨B2, 0, none⟩)] (fun x : Hr => #[.int .i64 (x.1 : Nat)]) (K3 B3 B2 F) (fun ys => ys.map (·.1) = hrsL lo hi H) (fun pre => pre.map (·.1) <+: hrsL lo hi H) (hrsL lo hi H).length w :=
  fun l J Jx W hW _ _ hY h0 => (hours_in Fence.wide n trivial rfl hn l B3 B2 F lo hi H FC hlo hhi (fun ls W => ∃ xs : List Hr, xs.map (·.1) = ls ∧ J xs W) (fun ls W => ∃ xs : List Hr, xs.map (·.1) = ls ∧ Jx xs W)
    (fun pre x W' hx ⟨xs, e, hJ⟩ hl => (hY xs ⟨x, hx⟩ W' hJ (by rw [← e, List.length_map] at hl; exact hl)).mono fun e' W2 h => by
      rcases h with ⟨h1, h2, h3⟩ | ⟨h1, h2⟩
      · exact .inl ⟨h1, ⟨_, by rw [List.map_append, e]; rfl, h2⟩, h3⟩
      · exact .inr ⟨h1, ⟨_, by rw [List.map_append, e]; rfl, h2⟩⟩)
    W (hB3.keep hW) (hB2.keep hW) (hF.keep hW) h15 ⟨[], rfl, h0⟩).mono fun e W' h => by
      obtain ⟨hv, h⟩ := h
      refine ⟨hv, ?_⟩
      rcases h with ⟨ys, rfl, xs, h1, h2⟩ | ⟨pre, hp, xs, h1, h2⟩
      · exact .inl ⟨xs, h1, h2⟩
      · exact .inr ⟨xs, by dsimp only; rw [h1]; exact hp, h2⟩
end Go.Proofs.Ytcekdljjmfkacaa
