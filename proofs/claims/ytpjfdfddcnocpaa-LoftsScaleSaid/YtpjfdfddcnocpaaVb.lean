import Derived.Test.YtpjfdfddcnocpaaVa
set_option linter.unusedSimpArgs false
set_option linter.unusedVariables false
namespace Go.Proofs.Ytpjfdfddcnocpaa
open Go.RowKit Go.Shelf
attribute [local go_sem] Oper.semAt_some wide_fn wide_dep wideR_fn wideR_dep

section
variable {F : Fence} {n : Nat} {P : Program}
/-- a range over a function whose one loop variable is a slot: tb -/
theorem rangeFunc_var {α : Type} {g : Operand} {tv : Tmp} {assign body : Code} {Q : Exit → Act → World → Prop} {a : Act} {w : World}
    (hro : F.round = none) (h1 : 1 ≤ n) {gf : Nat} {lb : Array Value} (hg : a.eval g = .func (.func gf) #[] lb) (hFg : F.fn gf) (eg : ∀ args w, (callFunc gf args).run P w = .ok (.enter gf args) w)
    {ev : α → Value} {B : Nat} {S Sp : List α → Prop} {N : Nat} {w0 : World} (hseq : SeqStopsK F (n - 1) P gf lb (fun x => #[ev x]) (KB B) S Sp N w0)
    (hB : B < w.heap.size) (hb0 : Below w0.heap.size w0 w)
    (I : List α → World → Prop) (Ix : Code → List α → World → Prop) (hI : OwnFrom w.heap.size I) (hIx : ∀ c, OwnFrom w.heap.size (Ix c)) (h0 : I [] w)
    (tb : Tmp)
    (hassign : ∀ (l : Nat) (x : α) (W : World) (K : Act → World → Prop), K { tmps := (a.tmps.setIfInBounds tv (ev x)).setIfInBounds tb (ev x), defers := [] } W →
      assign.wpIn (F.inRound l) (n - 1 - 1) P (Exit.then K (fun _ _ _ => False)) { tmps := a.tmps.setIfInBounds tv (ev x), defers := [] } W)
    (hbody : ∀ (l : Nat) (pre : List α) (x : α) (W : World), w.heap.size ≤ l → (∃ r, W.heap[l]? = some (.loop r)) → I pre W → pre.length < N →
      body.wpIn (F.inRound l) (n - 1 - 1) P (ownPostG w.heap.size (KB B) I Ix (pre ++ [x]) W) { tmps := (a.tmps.setIfInBounds tv (ev x)).setIfInBounds tb (ev x), defers := [] } W)
    (hdone : ∀ (D : Nat) (xs : List α) (W : World), w.heap.size ≤ D → S xs → I xs W → W.heap[D]? = some (.deferred (some [])) → Q .normal { a with defers := { target := .collected D, args := #[] } :: a.defers } W)
    (hstop : ∀ (D : Nat) (c : Code) (pre : List α) (W : World), w.heap.size ≤ D → Sp pre → Ix c pre W → W.heap[D]? = some (.deferred (some [])) → c.wpIn F n P Q { a with defers := { target := .collected D, args := #[] } :: a.defers } W) :
    (Code.rangeFunc g #[tv] assign body).wpIn F n P Q a w := by
  refine wpIn_rangeFunc_ownH hro h1 hg hFg eg hseq (fun h k => KB.t h k) (KB.b hB) hb0 (fun _ => rfl) I Ix hI hIx h0
    (fun x a' _ => a' = { tmps := (a.tmps.setIfInBounds tv (ev x)).setIfInBounds tb (ev x), defers := [] })
    ?_ ?_ ?_ hdone hstop
  · rintro x a' _ X Y row h _ _
    exact h
  · intro l pre x W K hi hK
    have e : ((#[tv] : Array Tmp).zip #[ev x]).foldl (fun t (p, v) => t.setIfInBounds p v) a.tmps = a.tmps.setIfInBounds tv (ev x) := by simp
    rw [e]
    exact hassign l x W K (hK _ _ ((KeepsOthers.refl W).from _) (KB.rf _ _) hi rfl)
  · rintro l pre x a' W hl hr hi rfl hN
    exact hbody l pre x W hl hr hi hN
end

theorem own_weaken {W : World} {base base' : Nat} {e : TypeId} {size k : Nat} {v : Value} {xs : List Value} (h : W.ownsRow base e size v k xs) (hb : base' ≤ base) : W.ownsRow base' e size v k xs := by
  refine ⟨h.1, ?_⟩
  rcases h.2 with h' | ⟨g, cap, cur, h1, h2, h3⟩
  · exact .inl h'
  · exact .inr ⟨g, cap, cur, h1, Nat.le_trans hb h2, h3⟩
theorem cell_one_new (w : World) (t : TypeId) (v : Value) : ∀ j u, [v][j]? = some u → (w.alloc (.cells #[v] t)).cell? ((⟨w.heap.size, 0, none⟩ : Addr).add j) = some u :=
  World.news_of_block (cs := #[v]) (t := t) (fr := (0, 0)) (heap_alloc_new w _)
theorem vals_stops (n : Nat) (hn : 1 ≤ n) (B g off cap : Nat) (ls : List Int) (hlen : ls.length ≤ 4611686018427387904) (w : World) (hBs : Blk w B 22 #[.slice (some ⟨g, off, none⟩) ls.length cap]) (hg : g < w.heap.size) (hI : IntsIn w g off ls) :
    SeqStopsK Fence.wide n Try.prog 105 #[.pointer (some ⟨B, 0, none⟩)] (fun x : Int => #[.int .i64 x]) (KB g) (fun ys => ys = ls) (fun pre => pre <+: ls) ls.length w :=
  fun l J Jx W hW _ _ hY h0 => vals_in Fence.wide n trivial rfl hn l B g off cap ls hlen J Jx hY W (hBs.keep hW) (hI.kb (hW.block g hg)) h0

def ApInv (w : World) (pre : List Int) (W : World) : Prop :=
  ∃ v, Blk W w.heap.size 22 #[v] ∧ W.ownsRow (w.heap.size + 1) 3 1 v pre.length (pre.map (Value.int .i64)) ∧ G w W ∧ w.heap.size + 1 ≤ W.heap.size
theorem apInv_own (w : World) (B : Nat) (hB : w.heap.size + 1 ≤ B) : OwnFrom B (ApInv w) := by
  rintro pre X Y row ⟨v, b1, hr, hG, hs⟩ hg hrow
  have hn : some w.heap.size ≠ row := fun e => by
    obtain ⟨_, o, ho, hc⟩ := hrow _ e.symm
    rw [show X.heap[w.heap.size]? = _ from b1] at ho; cases ho; cases hc
  exact ⟨v, b1.grown hg hn, ownsRow_kept' hr hg (fun r e => (hrow r e).2), (((G.fr (R := fun _ => False) hG).grown hg (fun g e => .inr (by have := (hrow g e).1; omega)))).toG (fun _ _ h => h), Nat.le_trans hs hg.size⟩

theorem info3 : (Try.prog.info? 3).map (fun i => (i.zero, i.size, i.bytes)) = some (some (.int .i64 0), 1, 8) := by kernel_rfl

set_option maxRecDepth 100000 in
set_option maxHeartbeats 2000000 in
theorem appendSeq_in (n : Nat) (hn : 3 ≤ n) (B g off cap : Nat) (ls : List Int) (hlen : ls.length ≤ 1000000) (w : World) (hBs : Blk w B 22 #[.slice (some ⟨g, off, none⟩) ls.length cap]) (hg : g < w.heap.size) (hI : IntsIn w g off ls) :
    CallsIn Fence.wide n Try.prog 107 #[.slice none 0 0, .func (.func 105) #[] #[.pointer (some ⟨B, 0, none⟩)]] w fun e w' =>
      ∃ v, e = .returned v ∧ w'.ownsRow w.heap.size 3 1 v ls.length (ls.map (Value.int .i64)) ∧ G w w' := by
  refine callsIn_of_wp_marks Try.func107 rfl trivial ?_ rfl
  simp only [Try.ntmps107, List.size_toArray, List.length_cons, List.length_nil, Nat.reduceAdd, Nat.reduceSub, Array.replicate_succ, Array.replicate_zero, List.push_toArray, List.append_toArray, List.nil_append, List.cons_append]
  gi_wp2
  refine rangeFunc_var (F := Fence.wide) (α := Int) (gf := 105) (lb := #[.pointer (some ⟨B, 0, none⟩)]) rfl (by omega) rfl trivial (enters_of Try.func105 (by kernel_rfl) rfl)
    (ev := fun x => .int .i64 x) (B := g) (vals_stops (n - 1) (by omega) B g off cap ls (by omega) (w.alloc (.cells #[.slice none 0 0] 22)) (hBs.alloc _) (by simp; omega) (hI.kb (Below.heap_alloc _ _ _ hg)))
    (by simp; omega) (Below.refl _ _) (ApInv w) (fun _ _ _ => False) (apInv_own _ _ (by simp)) (fun _ _ _ _ _ h _ _ => h) ?h0 5 ?assign ?body ?done ?stop
  case h0 => exact ⟨_, Blk.new _ _ _, World.ownsRow_nil _ _ _ _, (G.rf _).a _, by simp⟩
  case assign =>
    intro l x W K hK
    gi_wp2
    exact hK
  case body =>
    rintro l pre x W hl hrec ⟨v, b1, hr, hG, hs⟩ hN
    obtain ⟨i0, hi0, hz0, hz1, hz2⟩ := info_parts info3
    have c0 := b1.cell 0
    have lA := b1.lt
    have nA := own_ne hr b1 (by decide)
    gi_wp2_with (gi_at_builtin; refine wpListIn_append_own _ rfl _ _ 22 rfl (w.heap.size + 1) 3 i0 (.int .i64 0) 1 8 Try.underlying22 hi0 hz0 hz1 hz2 rfl (by decide) _ _ _ rfl (hr.alloc _) ⟨W.heap.size, 0, none⟩ 1 1 [.int .i64 x] rfl rfl (cell_one_new _ _ _) (by simp [Value.oneCell']) (by unfold maxLen; omega) (by omega) (by simp; omega) ?_; intro v' w3 hown' hg3 hnil3; have b3 := (b1.alloc (.cells #[.int .i64 x] 3)).grown hg3 nA; have c3 := b3.cell 0; have z3 := b3.frozen 0; obtain ⟨g', cap', rfl⟩ : ∃ g' cap', v' = .slice (some ⟨g', 0, none⟩) (pre.length + 1) cap' := (by
         rcases hown'.2 with ⟨_, h0⟩ | ⟨g', cap', _, h1, _⟩
         · exact absurd h0 (by omega)
         · exact ⟨g', cap', h1⟩); go_frame)
    have bE := b3.set_ 0 (.slice (some ⟨g', 0, none⟩) (pre.length + 1) cap')
    have hownE := hown'.kept (grownBy_set w3 ⟨w.heap.size, 0, none⟩ (.slice (some ⟨g', 0, none⟩) (pre.length + 1) cap')) (.inr (own_ne hown' b3 (by decide)).symm)
    have frE : Fr (fun i => i = w.heap.size ∨ v.ownBlock = some i) W (w3.setCell ⟨w.heap.size, 0, none⟩ (.slice (some ⟨g', 0, none⟩) (pre.length + 1) cap')) :=
      (((Fr.rf _ W).a _).grown hg3 (fun g e => .inl (.inr e))).s (.inl (.inl rfl)) _
    generalize w3.setCell ⟨w.heap.size, 0, none⟩ (.slice (some ⟨g', 0, none⟩) (pre.length + 1) cap') = wE at *
    have hB3 : ∀ i, v.ownBlock = some i → w.heap.size + 1 ≤ i := fun i h => own_base hr h
    refine ⟨frE.keeps ?_ _, frE.kb (by omega) ?_, ?_⟩
    · rintro i (rfl | h) _
      · exact ⟨_, _, _, b1⟩
      · exact own_cells hr h
    · rintro (h | h)
      · omega
      · have := hB3 _ h; omega
    · refine ⟨_, bE, by simpa using hownE, ((G.fr (R := fun _ => False) hG).t2 frE (fun i hi h => ?_)).toG (fun _ _ h => h), Nat.le_trans hs frE.size⟩
      rcases h with h | h
      · omega
      · have := hB3 _ h; omega
  case done =>
    rintro D xs W hD rfl ⟨v, b1, hr, hG, hs⟩ hDef
    have c0 := b1.cell 0
    gi_wp2
    refine ⟨by simp, .inl ⟨_, _, rfl, run_takeDeferred hDef, ?_⟩⟩
    refine ⟨_, results_tmp rfl _ _ _, _, rfl, ?_, ?_⟩
    · exact own_weaken (ownsRow_kept' (row := some D) hr ⟨rfl, rfl, rfl, by simp [World.putObj], fun i _ hn => World.putObj_heap_other (fun e => hn (by rw [e]))⟩ (fun r e => by cases e; exact ⟨_, hDef, rfl⟩)) (by omega)
    · have hf : Fr (fun i => i = D) W (W.putObj D (.deferred none)) := ⟨rfl, rfl, rfl, by simp [World.putObj], fun i _ hn => World.putObj_heap_other hn⟩
      refine ((G.fr (R := fun _ => False) hG).t2 hf (fun i hi h => ?_)).toG (fun _ _ h => h)
      simp at hD
      omega
  case stop =>
    rintro D c pre W _ _ h _
    exact h.elim
end Go.Proofs.Ytpjfdfddcnocpaa
