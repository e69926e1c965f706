import Derived.Test.YtcekdljjmfkacaaNe
import Derived.Maps.Own
import Derived.Maps.OwnSet
import Derived.DeepKeys4
set_option linter.unusedSimpArgs false
set_option linter.unusedVariables false
namespace Go.Proofs.Ytcekdljjmfkacaa
open Go.RowKit Go.Maps
attribute [local go_sem] Oper.semAt_some
theorem laidOut6 : laidOutB Try.prog = true := by kernel_rfl
theorem wideSpot : (match Try.prog.underlying 105 with | some (.array _ _) | some (.struct _) => true | _ => false) = true := by kernel_rfl
set_option maxRecDepth 100000 in
theorem lawSpot : Keyed Try.prog 105 := Keyed.of_law (deep_law_laid laidOut6 (m := 3) (by omega) (of_decide_eq_true (by kernel_rfl)) (by kernel_rfl) wideSpot)
theorem k105 : Try.prog.cellsOf 105 = 3 := by kernel_rfl
theorem k27p : Try.prog.cellsOf 27 = 2 := by kernel_rfl
theorem k3p : Try.prog.cellsOf 3 = 1 := by kernel_rfl
theorem tysz : ∃ m, Try.prog.types.size + 1 = m + 3 := by
  have : decide (2 ≤ Try.prog.types.size) = true := by kernel_rfl
  have := of_decide_eq_true this
  exact ⟨Try.prog.types.size - 2, by omega⟩
def i64b (n : Int) : Prop := -9223372036854775808 ≤ n ∧ n ≤ 9223372036854775807
theorem wf64 {n : Int} (h : i64b n) : (Lit.int .i64 n).wf = true := by
  unfold i64b at h
  exact WalkArith.wf_i64 (by omega)
theorem spotKey {x y h : Int} (hx : i64b x) (hy : i64b y) (hh : i64b h) : ∃ l, keyOf Try.prog 105 (.agg #[.int .i64 x, .int .i64 y, .int .i64 h]) = some l := by
  have hkt : Try.prog.keyType 105 = true := by kernel_rfl
  have hf : (Value.agg #[.int .i64 x, .int .i64 y, .int .i64 h]).formed Try.prog 105 = true := by
    simp [Value.formed, Try.underlying105, k105]
  obtain ⟨m, hm⟩ := tysz
  unfold keyOf
  rw [Try.underlying105]
  simp only [hkt, hf, Bool.and_self, if_true, hm]
  have w1 := wf64 hx
  have w2 := wf64 hy
  have w3 := wf64 hh
  simp [Program.keyLits, Try.underlying105, Try.underlying27, Try.underlying3, k105, k27p, k3p, Value.cells, w1, w2, w3, List.mapM_cons]
  rw [if_pos (fun i hi => by
    match i, hi with
    | 0, _ => simp
    | 1, _ => simp)]
  simp

/-- how a sky reads in a map -/
def skD (s : Sk) : DataW Unit := .agg [.lit (.int .i64 s.wl), .lit (.int .i64 s.wh), .lit (.int .i64 s.sl), .lit (.int .i64 s.sh), .lit (.int .i64 s.hl), .lit (.int .i64 s.hh)]
def skR (v : Value) : Option (DataW Unit × List MemPlace) :=
  match v with
  | .agg ⟨[.int .i64 a, .int .i64 b, .int .i64 c, .int .i64 d, .int .i64 e, .int .i64 f]⟩ => some (skD ⟨a, b, c, d, e, f⟩, [])
  | _ => none
theorem skR_mk (s : Sk) : skR (.agg s.v) = some (skD s, []) := rfl
theorem skR_inv {v : Value} {z : DataW Unit × List MemPlace} (h : skR v = some z) : ∃ s : Sk, v = .agg s.v ∧ z = (skD s, []) := by
  unfold skR at h
  split at h
  · rename_i a b c d e f
    simp only [Option.some.injEq] at h
    exact ⟨⟨a, b, c, d, e, f⟩, rfl, h.symm⟩
  · cases h
theorem skD_inj {a b : Sk} (h : skD a = skD b) : a = b := by
  obtain ⟨a0, a1, a2, a3, a4, a5⟩ := a
  obtain ⟨b0, b1, b2, b3, b4, b5⟩ := b
  unfold skD at h
  simp only [DataW.agg.injEq, List.cons.injEq, DataW.lit.injEq, Lit.int.injEq, true_and, and_true] at h
  obtain ⟨h0, h1, h2, h3, h4, h5⟩ := h
  subst h0 h1 h2 h3 h4 h5
  rfl
def spotV (x y h : Int) : Value := .agg #[.int .i64 x, .int .i64 y, .int .i64 h]
/-- block m is a map of at most n entries that gives for each spot what S says -/
def WMap (W : World) (m n : Nat) (S : Int → Int → Int → Option Sk) : Prop :=
  ∃ D : DataW Unit, W.ownsMap Try.prog 105 skR m n D ∧ ∀ x y h, i64b x → i64b y → i64b h → ∀ l, keyOf Try.prog 105 (spotV x y h) = some l →
    Maps.has D l = (S x y h).isSome ∧ ∀ s, S x y h = some s → ∀ z, D.atKey l z = skD s
theorem WMap.lt {W : World} {m n : Nat} {S : Int → Int → Int → Option Sk} (h : WMap W m n S) : m < W.heap.size := by
  obtain ⟨D, h1, _⟩ := h
  exact h1.lt
theorem WMap.made (W : World) : WMap (W.alloc (.map #[] 0)) W.heap.size 0 (fun _ _ _ => none) :=
  ⟨_, World.ownsMap_made _ _ _ _, fun x y h _ _ _ l hl => ⟨rfl, fun s hs => by cases hs⟩⟩
theorem WMap.keep {W W' : World} {m n : Nat} {S : Int → Int → Int → Option Sk} (h : WMap W m n S) (hG : G W W') : WMap W' m n S := by
  obtain ⟨D, h1, h2⟩ := h
  refine ⟨D, ?_, h2⟩
  obtain ⟨es, clock, hb, F, hs, e⟩ := h1
  exact ⟨es, clock, (hG.block m (Array.getElem?_eq_some_iff.1 hb).1).trans hb, F, hs, e⟩
theorem zeroSky (w : World) : (zeroValue 102).run Try.prog w = .ok (.agg sk0.v) w := by kernel_rfl
theorem key_inj {x y h x' y' h' : Int} {l : Lit} (h1 : keyOf Try.prog 105 (spotV x y h) = some l) (h2 : keyOf Try.prog 105 (spotV x' y' h') = some l) : x = x' ∧ y = y' ∧ h = h' := by
  have e := lawSpot.inj h1 h2
  unfold spotV at e
  simp at e
  exact e
theorem WMap.look {W : World} {m n : Nat} {S : Int → Int → Int → Option Sk} (h : WMap W m n S) {x y t : Int} (hx : i64b x) (hy : i64b y) (ht : i64b t) :
    ∃ s : Sk, (Instr.lookup 110 (.map (some m)) (spotV x y t) true).run Try.prog W = .ok (.tuple #[.agg s.v, .bool (S x y t).isSome]) W ∧ ∀ s', S x y t = some s' → s = s' := by
  obtain ⟨D, h1, h2⟩ := h
  obtain ⟨l, hl⟩ := spotKey hx hy ht
  obtain ⟨v, ps, hrun, hv⟩ := h1.look_ok lawSpot Try.underlying110 (zeroSky W) (skR_mk sk0) hl
  obtain ⟨s, rfl, hs⟩ := skR_inv hv
  obtain ⟨e1, e2⟩ := h2 x y t hx hy ht l hl
  rw [e1] at hrun
  refine ⟨s, hrun, fun s' hs' => ?_⟩
  simp only [Prod.mk.injEq] at hs
  exact (skD_inj ((e2 s' hs' _).symm.trans hs.1)).symm
theorem WMap.store {W : World} {m n : Nat} {S : Int → Int → Int → Option Sk} (h : WMap W m n S) {x y t : Int} (hx : i64b x) (hy : i64b y) (ht : i64b t) (hn : n < maxLen) (s : Sk) :
    ∃ W', (Instr.mapUpdate 110 (.map (some m)) (spotV x y t) (.agg s.v)).run Try.prog W = .ok () W' ∧ WMap W' m (n + 1) (fun x' y' t' => if x' = x ∧ y' = y ∧ t' = t then some s else S x' y' t') ∧ W.grownBy W' (some m) := by
  obtain ⟨D, h1, h2⟩ := h
  obtain ⟨l, hl⟩ := spotKey hx hy ht
  obtain ⟨W', hrun, hown, hg⟩ := h1.update lawSpot Try.underlying110 hn hl (skR_mk s)
  refine ⟨W', hrun, ⟨_, hown, fun x' y' t' hx' hy' ht' l' hl' => ?_⟩, hg⟩
  by_cases e : x' = x ∧ y' = y ∧ t' = t
  · obtain ⟨rfl, rfl, rfl⟩ := e
    have el : l' = l := by
      have := hl'.symm.trans hl
      simpa using this
    subst el
    dsimp only
    rw [if_pos ⟨rfl, rfl, rfl⟩]
    have hk : WideAt.IsKeyLit l' := lawSpot.key hl'
    exact ⟨Maps.has_put_same h1.isMap hk _, fun s' hs' z => by
      simp only [Option.some.injEq] at hs'
      subst hs'
      exact Maps.atKey_put_same h1.isMap hk _ _⟩
  · have hne : l' ≠ l := fun el => e (by
      subst el
      exact key_inj hl' hl)
    dsimp only
    rw [if_neg e]
    obtain ⟨e1, e2⟩ := h2 x' y' t' hx' hy' ht' l' hl'
    exact ⟨(Maps.has_put_other hne _).trans e1, fun s' hs' z => (Maps.atKey_put_other hne _ _).trans (e2 s' hs' z)⟩
end Go.Proofs.Ytcekdljjmfkacaa
