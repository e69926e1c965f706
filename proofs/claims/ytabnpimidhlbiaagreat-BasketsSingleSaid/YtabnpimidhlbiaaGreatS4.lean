import Derived.Below
import Derived.BigQuiet
import Derived.Deep.AppendLies
import Derived.Deep.Draws
import Derived.Deep.QuietTactic
import Derived.Deep.RegionHeld
import Derived.Deep.Slices
import Derived.Ground.Names2Prog
import Derived.Ground.SlsfProg
import Derived.Ground.SlsoProg
import Derived.IntWalk
import Derived.Laws.AppendOwn
import Derived.Laws.AppendOwnNone
import Derived.Laws.OwnMore
import Derived.Laws.Rows
import Derived.Laws.StructEq
import Derived.Lib.Hide
import Derived.Lib.SlKeysI
import Derived.Lib.SliceRun
import Derived.Lib.SmallJoins
import Derived.LoopIn
import Derived.LoopNIn
import Derived.Maps.OwnSet
import Derived.Maps.Views
import Derived.OpenShut
import Derived.OrdersHeld
import Derived.OrdersIn
import Derived.Outline
import Derived.OwnWalkIn
import Derived.ProofKit
import Derived.RangeFuncBound
import Derived.RangeFuncCalls
import Derived.RangeFuncLeaves
import Derived.RangeFuncNested
import Derived.Shelf.Abstract
import Derived.Shelf.GgSortFunc.InsertionK
import Derived.Shelf.RegionOpen
import Derived.Shelf.SlSortCmp.NoneTotal
import Derived.Shelf.SlSortCmp.WholeK
import Derived.Shelf.SlSorted.Search
import Derived.Shelf.Slices.Cells
import Derived.Shelf.Slices.CompactI
import Derived.Shelf.Slices.In.SortNone
import Derived.Shelf.Slices.SearchI
import Derived.Shelf.Small.Bits
import Derived.Shelf.Sort.Plain
import Derived.Shelf.Strconv.Itoa0
import Derived.Sort.Grow
import Derived.TacticsIn
import Derived.TacticsInMore
import Derived.Test.YtabnpimidhlbiaaGreatProg
import Derived.WalkKit
import Derived.WalkSpells
import Derived.Test.YtabnpimidhlbiaaGreatS3
set_option linter.unusedSimpArgs false
set_option linter.unusedVariables false
namespace Go.Proofs.YtabnpimidhlbiaaGreat
/-- where an act belongs among the first k of acts -/
def posK (out : List Ac) (x : Ac) : Nat → Nat
  | 0 => 0
  | k + 1 => if ltA (out.getD k default) x then k + 1 else posK out x k
theorem posK_le (out : List Ac) (x : Ac) : ∀ k, posK out x k ≤ k
  | 0 => Nat.le_refl _
  | k + 1 => by
    have ih := posK_le out x k
    unfold posK
    by_cases h : ltA (out.getD k default) x
    · rw [if_pos h]; exact Nat.le_refl _
    · rw [if_neg h]; omega
theorem posK_lt (out : List Ac) (x : Ac) : ∀ k, posK out x k = 0 ∨ ltA (out.getD (posK out x k - 1) default) x
  | 0 => .inl rfl
  | k + 1 => by
    have ih := posK_lt out x k
    unfold posK
    by_cases h : ltA (out.getD k default) x
    · rw [if_pos h]; exact .inr h
    · rw [if_neg h]; exact ih
theorem posK_ge (out : List Ac) (x : Ac) : ∀ k i, posK out x k ≤ i → i < k → ¬ ltA (out.getD i default) x
  | 0, i, _, h => absurd h (by omega)
  | k + 1, i, h1, h2 => by
    unfold posK at h1
    by_cases h : ltA (out.getD k default) x
    · rw [if_pos h] at h1; omega
    · rw [if_neg h] at h1
      by_cases e : i = k
      · rw [e]; exact h
      · exact posK_ge out x k i h1 (by omega)
/-- an act is put in its place, if it is not there -/
def insA (out : List Ac) (x : Ac) : List Ac := if out.any (fun y => acB y x) = true then out else out.take (posK out x out.length) ++ x :: out.drop (posK out x out.length)
theorem any_mem {out : List Ac} {x : Ac} : out.any (fun y => acB y x) = true ↔ x ∈ out := by
  rw [List.any_eq_true]
  constructor
  · rintro ⟨y, hy, e⟩
    rw [(acB_iff y x).1 e] at hy
    exact hy
  · exact fun h => ⟨x, h, (acB_iff x x).2 rfl⟩
theorem insA_mem (out : List Ac) (x y : Ac) : y ∈ insA out x ↔ y = x ∨ y ∈ out := by
  unfold insA
  by_cases h : out.any (fun y => acB y x) = true
  · rw [if_pos h]
    constructor
    · exact fun hy => .inr hy
    · rintro (rfl | hy)
      · exact any_mem.1 h
      · exact hy
  · rw [if_neg h, List.mem_append, List.mem_cons]
    have e := List.take_append_drop (posK out x out.length) out
    constructor
    · rintro (h1 | h1 | h1)
      · exact .inr (List.mem_of_mem_take h1)
      · exact .inl h1
      · exact .inr (List.mem_of_mem_drop h1)
    · rintro (h1 | h1)
      · exact .inr (.inl h1)
      · rw [← e, List.mem_append] at h1
        rcases h1 with h1 | h1
        · exact .inl h1
        · exact .inr (.inr h1)
theorem getD_of_getElem {out : List Ac} {i : Nat} (h : i < out.length) : out.getD i default = out[i] := by simp [List.getD, h]
theorem insA_str {out : List Ac} {x : Ac} (h : StrA out) (h1 : ∀ y ∈ out, y.id = x.id → y = x) : StrA (insA out x) := by
  unfold insA
  by_cases ha : out.any (fun y => acB y x) = true
  · rw [if_pos ha]; exact h
  · rw [if_neg ha]
    have hx : x ∉ out := fun hx => ha (any_mem.2 hx)
    obtain ⟨p, hp⟩ : ∃ p, p = posK out x out.length := ⟨_, rfl⟩
    have hpl := posK_le out x out.length
    have hlt := posK_lt out x out.length
    have hge := posK_ge out x out.length
    rw [← hp] at hpl hlt hge ⊢
    have hs := List.pairwise_iff_getElem.1 h
    have hA : ∀ a ∈ out.take p, ltA a x := fun a ha => by
      obtain ⟨i, hi, rfl⟩ := List.getElem_of_mem ha
      rw [List.length_take] at hi
      rw [List.getElem_take]
      rcases hlt with h0 | h0
      · omega
      · rw [getD_of_getElem (by omega)] at h0
        by_cases e : i = p - 1
        · subst e; exact h0
        · exact ltA_trans (hs i (p - 1) (by omega) (by omega) (by omega)) h0
    have hB : ∀ b ∈ out.drop p, ltA x b := fun b hb => by
      obtain ⟨i, hi, rfl⟩ := List.getElem_of_mem hb
      rw [List.length_drop] at hi
      rw [List.getElem_drop]
      have hn := hge (p + i) (by omega) (by omega)
      rw [getD_of_getElem (by omega)] at hn
      have hm : out[p + i] ∈ out := List.getElem_mem _
      refine lt_of_leA (by unfold ltA at hn; unfold leA; omega) fun e => ?_
      exact hx (h1 _ hm e.2.symm ▸ hm)
    have hsp : (out.take p ++ out.drop p).Pairwise ltA := by rw [List.take_append_drop]; exact h
    have h3 := List.pairwise_append.1 hsp
    refine List.pairwise_append.2 ⟨h3.1, List.pairwise_cons.2 ⟨hB, h3.2.1⟩, fun a hma b hb => ?_⟩
    rcases List.mem_cons.1 hb with rfl | hb
    · exact hA a hma
    · exact h3.2.2 a hma b hb
/-- the reference's order of acts -/
def heaL (l : List Ac) : List Ac := l.foldl insA []
theorem heaL_facts (m : List Ac) (hm : OneId m) : ∀ (l out : List Ac), (∀ x ∈ l, x ∈ m) → (∀ x ∈ out, x ∈ m) → StrA out → StrA (l.foldl insA out) ∧ ∀ y, y ∈ l.foldl insA out ↔ y ∈ l ∨ y ∈ out
  | [], out, _, _, h => ⟨h, fun y => by simp⟩
  | x :: l, out, hl, ho, h => by
    have h1 : StrA (insA out x) := insA_str h fun y hy e => hm y (ho y hy) x (hl x (by simp)) e
    have h2 : ∀ y ∈ insA out x, y ∈ m := fun y hy => by
      rcases (insA_mem out x y).1 hy with rfl | hy
      · exact hl y (by simp)
      · exact ho y hy
    obtain ⟨r1, r2⟩ := heaL_facts m hm l (insA out x) (fun y hy => hl y (List.mem_cons_of_mem _ hy)) h2 h1
    refine ⟨r1, fun y => ?_⟩
    show y ∈ l.foldl insA (insA out x) ↔ _
    rw [r2, insA_mem, List.mem_cons]
    constructor
    · rintro (a | a | a)
      · exact .inl (.inr a)
      · exact .inl (.inl a)
      · exact .inr a
    · rintro ((a | a) | a)
      · exact .inr (.inl a)
      · exact .inl a
      · exact .inr (.inr a)
theorem heaL_eq {l : List Ac} (h : OneId l) : heaL l = hrd l := by
  obtain ⟨h1, h2⟩ := heaL_facts l h l [] (fun x hx => hx) (fun x hx => by simp at hx) List.Pairwise.nil
  exact hrd_of h h1 fun x => by
    show x ∈ l.foldl insA [] ↔ _
    rw [h2]
    simp
theorem hea_take (l : List Ac) {k : Nat} (h : k < l.length) : heaL (l.take (k + 1)) = insA (heaL (l.take k)) (l.getD k default) := by
  unfold heaL
  rw [List.take_succ_eq_append_getElem h, List.foldl_append, getD_of_getElem h]
  rfl
theorem insA_len (out : List Ac) (x : Ac) : (insA out x).length ≤ out.length + 1 := by
  unfold insA
  split
  · exact Nat.le_succ _
  · simp; omega
theorem heaL_len (l : List Ac) : ∀ k, k ≤ l.length → (heaL (l.take k)).length ≤ k
  | 0, _ => by simp [heaL]
  | k + 1, h => by
    rw [hea_take l (by omega)]
    have := heaL_len l k (by omega)
    have := insA_len (heaL (l.take k)) (l.getD k default)
    omega
end Go.Proofs.YtabnpimidhlbiaaGreat

set_option linter.unusedSimpArgs false
set_option linter.unusedVariables false
namespace Go.Proofs.YtabnpimidhlbiaaGreat
open Go.RowKit Go.Shelf Go.Sort
attribute [local go_sem] Oper.semAt_some
theorem wpAnyY_threeSW {P : Program} {ops : Array Oper} {md : Region.Mode} {Q : Exit → Act → World → Prop} {S : World → Prop} {z : Nat} {i j k : Nat} {oi oj ok : Oper} {fuel : Nat} {l : Array Bool} {a : Act} {w : World} (hr : Region.ready md ops l = [i, j, k]) (hi : ops[i]? = some oi) (hj : ops[j]? = some oj) (hk : ops[k]? = some ok)
    (hwi : Region.wanted oi (yielded ops a.tmps) = true) (hwj : Region.wanted oj (yielded ops a.tmps) = true) (hwk : Region.wanted ok (yielded ops a.tmps) = true)
    (h1 : ∀ K' : Act → World → Prop, Shut (∀ a w, S w → (S w → wpAnyY P md ops Q S z fuel (l.setIfInBounds i true) a w) → K' a w) → Oper.wp P oi a w K' Q)
    (h2 : ∀ K' : Act → World → Prop, Shut (∀ a w, S w → (S w → wpAnyY P md ops Q S z fuel (l.setIfInBounds j true) a w) → K' a w) → Oper.wp P oj a w K' Q)
    (h3 : ∀ K' : Act → World → Prop, Shut (∀ a w, S w → (S w → wpAnyY P md ops Q S z fuel (l.setIfInBounds k true) a w) → K' a w) → Oper.wp P ok a w K' Q) :
    wpAnyY P md ops Q S z (fuel + 1) l a w := by
  refine ⟨fun h0 => (by rw [hr] at h0; cases h0), fun x hx => ?_⟩
  rw [hr] at hx
  have hx2 : x = i ∨ x = j ∨ x = k := by simpa using hx
  rcases hx2 with rfl | rfl | rfl
  · exact wpOp_step hi (fun K' hK => by rw [if_pos hwi]; exact h1 K' (fun a w hS hW => hK a w ⟨fun _ => hS, hW hS⟩))
  · exact wpOp_step hj (fun K' hK => by rw [if_pos hwj]; exact h2 K' (fun a w hS hW => hK a w ⟨fun _ => hS, hW hS⟩))
  · exact wpOp_step hk (fun K' hK => by rw [if_pos hwk]; exact h3 K' (fun a w hS hW => hK a w ⟨fun _ => hS, hW hS⟩))
theorem resSt (f : Func) (t : Nat) (tmps : Array Value) (w : World) (g : Nat) (a0 a1 a2 a3 : Option Addr) (n0 c0 n1 c1 n2 c2 n3 c3 : Nat) (hr : f.results = #[.cell t 58]) (h : tmps.getD t undef = .pointer (some ⟨g, 0, none⟩)) (d0 : w.cell? ⟨g, 0, none⟩ = some (.slice a0 n0 c0)) (d1 : w.cell? ⟨g, 1, none⟩ = some (.slice a1 n1 c1)) (d2 : w.cell? ⟨g, 2, none⟩ = some (.slice a2 n2 c2)) (d3 : w.cell? ⟨g, 3, none⟩ = some (.slice a3 n3 c3)) :
    (results f tmps).run Tryz.prog w = .ok (.agg #[.slice a0 n0 c0, .slice a1 n1 c1, .slice a2 n2 c2, .slice a3 n3 c3]) w := by
  have h' : tmps[t]?.getD undef = .pointer (some ⟨g, 0, none⟩) := by simpa using h
  simp only [results, hr]
  go_simp
/-- a made row of zeros -/
def mkZ (n : Nat) : Array Value := madeCells (Value.cells (.int .i64 0)) n
theorem RI.made (W : World) (n : Nat) : RI (W.alloc (.cells (mkZ n) 3)) W.heap.size n (fun _ => 0) :=
  ⟨_, Blk.new W 3 (mkZ n), fun i hi => by
    have h1 : i % 1 = 0 := by omega
    simp [mkZ, madeCells, Value.cells, hi, h1]⟩
/-- what Begin has made -/
theorem beg_fin {w W3 W : World} {C q B gw g2 g5 g8 : Nat} {a0 : Option Addr} (hC : C = w.heap.size) (G0 : G w W3) (F : Fr (fun i => i = C + 1 + 1) W3 W) (bR : Blk W (C + 1) 58 #[.slice none 0 0, .slice none 0 0, .slice none 0 0, .slice none 0 0]) (r0 : q = 0 ∨ (a0 = some ⟨gw, 0, none⟩ ∧ RI W gw q (fun _ => -1))) (r2 : RI W g2 B (fun _ => 0)) (r5 : RI W g5 B (fun _ => 0)) (r8 : RI W g8 B (fun _ => 0)) (hC3 : C + 1 + 1 < W3.heap.size) (hw : W3.heap.size ≤ gw) (h2 : W3.heap.size ≤ g2) (h5 : W3.heap.size ≤ g5) (h8 : W3.heap.size ≤ g8) (n25 : g2 ≠ g5) (n28 : g2 ≠ g8) (n58 : g5 ≠ g8) (n0 : q = 0 ∨ (gw ≠ g2 ∧ gw ≠ g5 ∧ gw ≠ g8)) (v0 v1 v2 v3 : Value) :
    Blk ((((W.setCell ⟨C + 1, 0, none⟩ v0).setCell ⟨C + 1, 1, none⟩ v1).setCell ⟨C + 1, 2, none⟩ v2).setCell ⟨C + 1, 3, none⟩ v3) (C + 1) 58 #[v0, v1, v2, v3] ∧ StAt ((((W.setCell ⟨C + 1, 0, none⟩ v0).setCell ⟨C + 1, 1, none⟩ v1).setCell ⟨C + 1, 2, none⟩ v2).setCell ⟨C + 1, 3, none⟩ v3) q B Rs.zero a0 gw g2 g5 g8 ∧ G w ((((W.setCell ⟨C + 1, 0, none⟩ v0).setCell ⟨C + 1, 1, none⟩ v1).setCell ⟨C + 1, 2, none⟩ v2).setCell ⟨C + 1, 3, none⟩ v3) := by
  have hne : ∀ g, W3.heap.size ≤ g → g ≠ C + 1 := fun g h => by omega
  have far : ∀ {g n : Nat} {f : Int → Int}, RI W g n f → W3.heap.size ≤ g → RI ((((W.setCell ⟨C + 1, 0, none⟩ v0).setCell ⟨C + 1, 1, none⟩ v1).setCell ⟨C + 1, 2, none⟩ v2).setCell ⟨C + 1, 3, none⟩ v3) g n f := fun h hg =>
    (((h.far (p := ⟨C + 1, 0, none⟩) (hne _ hg) _).far (p := ⟨C + 1, 1, none⟩) (hne _ hg) _).far (p := ⟨C + 1, 2, none⟩) (hne _ hg) _).far (p := ⟨C + 1, 3, none⟩) (hne _ hg) _
  have hF : Fr (fun _ => False) w W := G0.fr.t2 F (R := fun _ => False) (fun i hi hr => by omega)
  have hG : G w W := hF.toG (fun _ _ hh => hh)
  refine ⟨(((bR.set_ 0 v0).set_ 1 v1).set_ 2 v2).set_ 3 v3, ⟨r0.imp id (fun h => ⟨h.1, far h.2 hw⟩), far r2 h2, far r5 h5, far r8 h8, n0, n25, n28, n58⟩, ?_⟩
  exact (((hG.s (p := ⟨C + 1, 0, none⟩) (by show w.heap.size ≤ C + 1; omega) v0).s (p := ⟨C + 1, 1, none⟩) (by show w.heap.size ≤ C + 1; omega) v1).s (p := ⟨C + 1, 2, none⟩) (by show w.heap.size ≤ C + 1; omega) v2).s (p := ⟨C + 1, 3, none⟩) (by show w.heap.size ≤ C + 1; omega) v3
def BegPost (w : World) (N B : Nat) (e : Ending) (w' : World) : Prop :=
  ∃ a0 g0 g1 g2 g3 c0, e = .returned (.agg #[.slice a0 N c0, .slice (some ⟨g1, 0, none⟩) B B, .slice (some ⟨g2, 0, none⟩) B B, .slice (some ⟨g3, 0, none⟩) B B]) ∧ StAt w' N B Rs.zero a0 g0 g1 g2 g3 ∧ w.heap.size ≤ g0 ∧ w.heap.size ≤ g1 ∧ w.heap.size ≤ g2 ∧ w.heap.size ≤ g3 ∧ G w w'
set_option maxRecDepth 100000 in
set_option maxHeartbeats 16000000 in
theorem begin_any (c : Cv) (w : World) (N B : Nat) (hB : c.bks = (B : Nat)) (hN : c.bds = (N : Nat)) (hB2 : B ≤ 6) (hN2 : N ≤ 12) : Calls Tryz.prog 51 #[.agg c.v] w (BegPost w N B) := by
  have HPP : Hid (∀ w' a0 g0 g1 g2 g3 c0, StAt w' N B Rs.zero a0 g0 g1 g2 g3 → w.heap.size ≤ g0 → w.heap.size ≤ g1 → w.heap.size ≤ g2 → w.heap.size ≤ g3 → G w w' → BegPost w N B (.returned (.agg #[.slice a0 N c0, .slice (some ⟨g1, 0, none⟩) B B, .slice (some ⟨g2, 0, none⟩) B B, .slice (some ⟨g3, 0, none⟩) B B])) w') := fun w' a0 g0 g1 g2 g3 c0 h1 h2 h3 h4 h5 h6 => ⟨a0, g0, g1, g2, g3, c0, rfl, h1, h2, h3, h4, h5, h6⟩
  generalize BegPost w N B = PP at *
  obtain ⟨ybks, ybds, yaa, yac, yacts, yda, ydc, yduties, yen⟩ := c
  dsimp only at hB hN
  subst hB
  subst hN
  unfold Cv.v
  dsimp only
  obtain ⟨g0, b0, b1, b2⟩ := w3_spec6 w #[.int .i64 (B : Nat), .int .i64 (N : Nat), .slice yaa yacts.length yac, .slice yda yduties.length ydc, .int .i64 yen] #[.slice none 0 0, .slice none 0 0, .slice none 0 0, .slice none 0 0] #[.slice none 0 0, .slice none 0 0, .slice none 0 0, .slice none 0 0] 25 58 58
  have lw := g0.size
  obtain ⟨i0, hi0, hz0, hz1, hz2⟩ := info_parts info3
  have hmk : ∀ W : World, (Instr.makeSlice 26 (.int .i64 (B : Nat)) (.int .i64 (B : Nat))).run Tryz.prog W = .ok (.slice (some ⟨W.heap.size, 0, none⟩) B B) (W.alloc (.cells (mkZ B) 3)) := fun W => by
    have h := run_makeSlice (P := Tryz.prog) W 26 3 i0 (.int .i64 0) Tryz.underlying26 hi0 hz0 .i64 .i64 (B : Nat) (B : Nat) (by omega) (Int.le_refl _) (by rw [hz1]; omega) (by rw [hz2]; omega) (by omega)
    rw [hz1, show ((B : Nat) : Int).toNat = B by omega, Nat.mul_one] at h
    exact h
  obtain ⟨W3, hW3⟩ : ∃ W3, W3 = ((w.alloc (.cells #[.int .i64 (B : Nat), .int .i64 (N : Nat), .slice yaa yacts.length yac, .slice yda yduties.length ydc, .int .i64 yen] 25)).alloc (.cells #[.slice none 0 0, .slice none 0 0, .slice none 0 0, .slice none 0 0] 58)).alloc (.cells #[.slice none 0 0, .slice none 0 0, .slice none 0 0, .slice none 0 0] 58) := ⟨_, rfl⟩
  rw [← hW3] at g0 b0 b1 b2 lw
  have HW3 := Lib.hid hW3
  clear hW3
  obtain ⟨C, hC⟩ : ∃ C, C = w.heap.size := ⟨_, rfl⟩
  rw [← hC] at b0 b1 b2
  have HC := Lib.hid hC
  clear hC
  go_enter Tryz.func51, Tryz.ntmps51
  go_upto_region 2 with fail
  change Code.wp _ _ _ _ (((w.alloc (.cells #[.int .i64 (B : Nat), .int .i64 (N : Nat), .slice yaa yacts.length yac, .slice yda yduties.length ydc, .int .i64 yen] 25)).alloc (.cells #[.slice none 0 0, .slice none 0 0, .slice none 0 0, .slice none 0 0] 58)).alloc (.cells #[.slice none 0 0, .slice none 0 0, .slice none 0 0, .slice none 0 0] 58))
  rw [← HW3.out, ← HC.out]
  go_wp2_with fail
  go_loopw [4] (fun vi wr => ∃ (q : Nat) (v : Value), q ≤ N ∧ vi = .int .i64 q ∧ Blk wr (C + 1 + 1) 58 #[v, .slice none 0 0, .slice none 0 0, .slice none 0 0] ∧ wr.ownsRow W3.heap.size 3 1 v q (iv (List.replicate q (-1))) ∧ Hid (Fr (fun i => i = C + 1 + 1) W3 wr)) (fun vi _ => N - (intOf vi).toNat)
  case atStart => exact ⟨0, _, Nat.zero_le _, rfl, b2, World.ownsRow_nil _ _ _ _, Fr.rf _ _⟩
  case round =>
    obtain ⟨q, v, hq, rfl, bS, ho, HF⟩ := hrel
    obtain ⟨wo, rfl⟩ : ∃ wo, wo = wr := ⟨_, rfl⟩
    have bC := HF.out.blk b0 (by omega)
    have bR := HF.out.blk b1 (by omega)
    have m0 := bC.cell 0
    have m1 := bC.cell 1
    have lC := bC.lt
    have HO := Lib.hid ho
    clear ho
    by_cases hlt : q < N
    · have hqi : (q : Int) < N := by omega
      have s0 := bS.cell 0
      have lS := bS.lt
      have hne := Lib.hid (own_ne HO.out bS (by decide))
      go_wp2_with (at_builtin; refine wpList_append_own _ rfl _ _ 26 rfl W3.heap.size 3 i0 (.int .i64 0) 1 8 Tryz.underlying26 hi0 hz0 hz1 hz2 rfl (by decide) v q (iv (List.replicate q (-1))) rfl ?hown ⟨_, 0, none⟩ 1 1 [.int .i64 (-1)] rfl rfl (cell_one_new _ _ _) (by simp [Value.oneCell']) (by unfold maxLen; omega) (by omega) ?hbase ?hrest)
      case hown => exact own_G HO.out ((G.rf _).a _)
      case hbase => exact Nat.le_trans HF.out.size (by simp)
      case hrest =>
        intro v9 w9 hown9 hg9 _
        have F9 : Fr (fun i => i = C + 1 + 1) W3 w9 := (HF.out.a _).grown hg9 (fun g e => .inr (own_base HO.out e))
        have bS9 := (bS.alloc _).grown hg9 hne.out
        obtain ⟨ra, rc, rfl⟩ := own_slice hown9
        have hne9 := Lib.hid (own_ne hown9 bS9 (by decide))
        have HN := Lib.hid hown9
        clear hown9 hg9 bS s0 lS m0 m1 lC bC bR HF
        have s0 := bS9.cell 0
        have z0 := bS9.frozen 0
        have lS := bS9.lt
        go_wp2
        have F10 := F9.s (p := ⟨C + 1 + 1, 0, none⟩) (.inl rfl) (.slice ra (q + 1) rc)
        have bS10 : Blk (w9.setCell ⟨C + 1 + 1, 0, none⟩ (.slice ra (q + 1) rc)) (C + 1 + 1) 58 #[.slice ra (q + 1) rc, .slice none 0 0, .slice none 0 0, .slice none 0 0] := bS9.set_ 0 _
        have ho10 := HN.out.kept (grownBy_set w9 ⟨C + 1 + 1, 0, none⟩ (.slice ra (q + 1) rc)) (.inr (fun e => hne9.out e.symm))
        go_roundw
        case rel => exact ⟨q + 1, _, by omega, by go_num, bS10, by rw [List.replicate_succ', iv_snoc]; exact ho10, F10⟩
        case measure => simp [intOf] <;> omega
    · obtain rfl : q = N := by omega
      have hqi : ¬ ((q : Nat) : Int) < q := by omega
      obtain ⟨a0, c0, rfl⟩ := own_slice HO.out
      have HR0 : Hid (∃ g0, W3.heap.size ≤ g0 ∧ ((q = 0) ∨ (a0 = some ⟨g0, 0, none⟩ ∧ RI wo g0 q (fun _ => -1)))) := by
        rcases HO.out.2 with ⟨hv, h0⟩ | ⟨g, cap, cur, hv, hb, hg, h1, h2, h3, h4⟩
        · exact ⟨W3.heap.size, Nat.le_refl _, .inl h0⟩
        · cases hv
          refine ⟨g, hb, .inr ⟨rfl, cur, hg, fun i hi => ?_⟩⟩
          have e : (cur.toList.take (q * 1))[i]? = (iv (List.replicate q (-1)))[i]? := by rw [h4]
          rw [List.getElem?_take_of_lt (by omega), iv_get _ (by simpa using hi)] at e
          rw [← Array.getElem?_toList, e]
          simp [List.getD, hi]
      obtain ⟨gw, hgw, hr0⟩ := HR0.out
      have HR := Lib.hid hr0
      clear HR0 HO hr0
      have g5 : Fr (fun i => i = C + 1 + 1) W3 wo := HF.out
      clear HF
      go_upto_region 6 with fail
      clear m1
      have HWO := Lib.hid (show W3.heap.size ≤ wo.heap.size from g5.size)
      have hSlt := bS.lt
      refine wp_region_Y (S := fun W' => Blk W' C 25 #[.int .i64 (B : Nat), .int .i64 (q : Nat), .slice yaa yacts.length yac, .slice yda yduties.length ydc, .int .i64 yen]) 14 15 rfl (by kernel_rfl) (bC.drewN 1) (fun hS => ?_)
      have F6 : Fr (fun i => i = C + 1 + 1) W3 wo.drew := g5.d
      have bS6 : Blk wo.drew (C + 1 + 1) 58 #[.slice a0 q c0, .slice none 0 0, .slice none 0 0, .slice none 0 0] := bS.drewN 1
      have bR6 : Blk wo.drew (C + 1) 58 #[.slice none 0 0, .slice none 0 0, .slice none 0 0, .slice none 0 0] := bR.drewN 1
      have HR6 : Hid (q = 0 ∨ (a0 = some ⟨gw, 0, none⟩ ∧ RI wo.drew gw q (fun _ => -1))) := HR.out
      have hsz6 : W3.heap.size ≤ wo.drew.heap.size := HWO.out
      have hgl : q = 0 ∨ gw < wo.drew.heap.size := HR.out.imp id (fun h => h.2.lt)
      clear g5 bS bR HR HWO hSlt bC m0 lC
      generalize wo.drew = WD at *
      refine wpAnyY_take (i := 0) (v := ?_) rfl (by kernel_rfl) (by kernel_rfl) (by kernel_rfl) (by kernel_rfl) (fun _ _ _ h => h) (Or.inl ⟨by kernel_rfl, ?_⟩) hS ?_
      rotate_left
      · intro w' hSw; go_simp; with_reducible rfl
      try simp only [Act.put, zzA, zzB, zzC, zzD, zzE, zzF]
      refine wpAnyY_take (i := 1) (v := ?_) rfl (by kernel_rfl) (by kernel_rfl) (by kernel_rfl) (by kernel_rfl) (fun _ _ _ h => h) (Or.inl ⟨by kernel_rfl, ?_⟩) hS ?_
      rotate_left
      · intro w' hSw; have m0 := hSw.cell 0; have lC := hSw.lt; go_simp; with_reducible rfl
      try simp only [Act.put, zzA, zzB, zzC, zzD, zzE, zzF]
      refine wpAnyY_take (i := 3) (v := ?_) rfl (by kernel_rfl) (by kernel_rfl) (by kernel_rfl) (by kernel_rfl) (fun _ _ _ h => h) (Or.inl ⟨by kernel_rfl, ?_⟩) hS ?_
      rotate_left
      · intro w' hSw; go_simp; with_reducible rfl
      try simp only [Act.put, zzA, zzB, zzC, zzD, zzE, zzF]
      refine wpAnyY_take (i := 4) (v := ?_) rfl (by kernel_rfl) (by kernel_rfl) (by kernel_rfl) (by kernel_rfl) (fun _ _ _ h => h) (Or.inl ⟨by kernel_rfl, ?_⟩) hS ?_
      rotate_left
      · intro w' hSw; have m0 := hSw.cell 0; have lC := hSw.lt; go_simp; with_reducible rfl
      try simp only [Act.put, zzA, zzB, zzC, zzD, zzE, zzF]
      refine wpAnyY_take (i := 6) (v := ?_) rfl (by kernel_rfl) (by kernel_rfl) (by kernel_rfl) (by kernel_rfl) (fun _ _ _ h => h) (Or.inl ⟨by kernel_rfl, ?_⟩) hS ?_
      rotate_left
      · intro w' hSw; go_simp; with_reducible rfl
      try simp only [Act.put, zzA, zzB, zzC, zzD, zzE, zzF]
      refine wpAnyY_take (i := 7) (v := ?_) rfl (by kernel_rfl) (by kernel_rfl) (by kernel_rfl) (by kernel_rfl) (fun _ _ _ h => h) (Or.inl ⟨by kernel_rfl, ?_⟩) hS ?_
      rotate_left
      · intro w' hSw; have m0 := hSw.cell 0; have lC := hSw.lt; go_simp; with_reducible rfl
      try simp only [Act.put, zzA, zzB, zzC, zzD, zzE, zzF]
      obtain ⟨ZB, hZB⟩ : ∃ ZB, ZB = WD.heap.size := ⟨_, rfl⟩
      rw [← hZB] at hsz6 hgl
      have hzb : ZB ≤ WD.heap.size := by omega
      clear hZB
      have hC3 := b2.lt
      have hgS : gw ≠ C + 1 + 1 := by omega
      have r0 := HR6.out
      clear HR6
      refine wpAnyY_threeSW (i := 2) (j := 5) (k := 8) (by kernel_rfl) rfl rfl rfl (by kernel_rfl) (by kernel_rfl) (by kernel_rfl) (fun K2 hK2 => ?_) (fun K5 hK5 => ?_) (fun K8 hK8 => ?_)
      · go_simp
        refine hK2.out _ _ (hS.alloc _) (fun hS => ?_)
        clear hK2
        try simp only [Act.put, zzA, zzB, zzC, zzD, zzE, zzF]
        have r2 := RI.made WD B
        replace F6 := F6.a (.cells (mkZ B) 3)
        replace bS6 := bS6.alloc (.cells (mkZ B) 3)
        replace bR6 := bR6.alloc (.cells (mkZ B) 3)
        replace r0 := r0.imp id (fun h => And.intro h.1 (h.2.keep ((G.rf WD).a (.cells (mkZ B) 3))))
        have hx2 : ZB ≤ WD.heap.size := hzb
        have hb2 := Nat.le_trans hsz6 hzb
        replace hzb : ZB ≤ (WD.alloc (.cells (mkZ B) 3)).heap.size := Nat.le_trans hzb (by simp)
        have hl2 : WD.heap.size < (WD.alloc (.cells (mkZ B) 3)).heap.size := by simp
        obtain ⟨gm2, hg2⟩ : ∃ g, g = WD.heap.size := ⟨_, rfl⟩
        rw [← hg2] at r2 hx2 hb2 hl2 ⊢
        clear hg2
        generalize WD.alloc (.cells (mkZ B) 3) = V0 at *
        refine wpAnyY_take (i := 9) (v := ?_) rfl (by kernel_rfl) (by kernel_rfl) (by kernel_rfl) (by kernel_rfl) (fun _ _ _ h => h) (Or.inl ⟨by kernel_rfl, ?_⟩) hS ?_
        rotate_left
        · intro w' hSw; go_simp; with_reducible rfl
        try simp only [Act.put, zzA, zzB, zzC, zzD, zzE, zzF]
        refine wpAnyY_threeSW (i := 5) (j := 8) (k := 10) (by kernel_rfl) rfl rfl rfl (by kernel_rfl) (by kernel_rfl) (by kernel_rfl) (fun K5 hK5 => ?_) (fun K8 hK8 => ?_) (fun K10 hK10 => ?_)
        · go_simp
          refine hK5.out _ _ (hS.alloc _) (fun hS => ?_)
          clear hK5
          try simp only [Act.put, zzA, zzB, zzC, zzD, zzE, zzF]
          have r5 := RI.made V0 B
          replace F6 := F6.a (.cells (mkZ B) 3)
          replace bS6 := bS6.alloc (.cells (mkZ B) 3)
          replace bR6 := bR6.alloc (.cells (mkZ B) 3)
          replace r0 := r0.imp id (fun h => And.intro h.1 (h.2.keep ((G.rf V0).a (.cells (mkZ B) 3))))
          replace r2 := r2.keep ((G.rf V0).a (.cells (mkZ B) 3))
          have hx5 : ZB ≤ V0.heap.size := hzb
          have hb5 := Nat.le_trans hsz6 hzb
          replace hzb : ZB ≤ (V0.alloc (.cells (mkZ B) 3)).heap.size := Nat.le_trans hzb (by simp)
          have hl5 : V0.heap.size < (V0.alloc (.cells (mkZ B) 3)).heap.size := by simp
          obtain ⟨gm5, hg5⟩ : ∃ g, g = V0.heap.size := ⟨_, rfl⟩
          rw [← hg5] at r5 hx5 hb5 hl5 ⊢
          have hn2_5 : gm2 ≠ gm5 := by omega
          replace hl2 : gm2 < (V0.alloc (.cells (mkZ B) 3)).heap.size := by simp <;> omega
          clear hg5
          generalize V0.alloc (.cells (mkZ B) 3) = V2 at *
          refine wpAnyY_twoSW (i := 8) (j := 10) (by kernel_rfl) rfl rfl (by kernel_rfl) (by kernel_rfl) (fun K8 hK8 => ?_) (fun K10 hK10 => ?_)
          · go_simp
            refine hK8.out _ _ (hS.alloc _) (fun hS => ?_)
            clear hK8
            try simp only [Act.put, zzA, zzB, zzC, zzD, zzE, zzF]
            have r8 := RI.made V2 B
            replace F6 := F6.a (.cells (mkZ B) 3)
            replace bS6 := bS6.alloc (.cells (mkZ B) 3)
            replace bR6 := bR6.alloc (.cells (mkZ B) 3)
            replace r0 := r0.imp id (fun h => And.intro h.1 (h.2.keep ((G.rf V2).a (.cells (mkZ B) 3))))
            replace r2 := r2.keep ((G.rf V2).a (.cells (mkZ B) 3))
            replace r5 := r5.keep ((G.rf V2).a (.cells (mkZ B) 3))
            have hx8 : ZB ≤ V2.heap.size := hzb
            have hb8 := Nat.le_trans hsz6 hzb
            replace hzb : ZB ≤ (V2.alloc (.cells (mkZ B) 3)).heap.size := Nat.le_trans hzb (by simp)
            have hl8 : V2.heap.size < (V2.alloc (.cells (mkZ B) 3)).heap.size := by simp
            obtain ⟨gm8, hg8⟩ : ∃ g, g = V2.heap.size := ⟨_, rfl⟩
            rw [← hg8] at r8 hx8 hb8 hl8 ⊢
            have hn2_8 : gm2 ≠ gm8 := by omega
            replace hl2 : gm2 < (V2.alloc (.cells (mkZ B) 3)).heap.size := by simp <;> omega
            have hn5_8 : gm5 ≠ gm8 := by omega
            replace hl5 : gm5 < (V2.alloc (.cells (mkZ B) 3)).heap.size := by simp <;> omega
            clear hg8
            generalize V2.alloc (.cells (mkZ B) 3) = V3 at *
            have z1 := bS6.frozen 1
            have y1 := bS6.cell 1
            have lS := bS6.lt
            refine wpAnyY_oneSW (i := 10) (by kernel_rfl) rfl (by kernel_rfl) (fun K10 hK10 => ?_)
            go_simp
            refine hK10.out _ _ (hS.far (p := ⟨C + 1 + 1, 1, none⟩) (by show C ≠ C + 1 + 1; omega) _) (fun hS => ?_)
            clear hK10 z1 y1 lS
            try simp only [Act.put, zzA, zzB, zzC, zzD, zzE, zzF]
            replace F6 := F6.s (p := ⟨C + 1 + 1, 1, none⟩) (.inl rfl) (.slice (some ⟨gm2, 0, none⟩) B B)
            replace bS6 : Blk (V3.setCell ⟨C + 1 + 1, 1, none⟩ (.slice (some ⟨gm2, 0, none⟩) B B)) (C + 1 + 1) 58 #[.slice a0 q c0, .slice (some ⟨gm2, 0, none⟩) B B, .slice none 0 0, .slice none 0 0] := bS6.set_ 1 (.slice (some ⟨gm2, 0, none⟩) B B)
            replace bR6 := bR6.far (p := ⟨C + 1 + 1, 1, none⟩) (by show C + 1 ≠ C + 1 + 1; omega) (.slice (some ⟨gm2, 0, none⟩) B B)
            replace r0 := r0.imp id (fun h => And.intro h.1 (h.2.far (p := ⟨C + 1 + 1, 1, none⟩) hgS (.slice (some ⟨gm2, 0, none⟩) B B)))
            replace r2 := r2.far (p := ⟨C + 1 + 1, 1, none⟩) (by show gm2 ≠ C + 1 + 1; omega) (.slice (some ⟨gm2, 0, none⟩) B B)
            replace r5 := r5.far (p := ⟨C + 1 + 1, 1, none⟩) (by show gm5 ≠ C + 1 + 1; omega) (.slice (some ⟨gm2, 0, none⟩) B B)
            replace r8 := r8.far (p := ⟨C + 1 + 1, 1, none⟩) (by show gm8 ≠ C + 1 + 1; omega) (.slice (some ⟨gm2, 0, none⟩) B B)
            replace hzb : ZB ≤ (V3.setCell ⟨C + 1 + 1, 1, none⟩ (.slice (some ⟨gm2, 0, none⟩) B B)).heap.size := by simpa [World.setCell] using hzb
            replace hl2 : gm2 < (V3.setCell ⟨C + 1 + 1, 1, none⟩ (.slice (some ⟨gm2, 0, none⟩) B B)).heap.size := by simpa [World.setCell] using hl2
            replace hl5 : gm5 < (V3.setCell ⟨C + 1 + 1, 1, none⟩ (.slice (some ⟨gm2, 0, none⟩) B B)).heap.size := by simpa [World.setCell] using hl5
            replace hl8 : gm8 < (V3.setCell ⟨C + 1 + 1, 1, none⟩ (.slice (some ⟨gm2, 0, none⟩) B B)).heap.size := by simpa [World.setCell] using hl8
            generalize V3.setCell ⟨C + 1 + 1, 1, none⟩ (.slice (some ⟨gm2, 0, none⟩) B B) = V4 at *
            refine wpAnyY_take (i := 11) (v := ?_) rfl (by kernel_rfl) (by kernel_rfl) (by kernel_rfl) (by kernel_rfl) (fun _ _ _ h => h) (Or.inl ⟨by kernel_rfl, ?_⟩) hS ?_
            rotate_left
            · intro w' hSw; go_simp; with_reducible rfl
            try simp only [Act.put, zzA, zzB, zzC, zzD, zzE, zzF]
            have z2 := bS6.frozen 2
            have y2 := bS6.cell 2
            have lS := bS6.lt
            refine wpAnyY_oneSW (i := 12) (by kernel_rfl) rfl (by kernel_rfl) (fun K12 hK12 => ?_)
            go_simp
            refine hK12.out _ _ (hS.far (p := ⟨C + 1 + 1, 2, none⟩) (by show C ≠ C + 1 + 1; omega) _) (fun hS => ?_)
            clear hK12 z2 y2 lS
            try simp only [Act.put, zzA, zzB, zzC, zzD, zzE, zzF]
            replace F6 := F6.s (p := ⟨C + 1 + 1, 2, none⟩) (.inl rfl) (.slice (some ⟨gm5, 0, none⟩) B B)
            replace bS6 : Blk (V4.setCell ⟨C + 1 + 1, 2, none⟩ (.slice (some ⟨gm5, 0, none⟩) B B)) (C + 1 + 1) 58 #[.slice a0 q c0, .slice (some ⟨gm2, 0, none⟩) B B, .slice (some ⟨gm5, 0, none⟩) B B, .slice none 0 0] := bS6.set_ 2 (.slice (some ⟨gm5, 0, none⟩) B B)
            replace bR6 := bR6.far (p := ⟨C + 1 + 1, 2, none⟩) (by show C + 1 ≠ C + 1 + 1; omega) (.slice (some ⟨gm5, 0, none⟩) B B)
            replace r0 := r0.imp id (fun h => And.intro h.1 (h.2.far (p := ⟨C + 1 + 1, 2, none⟩) hgS (.slice (some ⟨gm5, 0, none⟩) B B)))
            replace r2 := r2.far (p := ⟨C + 1 + 1, 2, none⟩) (by show gm2 ≠ C + 1 + 1; omega) (.slice (some ⟨gm5, 0, none⟩) B B)
            replace r5 := r5.far (p := ⟨C + 1 + 1, 2, none⟩) (by show gm5 ≠ C + 1 + 1; omega) (.slice (some ⟨gm5, 0, none⟩) B B)
            replace r8 := r8.far (p := ⟨C + 1 + 1, 2, none⟩) (by show gm8 ≠ C + 1 + 1; omega) (.slice (some ⟨gm5, 0, none⟩) B B)
            replace hzb : ZB ≤ (V4.setCell ⟨C + 1 + 1, 2, none⟩ (.slice (some ⟨gm5, 0, none⟩) B B)).heap.size := by simpa [World.setCell] using hzb
            replace hl2 : gm2 < (V4.setCell ⟨C + 1 + 1, 2, none⟩ (.slice (some ⟨gm5, 0, none⟩) B B)).heap.size := by simpa [World.setCell] using hl2
            replace hl5 : gm5 < (V4.setCell ⟨C + 1 + 1, 2, none⟩ (.slice (some ⟨gm5, 0, none⟩) B B)).heap.size := by simpa [World.setCell] using hl5
            replace hl8 : gm8 < (V4.setCell ⟨C + 1 + 1, 2, none⟩ (.slice (some ⟨gm5, 0, none⟩) B B)).heap.size := by simpa [World.setCell] using hl8
            generalize V4.setCell ⟨C + 1 + 1, 2, none⟩ (.slice (some ⟨gm5, 0, none⟩) B B) = V6 at *
            refine wpAnyY_take (i := 13) (v := ?_) rfl (by kernel_rfl) (by kernel_rfl) (by kernel_rfl) (by kernel_rfl) (fun _ _ _ h => h) (Or.inl ⟨by kernel_rfl, ?_⟩) hS ?_
            rotate_left
            · intro w' hSw; go_simp; with_reducible rfl
            try simp only [Act.put, zzA, zzB, zzC, zzD, zzE, zzF]
            have z3 := bS6.frozen 3
            have y3 := bS6.cell 3
            have lS := bS6.lt
            refine wpAnyY_oneSW (i := 14) (by kernel_rfl) rfl (by kernel_rfl) (fun K14 hK14 => ?_)
            go_simp
            refine hK14.out _ _ (hS.far (p := ⟨C + 1 + 1, 3, none⟩) (by show C ≠ C + 1 + 1; omega) _) (fun hS => ?_)
            clear hK14 z3 y3 lS
            try simp only [Act.put, zzA, zzB, zzC, zzD, zzE, zzF]
            replace F6 := F6.s (p := ⟨C + 1 + 1, 3, none⟩) (.inl rfl) (.slice (some ⟨gm8, 0, none⟩) B B)
            replace bS6 : Blk (V6.setCell ⟨C + 1 + 1, 3, none⟩ (.slice (some ⟨gm8, 0, none⟩) B B)) (C + 1 + 1) 58 #[.slice a0 q c0, .slice (some ⟨gm2, 0, none⟩) B B, .slice (some ⟨gm5, 0, none⟩) B B, .slice (some ⟨gm8, 0, none⟩) B B] := bS6.set_ 3 (.slice (some ⟨gm8, 0, none⟩) B B)
            replace bR6 := bR6.far (p := ⟨C + 1 + 1, 3, none⟩) (by show C + 1 ≠ C + 1 + 1; omega) (.slice (some ⟨gm8, 0, none⟩) B B)
            replace r0 := r0.imp id (fun h => And.intro h.1 (h.2.far (p := ⟨C + 1 + 1, 3, none⟩) hgS (.slice (some ⟨gm8, 0, none⟩) B B)))
            replace r2 := r2.far (p := ⟨C + 1 + 1, 3, none⟩) (by show gm2 ≠ C + 1 + 1; omega) (.slice (some ⟨gm8, 0, none⟩) B B)
            replace r5 := r5.far (p := ⟨C + 1 + 1, 3, none⟩) (by show gm5 ≠ C + 1 + 1; omega) (.slice (some ⟨gm8, 0, none⟩) B B)
            replace r8 := r8.far (p := ⟨C + 1 + 1, 3, none⟩) (by show gm8 ≠ C + 1 + 1; omega) (.slice (some ⟨gm8, 0, none⟩) B B)
            replace hzb : ZB ≤ (V6.setCell ⟨C + 1 + 1, 3, none⟩ (.slice (some ⟨gm8, 0, none⟩) B B)).heap.size := by simpa [World.setCell] using hzb
            replace hl2 : gm2 < (V6.setCell ⟨C + 1 + 1, 3, none⟩ (.slice (some ⟨gm8, 0, none⟩) B B)).heap.size := by simpa [World.setCell] using hl2
            replace hl5 : gm5 < (V6.setCell ⟨C + 1 + 1, 3, none⟩ (.slice (some ⟨gm8, 0, none⟩) B B)).heap.size := by simpa [World.setCell] using hl5
            replace hl8 : gm8 < (V6.setCell ⟨C + 1 + 1, 3, none⟩ (.slice (some ⟨gm8, 0, none⟩) B B)).heap.size := by simpa [World.setCell] using hl8
            generalize V6.setCell ⟨C + 1 + 1, 3, none⟩ (.slice (some ⟨gm8, 0, none⟩) B B) = V8 at *
            refine wpAnyY_done (by kernel_rfl) ?_ _
            clear hS
            have hn01 : q = 0 ∨ (gw ≠ gm2 ∧ gw ≠ gm5 ∧ gw ≠ gm8) := by omega
            have hf := beg_fin HC.out g0 F6 bR6 r0 r2 r5 r8 hC3 hgw hb2 hb5 hb8 (by omega) (by omega) (by omega) hn01 (.slice a0 q c0) (.slice (some ⟨gm2, 0, none⟩) B B) (.slice (some ⟨gm5, 0, none⟩) B B) (.slice (some ⟨gm8, 0, none⟩) B B)
            have HFN := Lib.hid hf
            have s0 := bS6.cell 0
            have s1 := bS6.cell 1
            have s2 := bS6.cell 2
            have s3 := bS6.cell 3
            have lS := bS6.lt
            have y0 := bR6.cell 0
            have y1 := bR6.cell 1
            have y2 := bR6.cell 2
            have y3 := bR6.cell 3
            have z0 := bR6.frozen 0
            have z1 := bR6.frozen 1
            have z2 := bR6.frozen 2
            have z3 := bR6.frozen 3
            have lR := bR6.lt
            have HZ := Lib.hid (HPP.out _ a0 gw gm2 gm5 gm8 c0 hf.2.1 (by have := HC.out; omega) (by have := HC.out; omega) (by have := HC.out; omega) (by have := HC.out; omega) hf.2.2)
            clear hf HPP F6 bS6 r0 r2 r5 r8 hn01
            go_wp2_with fail
            exact bodyPost_ret (resSt Tryz.f51 2 _ _ (C + 1) _ _ _ _ _ _ _ _ _ _ _ _ rfl rfl (HFN.out.1.cell 0) (HFN.out.1.cell 1) (HFN.out.1.cell 2) (HFN.out.1.cell 3)) rfl HZ.out
          · have z1 := bS6.frozen 1
            have y1 := bS6.cell 1
            have lS := bS6.lt
            go_simp
            refine hK10.out _ _ (hS.far (p := ⟨C + 1 + 1, 1, none⟩) (by show C ≠ C + 1 + 1; omega) _) (fun hS => ?_)
            clear hK10 z1 y1 lS
            try simp only [Act.put, zzA, zzB, zzC, zzD, zzE, zzF]
            replace F6 := F6.s (p := ⟨C + 1 + 1, 1, none⟩) (.inl rfl) (.slice (some ⟨gm2, 0, none⟩) B B)
            replace bS6 : Blk (V2.setCell ⟨C + 1 + 1, 1, none⟩ (.slice (some ⟨gm2, 0, none⟩) B B)) (C + 1 + 1) 58 #[.slice a0 q c0, .slice (some ⟨gm2, 0, none⟩) B B, .slice none 0 0, .slice none 0 0] := bS6.set_ 1 (.slice (some ⟨gm2, 0, none⟩) B B)
            replace bR6 := bR6.far (p := ⟨C + 1 + 1, 1, none⟩) (by show C + 1 ≠ C + 1 + 1; omega) (.slice (some ⟨gm2, 0, none⟩) B B)
            replace r0 := r0.imp id (fun h => And.intro h.1 (h.2.far (p := ⟨C + 1 + 1, 1, none⟩) hgS (.slice (some ⟨gm2, 0, none⟩) B B)))
            replace r2 := r2.far (p := ⟨C + 1 + 1, 1, none⟩) (by show gm2 ≠ C + 1 + 1; omega) (.slice (some ⟨gm2, 0, none⟩) B B)
            replace r5 := r5.far (p := ⟨C + 1 + 1, 1, none⟩) (by show gm5 ≠ C + 1 + 1; omega) (.slice (some ⟨gm2, 0, none⟩) B B)
            replace hzb : ZB ≤ (V2.setCell ⟨C + 1 + 1, 1, none⟩ (.slice (some ⟨gm2, 0, none⟩) B B)).heap.size := by simpa [World.setCell] using hzb
            replace hl2 : gm2 < (V2.setCell ⟨C + 1 + 1, 1, none⟩ (.slice (some ⟨gm2, 0, none⟩) B B)).heap.size := by simpa [World.setCell] using hl2
            replace hl5 : gm5 < (V2.setCell ⟨C + 1 + 1, 1, none⟩ (.slice (some ⟨gm2, 0, none⟩) B B)).heap.size := by simpa [World.setCell] using hl5
            generalize V2.setCell ⟨C + 1 + 1, 1, none⟩ (.slice (some ⟨gm2, 0, none⟩) B B) = V3 at *
            refine wpAnyY_take (i := 11) (v := ?_) rfl (by kernel_rfl) (by kernel_rfl) (by kernel_rfl) (by kernel_rfl) (fun _ _ _ h => h) (Or.inl ⟨by kernel_rfl, ?_⟩) hS ?_
            rotate_left
            · intro w' hSw; go_simp; with_reducible rfl
            try simp only [Act.put, zzA, zzB, zzC, zzD, zzE, zzF]
            refine wpAnyY_twoSW (i := 8) (j := 12) (by kernel_rfl) rfl rfl (by kernel_rfl) (by kernel_rfl) (fun K8 hK8 => ?_) (fun K12 hK12 => ?_)
            · go_simp
              refine hK8.out _ _ (hS.alloc _) (fun hS => ?_)
              clear hK8
              try simp only [Act.put, zzA, zzB, zzC, zzD, zzE, zzF]
              have r8 := RI.made V3 B
              replace F6 := F6.a (.cells (mkZ B) 3)
              replace bS6 := bS6.alloc (.cells (mkZ B) 3)
              replace bR6 := bR6.alloc (.cells (mkZ B) 3)
              replace r0 := r0.imp id (fun h => And.intro h.1 (h.2.keep ((G.rf V3).a (.cells (mkZ B) 3))))
              replace r2 := r2.keep ((G.rf V3).a (.cells (mkZ B) 3))
              replace r5 := r5.keep ((G.rf V3).a (.cells (mkZ B) 3))
              have hx8 : ZB ≤ V3.heap.size := hzb
              have hb8 := Nat.le_trans hsz6 hzb
              replace hzb : ZB ≤ (V3.alloc (.cells (mkZ B) 3)).heap.size := Nat.le_trans hzb (by simp)
              have hl8 : V3.heap.size < (V3.alloc (.cells (mkZ B) 3)).heap.size := by simp
              obtain ⟨gm8, hg8⟩ : ∃ g, g = V3.heap.size := ⟨_, rfl⟩
              rw [← hg8] at r8 hx8 hb8 hl8 ⊢
              have hn2_8 : gm2 ≠ gm8 := by omega
              replace hl2 : gm2 < (V3.alloc (.cells (mkZ B) 3)).heap.size := by simp <;> omega
              have hn5_8 : gm5 ≠ gm8 := by omega
              replace hl5 : gm5 < (V3.alloc (.cells (mkZ B) 3)).heap.size := by simp <;> omega
              clear hg8
              generalize V3.alloc (.cells (mkZ B) 3) = V5 at *
              have z2 := bS6.frozen 2
              have y2 := bS6.cell 2
              have lS := bS6.lt
              refine wpAnyY_oneSW (i := 12) (by kernel_rfl) rfl (by kernel_rfl) (fun K12 hK12 => ?_)
              go_simp
              refine hK12.out _ _ (hS.far (p := ⟨C + 1 + 1, 2, none⟩) (by show C ≠ C + 1 + 1; omega) _) (fun hS => ?_)
              clear hK12 z2 y2 lS
              try simp only [Act.put, zzA, zzB, zzC, zzD, zzE, zzF]
              replace F6 := F6.s (p := ⟨C + 1 + 1, 2, none⟩) (.inl rfl) (.slice (some ⟨gm5, 0, none⟩) B B)
              replace bS6 : Blk (V5.setCell ⟨C + 1 + 1, 2, none⟩ (.slice (some ⟨gm5, 0, none⟩) B B)) (C + 1 + 1) 58 #[.slice a0 q c0, .slice (some ⟨gm2, 0, none⟩) B B, .slice (some ⟨gm5, 0, none⟩) B B, .slice none 0 0] := bS6.set_ 2 (.slice (some ⟨gm5, 0, none⟩) B B)
              replace bR6 := bR6.far (p := ⟨C + 1 + 1, 2, none⟩) (by show C + 1 ≠ C + 1 + 1; omega) (.slice (some ⟨gm5, 0, none⟩) B B)
              replace r0 := r0.imp id (fun h => And.intro h.1 (h.2.far (p := ⟨C + 1 + 1, 2, none⟩) hgS (.slice (some ⟨gm5, 0, none⟩) B B)))
              replace r2 := r2.far (p := ⟨C + 1 + 1, 2, none⟩) (by show gm2 ≠ C + 1 + 1; omega) (.slice (some ⟨gm5, 0, none⟩) B B)
              replace r5 := r5.far (p := ⟨C + 1 + 1, 2, none⟩) (by show gm5 ≠ C + 1 + 1; omega) (.slice (some ⟨gm5, 0, none⟩) B B)
              replace r8 := r8.far (p := ⟨C + 1 + 1, 2, none⟩) (by show gm8 ≠ C + 1 + 1; omega) (.slice (some ⟨gm5, 0, none⟩) B B)
              replace hzb : ZB ≤ (V5.setCell ⟨C + 1 + 1, 2, none⟩ (.slice (some ⟨gm5, 0, none⟩) B B)).heap.size := by simpa [World.setCell] using hzb
              replace hl2 : gm2 < (V5.setCell ⟨C + 1 + 1, 2, none⟩ (.slice (some ⟨gm5, 0, none⟩) B B)).heap.size := by simpa [World.setCell] using hl2
              replace hl5 : gm5 < (V5.setCell ⟨C + 1 + 1, 2, none⟩ (.slice (some ⟨gm5, 0, none⟩) B B)).heap.size := by simpa [World.setCell] using hl5
              replace hl8 : gm8 < (V5.setCell ⟨C + 1 + 1, 2, none⟩ (.slice (some ⟨gm5, 0, none⟩) B B)).heap.size := by simpa [World.setCell] using hl8
              generalize V5.setCell ⟨C + 1 + 1, 2, none⟩ (.slice (some ⟨gm5, 0, none⟩) B B) = V6 at *
              refine wpAnyY_take (i := 13) (v := ?_) rfl (by kernel_rfl) (by kernel_rfl) (by kernel_rfl) (by kernel_rfl) (fun _ _ _ h => h) (Or.inl ⟨by kernel_rfl, ?_⟩) hS ?_
              rotate_left
              · intro w' hSw; go_simp; with_reducible rfl
              try simp only [Act.put, zzA, zzB, zzC, zzD, zzE, zzF]
              have z3 := bS6.frozen 3
              have y3 := bS6.cell 3
              have lS := bS6.lt
              refine wpAnyY_oneSW (i := 14) (by kernel_rfl) rfl (by kernel_rfl) (fun K14 hK14 => ?_)
              go_simp
              refine hK14.out _ _ (hS.far (p := ⟨C + 1 + 1, 3, none⟩) (by show C ≠ C + 1 + 1; omega) _) (fun hS => ?_)
              clear hK14 z3 y3 lS
              try simp only [Act.put, zzA, zzB, zzC, zzD, zzE, zzF]
              replace F6 := F6.s (p := ⟨C + 1 + 1, 3, none⟩) (.inl rfl) (.slice (some ⟨gm8, 0, none⟩) B B)
              replace bS6 : Blk (V6.setCell ⟨C + 1 + 1, 3, none⟩ (.slice (some ⟨gm8, 0, none⟩) B B)) (C + 1 + 1) 58 #[.slice a0 q c0, .slice (some ⟨gm2, 0, none⟩) B B, .slice (some ⟨gm5, 0, none⟩) B B, .slice (some ⟨gm8, 0, none⟩) B B] := bS6.set_ 3 (.slice (some ⟨gm8, 0, none⟩) B B)
              replace bR6 := bR6.far (p := ⟨C + 1 + 1, 3, none⟩) (by show C + 1 ≠ C + 1 + 1; omega) (.slice (some ⟨gm8, 0, none⟩) B B)
              replace r0 := r0.imp id (fun h => And.intro h.1 (h.2.far (p := ⟨C + 1 + 1, 3, none⟩) hgS (.slice (some ⟨gm8, 0, none⟩) B B)))
              replace r2 := r2.far (p := ⟨C + 1 + 1, 3, none⟩) (by show gm2 ≠ C + 1 + 1; omega) (.slice (some ⟨gm8, 0, none⟩) B B)
              replace r5 := r5.far (p := ⟨C + 1 + 1, 3, none⟩) (by show gm5 ≠ C + 1 + 1; omega) (.slice (some ⟨gm8, 0, none⟩) B B)
              replace r8 := r8.far (p := ⟨C + 1 + 1, 3, none⟩) (by show gm8 ≠ C + 1 + 1; omega) (.slice (some ⟨gm8, 0, none⟩) B B)
              replace hzb : ZB ≤ (V6.setCell ⟨C + 1 + 1, 3, none⟩ (.slice (some ⟨gm8, 0, none⟩) B B)).heap.size := by simpa [World.setCell] using hzb
              replace hl2 : gm2 < (V6.setCell ⟨C + 1 + 1, 3, none⟩ (.slice (some ⟨gm8, 0, none⟩) B B)).heap.size := by simpa [World.setCell] using hl2
              replace hl5 : gm5 < (V6.setCell ⟨C + 1 + 1, 3, none⟩ (.slice (some ⟨gm8, 0, none⟩) B B)).heap.size := by simpa [World.setCell] using hl5
              replace hl8 : gm8 < (V6.setCell ⟨C + 1 + 1, 3, none⟩ (.slice (some ⟨gm8, 0, none⟩) B B)).heap.size := by simpa [World.setCell] using hl8
              generalize V6.setCell ⟨C + 1 + 1, 3, none⟩ (.slice (some ⟨gm8, 0, none⟩) B B) = V8 at *
              refine wpAnyY_done (by kernel_rfl) ?_ _
              clear hS
              have hn01 : q = 0 ∨ (gw ≠ gm2 ∧ gw ≠ gm5 ∧ gw ≠ gm8) := by omega
              have hf := beg_fin HC.out g0 F6 bR6 r0 r2 r5 r8 hC3 hgw hb2 hb5 hb8 (by omega) (by omega) (by omega) hn01 (.slice a0 q c0) (.slice (some ⟨gm2, 0, none⟩) B B) (.slice (some ⟨gm5, 0, none⟩) B B) (.slice (some ⟨gm8, 0, none⟩) B B)
              have HFN := Lib.hid hf
              have s0 := bS6.cell 0
              have s1 := bS6.cell 1
              have s2 := bS6.cell 2
              have s3 := bS6.cell 3
              have lS := bS6.lt
              have y0 := bR6.cell 0
              have y1 := bR6.cell 1
              have y2 := bR6.cell 2
              have y3 := bR6.cell 3
              have z0 := bR6.frozen 0
              have z1 := bR6.frozen 1
              have z2 := bR6.frozen 2
              have z3 := bR6.frozen 3
              have lR := bR6.lt
              have HZ := Lib.hid (HPP.out _ a0 gw gm2 gm5 gm8 c0 hf.2.1 (by have := HC.out; omega) (by have := HC.out; omega) (by have := HC.out; omega) (by have := HC.out; omega) hf.2.2)
              clear hf HPP F6 bS6 r0 r2 r5 r8 hn01
              go_wp2_with fail
              exact bodyPost_ret (resSt Tryz.f51 2 _ _ (C + 1) _ _ _ _ _ _ _ _ _ _ _ _ rfl rfl (HFN.out.1.cell 0) (HFN.out.1.cell 1) (HFN.out.1.cell 2) (HFN.out.1.cell 3)) rfl HZ.out
            · have z2 := bS6.frozen 2
              have y2 := bS6.cell 2
              have lS := bS6.lt
              go_simp
              refine hK12.out _ _ (hS.far (p := ⟨C + 1 + 1, 2, none⟩) (by show C ≠ C + 1 + 1; omega) _) (fun hS => ?_)
              clear hK12 z2 y2 lS
              try simp only [Act.put, zzA, zzB, zzC, zzD, zzE, zzF]
              replace F6 := F6.s (p := ⟨C + 1 + 1, 2, none⟩) (.inl rfl) (.slice (some ⟨gm5, 0, none⟩) B B)
              replace bS6 : Blk (V3.setCell ⟨C + 1 + 1, 2, none⟩ (.slice (some ⟨gm5, 0, none⟩) B B)) (C + 1 + 1) 58 #[.slice a0 q c0, .slice (some ⟨gm2, 0, none⟩) B B, .slice (some ⟨gm5, 0, none⟩) B B, .slice none 0 0] := bS6.set_ 2 (.slice (some ⟨gm5, 0, none⟩) B B)
              replace bR6 := bR6.far (p := ⟨C + 1 + 1, 2, none⟩) (by show C + 1 ≠ C + 1 + 1; omega) (.slice (some ⟨gm5, 0, none⟩) B B)
              replace r0 := r0.imp id (fun h => And.intro h.1 (h.2.far (p := ⟨C + 1 + 1, 2, none⟩) hgS (.slice (some ⟨gm5, 0, none⟩) B B)))
              replace r2 := r2.far (p := ⟨C + 1 + 1, 2, none⟩) (by show gm2 ≠ C + 1 + 1; omega) (.slice (some ⟨gm5, 0, none⟩) B B)
              replace r5 := r5.far (p := ⟨C + 1 + 1, 2, none⟩) (by show gm5 ≠ C + 1 + 1; omega) (.slice (some ⟨gm5, 0, none⟩) B B)
              replace hzb : ZB ≤ (V3.setCell ⟨C + 1 + 1, 2, none⟩ (.slice (some ⟨gm5, 0, none⟩) B B)).heap.size := by simpa [World.setCell] using hzb
              replace hl2 : gm2 < (V3.setCell ⟨C + 1 + 1, 2, none⟩ (.slice (some ⟨gm5, 0, none⟩) B B)).heap.size := by simpa [World.setCell] using hl2
              replace hl5 : gm5 < (V3.setCell ⟨C + 1 + 1, 2, none⟩ (.slice (some ⟨gm5, 0, none⟩) B B)).heap.size := by simpa [World.setCell] using hl5
              generalize V3.setCell ⟨C + 1 + 1, 2, none⟩ (.slice (some ⟨gm5, 0, none⟩) B B) = V5 at *
              refine wpAnyY_oneSW (i := 8) (by kernel_rfl) rfl (by kernel_rfl) (fun K8 hK8 => ?_)
              go_simp
              refine hK8.out _ _ (hS.alloc _) (fun hS => ?_)
              clear hK8
              try simp only [Act.put, zzA, zzB, zzC, zzD, zzE, zzF]
              have r8 := RI.made V5 B
              replace F6 := F6.a (.cells (mkZ B) 3)
              replace bS6 := bS6.alloc (.cells (mkZ B) 3)
              replace bR6 := bR6.alloc (.cells (mkZ B) 3)
              replace r0 := r0.imp id (fun h => And.intro h.1 (h.2.keep ((G.rf V5).a (.cells (mkZ B) 3))))
              replace r2 := r2.keep ((G.rf V5).a (.cells (mkZ B) 3))
              replace r5 := r5.keep ((G.rf V5).a (.cells (mkZ B) 3))
              have hx8 : ZB ≤ V5.heap.size := hzb
              have hb8 := Nat.le_trans hsz6 hzb
              replace hzb : ZB ≤ (V5.alloc (.cells (mkZ B) 3)).heap.size := Nat.le_trans hzb (by simp)
              have hl8 : V5.heap.size < (V5.alloc (.cells (mkZ B) 3)).heap.size := by simp
              obtain ⟨gm8, hg8⟩ : ∃ g, g = V5.heap.size := ⟨_, rfl⟩
              rw [← hg8] at r8 hx8 hb8 hl8 ⊢
              have hn2_8 : gm2 ≠ gm8 := by omega
              replace hl2 : gm2 < (V5.alloc (.cells (mkZ B) 3)).heap.size := by simp <;> omega
              have hn5_8 : gm5 ≠ gm8 := by omega
              replace hl5 : gm5 < (V5.alloc (.cells (mkZ B) 3)).heap.size := by simp <;> omega
              clear hg8
              generalize V5.alloc (.cells (mkZ B) 3) = V6 at *
              refine wpAnyY_take (i := 13) (v := ?_) rfl (by kernel_rfl) (by kernel_rfl) (by kernel_rfl) (by kernel_rfl) (fun _ _ _ h => h) (Or.inl ⟨by kernel_rfl, ?_⟩) hS ?_
              rotate_left
              · intro w' hSw; go_simp; with_reducible rfl
              try simp only [Act.put, zzA, zzB, zzC, zzD, zzE, zzF]
              have z3 := bS6.frozen 3
              have y3 := bS6.cell 3
              have lS := bS6.lt
              refine wpAnyY_oneSW (i := 14) (by kernel_rfl) rfl (by kernel_rfl) (fun K14 hK14 => ?_)
              go_simp
              refine hK14.out _ _ (hS.far (p := ⟨C + 1 + 1, 3, none⟩) (by show C ≠ C + 1 + 1; omega) _) (fun hS => ?_)
              clear hK14 z3 y3 lS
              try simp only [Act.put, zzA, zzB, zzC, zzD, zzE, zzF]
              replace F6 := F6.s (p := ⟨C + 1 + 1, 3, none⟩) (.inl rfl) (.slice (some ⟨gm8, 0, none⟩) B B)
              replace bS6 : Blk (V6.setCell ⟨C + 1 + 1, 3, none⟩ (.slice (some ⟨gm8, 0, none⟩) B B)) (C + 1 + 1) 58 #[.slice a0 q c0, .slice (some ⟨gm2, 0, none⟩) B B, .slice (some ⟨gm5, 0, none⟩) B B, .slice (some ⟨gm8, 0, none⟩) B B] := bS6.set_ 3 (.slice (some ⟨gm8, 0, none⟩) B B)
              replace bR6 := bR6.far (p := ⟨C + 1 + 1, 3, none⟩) (by show C + 1 ≠ C + 1 + 1; omega) (.slice (some ⟨gm8, 0, none⟩) B B)
              replace r0 := r0.imp id (fun h => And.intro h.1 (h.2.far (p := ⟨C + 1 + 1, 3, none⟩) hgS (.slice (some ⟨gm8, 0, none⟩) B B)))
              replace r2 := r2.far (p := ⟨C + 1 + 1, 3, none⟩) (by show gm2 ≠ C + 1 + 1; omega) (.slice (some ⟨gm8, 0, none⟩) B B)
              replace r5 := r5.far (p := ⟨C + 1 + 1, 3, none⟩) (by show gm5 ≠ C + 1 + 1; omega) (.slice (some ⟨gm8, 0, none⟩) B B)
              replace r8 := r8.far (p := ⟨C + 1 + 1, 3, none⟩) (by show gm8 ≠ C + 1 + 1; omega) (.slice (some ⟨gm8, 0, none⟩) B B)
              replace hzb : ZB ≤ (V6.setCell ⟨C + 1 + 1, 3, none⟩ (.slice (some ⟨gm8, 0, none⟩) B B)).heap.size := by simpa [World.setCell] using hzb
              replace hl2 : gm2 < (V6.setCell ⟨C + 1 + 1, 3, none⟩ (.slice (some ⟨gm8, 0, none⟩) B B)).heap.size := by simpa [World.setCell] using hl2
              replace hl5 : gm5 < (V6.setCell ⟨C + 1 + 1, 3, none⟩ (.slice (some ⟨gm8, 0, none⟩) B B)).heap.size := by simpa [World.setCell] using hl5
              replace hl8 : gm8 < (V6.setCell ⟨C + 1 + 1, 3, none⟩ (.slice (some ⟨gm8, 0, none⟩) B B)).heap.size := by simpa [World.setCell] using hl8
              generalize V6.setCell ⟨C + 1 + 1, 3, none⟩ (.slice (some ⟨gm8, 0, none⟩) B B) = V8 at *
              refine wpAnyY_done (by kernel_rfl) ?_ _
              clear hS
              have hn01 : q = 0 ∨ (gw ≠ gm2 ∧ gw ≠ gm5 ∧ gw ≠ gm8) := by omega
              have hf := beg_fin HC.out g0 F6 bR6 r0 r2 r5 r8 hC3 hgw hb2 hb5 hb8 (by omega) (by omega) (by omega) hn01 (.slice a0 q c0) (.slice (some ⟨gm2, 0, none⟩) B B) (.slice (some ⟨gm5, 0, none⟩) B B) (.slice (some ⟨gm8, 0, none⟩) B B)
              have HFN := Lib.hid hf
              have s0 := bS6.cell 0
              have s1 := bS6.cell 1
              have s2 := bS6.cell 2
              have s3 := bS6.cell 3
              have lS := bS6.lt
              have y0 := bR6.cell 0
              have y1 := bR6.cell 1
              have y2 := bR6.cell 2
              have y3 := bR6.cell 3
              have z0 := bR6.frozen 0
              have z1 := bR6.frozen 1
              have z2 := bR6.frozen 2
              have z3 := bR6.frozen 3
              have lR := bR6.lt
              have HZ := Lib.hid (HPP.out _ a0 gw gm2 gm5 gm8 c0 hf.2.1 (by have := HC.out; omega) (by have := HC.out; omega) (by have := HC.out; omega) (by have := HC.out; omega) hf.2.2)
              clear hf HPP F6 bS6 r0 r2 r5 r8 hn01
              go_wp2_with fail
              exact bodyPost_ret (resSt Tryz.f51 2 _ _ (C + 1) _ _ _ _ _ _ _ _ _ _ _ _ rfl rfl (HFN.out.1.cell 0) (HFN.out.1.cell 1) (HFN.out.1.cell 2) (HFN.out.1.cell 3)) rfl HZ.out
        · go_simp
          refine hK8.out _ _ (hS.alloc _) (fun hS => ?_)
          clear hK8
          try simp only [Act.put, zzA, zzB, zzC, zzD, zzE, zzF]
          have r8 := RI.made V0 B
          replace F6 := F6.a (.cells (mkZ B) 3)
          replace bS6 := bS6.alloc (.cells (mkZ B) 3)
          replace bR6 := bR6.alloc (.cells (mkZ B) 3)
          replace r0 := r0.imp id (fun h => And.intro h.1 (h.2.keep ((G.rf V0).a (.cells (mkZ B) 3))))
          replace r2 := r2.keep ((G.rf V0).a (.cells (mkZ B) 3))
          have hx8 : ZB ≤ V0.heap.size := hzb
          have hb8 := Nat.le_trans hsz6 hzb
          replace hzb : ZB ≤ (V0.alloc (.cells (mkZ B) 3)).heap.size := Nat.le_trans hzb (by simp)
          have hl8 : V0.heap.size < (V0.alloc (.cells (mkZ B) 3)).heap.size := by simp
          obtain ⟨gm8, hg8⟩ : ∃ g, g = V0.heap.size := ⟨_, rfl⟩
          rw [← hg8] at r8 hx8 hb8 hl8 ⊢
          have hn2_8 : gm2 ≠ gm8 := by omega
          replace hl2 : gm2 < (V0.alloc (.cells (mkZ B) 3)).heap.size := by simp <;> omega
          clear hg8
          generalize V0.alloc (.cells (mkZ B) 3) = V2 at *
          refine wpAnyY_twoSW (i := 5) (j := 10) (by kernel_rfl) rfl rfl (by kernel_rfl) (by kernel_rfl) (fun K5 hK5 => ?_) (fun K10 hK10 => ?_)
          · go_simp
            refine hK5.out _ _ (hS.alloc _) (fun hS => ?_)
            clear hK5
            try simp only [Act.put, zzA, zzB, zzC, zzD, zzE, zzF]
            have r5 := RI.made V2 B
            replace F6 := F6.a (.cells (mkZ B) 3)
            replace bS6 := bS6.alloc (.cells (mkZ B) 3)
            replace bR6 := bR6.alloc (.cells (mkZ B) 3)
            replace r0 := r0.imp id (fun h => And.intro h.1 (h.2.keep ((G.rf V2).a (.cells (mkZ B) 3))))
            replace r2 := r2.keep ((G.rf V2).a (.cells (mkZ B) 3))
            replace r8 := r8.keep ((G.rf V2).a (.cells (mkZ B) 3))
            have hx5 : ZB ≤ V2.heap.size := hzb
            have hb5 := Nat.le_trans hsz6 hzb
            replace hzb : ZB ≤ (V2.alloc (.cells (mkZ B) 3)).heap.size := Nat.le_trans hzb (by simp)
            have hl5 : V2.heap.size < (V2.alloc (.cells (mkZ B) 3)).heap.size := by simp
            obtain ⟨gm5, hg5⟩ : ∃ g, g = V2.heap.size := ⟨_, rfl⟩
            rw [← hg5] at r5 hx5 hb5 hl5 ⊢
            have hn2_5 : gm2 ≠ gm5 := by omega
            replace hl2 : gm2 < (V2.alloc (.cells (mkZ B) 3)).heap.size := by simp <;> omega
            have hn8_5 : gm8 ≠ gm5 := by omega
            replace hl8 : gm8 < (V2.alloc (.cells (mkZ B) 3)).heap.size := by simp <;> omega
            clear hg5
            generalize V2.alloc (.cells (mkZ B) 3) = V3 at *
            have z1 := bS6.frozen 1
            have y1 := bS6.cell 1
            have lS := bS6.lt
            refine wpAnyY_oneSW (i := 10) (by kernel_rfl) rfl (by kernel_rfl) (fun K10 hK10 => ?_)
            go_simp
            refine hK10.out _ _ (hS.far (p := ⟨C + 1 + 1, 1, none⟩) (by show C ≠ C + 1 + 1; omega) _) (fun hS => ?_)
            clear hK10 z1 y1 lS
            try simp only [Act.put, zzA, zzB, zzC, zzD, zzE, zzF]
            replace F6 := F6.s (p := ⟨C + 1 + 1, 1, none⟩) (.inl rfl) (.slice (some ⟨gm2, 0, none⟩) B B)
            replace bS6 : Blk (V3.setCell ⟨C + 1 + 1, 1, none⟩ (.slice (some ⟨gm2, 0, none⟩) B B)) (C + 1 + 1) 58 #[.slice a0 q c0, .slice (some ⟨gm2, 0, none⟩) B B, .slice none 0 0, .slice none 0 0] := bS6.set_ 1 (.slice (some ⟨gm2, 0, none⟩) B B)
            replace bR6 := bR6.far (p := ⟨C + 1 + 1, 1, none⟩) (by show C + 1 ≠ C + 1 + 1; omega) (.slice (some ⟨gm2, 0, none⟩) B B)
            replace r0 := r0.imp id (fun h => And.intro h.1 (h.2.far (p := ⟨C + 1 + 1, 1, none⟩) hgS (.slice (some ⟨gm2, 0, none⟩) B B)))
            replace r2 := r2.far (p := ⟨C + 1 + 1, 1, none⟩) (by show gm2 ≠ C + 1 + 1; omega) (.slice (some ⟨gm2, 0, none⟩) B B)
            replace r8 := r8.far (p := ⟨C + 1 + 1, 1, none⟩) (by show gm8 ≠ C + 1 + 1; omega) (.slice (some ⟨gm2, 0, none⟩) B B)
            replace r5 := r5.far (p := ⟨C + 1 + 1, 1, none⟩) (by show gm5 ≠ C + 1 + 1; omega) (.slice (some ⟨gm2, 0, none⟩) B B)
            replace hzb : ZB ≤ (V3.setCell ⟨C + 1 + 1, 1, none⟩ (.slice (some ⟨gm2, 0, none⟩) B B)).heap.size := by simpa [World.setCell] using hzb
            replace hl2 : gm2 < (V3.setCell ⟨C + 1 + 1, 1, none⟩ (.slice (some ⟨gm2, 0, none⟩) B B)).heap.size := by simpa [World.setCell] using hl2
            replace hl8 : gm8 < (V3.setCell ⟨C + 1 + 1, 1, none⟩ (.slice (some ⟨gm2, 0, none⟩) B B)).heap.size := by simpa [World.setCell] using hl8
            replace hl5 : gm5 < (V3.setCell ⟨C + 1 + 1, 1, none⟩ (.slice (some ⟨gm2, 0, none⟩) B B)).heap.size := by simpa [World.setCell] using hl5
            generalize V3.setCell ⟨C + 1 + 1, 1, none⟩ (.slice (some ⟨gm2, 0, none⟩) B B) = V4 at *
            refine wpAnyY_take (i := 11) (v := ?_) rfl (by kernel_rfl) (by kernel_rfl) (by kernel_rfl) (by kernel_rfl) (fun _ _ _ h => h) (Or.inl ⟨by kernel_rfl, ?_⟩) hS ?_
            rotate_left
            · intro w' hSw; go_simp; with_reducible rfl
            try simp only [Act.put, zzA, zzB, zzC, zzD, zzE, zzF]
            have z2 := bS6.frozen 2
            have y2 := bS6.cell 2
            have lS := bS6.lt
            refine wpAnyY_oneSW (i := 12) (by kernel_rfl) rfl (by kernel_rfl) (fun K12 hK12 => ?_)
            go_simp
            refine hK12.out _ _ (hS.far (p := ⟨C + 1 + 1, 2, none⟩) (by show C ≠ C + 1 + 1; omega) _) (fun hS => ?_)
            clear hK12 z2 y2 lS
            try simp only [Act.put, zzA, zzB, zzC, zzD, zzE, zzF]
            replace F6 := F6.s (p := ⟨C + 1 + 1, 2, none⟩) (.inl rfl) (.slice (some ⟨gm5, 0, none⟩) B B)
            replace bS6 : Blk (V4.setCell ⟨C + 1 + 1, 2, none⟩ (.slice (some ⟨gm5, 0, none⟩) B B)) (C + 1 + 1) 58 #[.slice a0 q c0, .slice (some ⟨gm2, 0, none⟩) B B, .slice (some ⟨gm5, 0, none⟩) B B, .slice none 0 0] := bS6.set_ 2 (.slice (some ⟨gm5, 0, none⟩) B B)
            replace bR6 := bR6.far (p := ⟨C + 1 + 1, 2, none⟩) (by show C + 1 ≠ C + 1 + 1; omega) (.slice (some ⟨gm5, 0, none⟩) B B)
            replace r0 := r0.imp id (fun h => And.intro h.1 (h.2.far (p := ⟨C + 1 + 1, 2, none⟩) hgS (.slice (some ⟨gm5, 0, none⟩) B B)))
            replace r2 := r2.far (p := ⟨C + 1 + 1, 2, none⟩) (by show gm2 ≠ C + 1 + 1; omega) (.slice (some ⟨gm5, 0, none⟩) B B)
            replace r8 := r8.far (p := ⟨C + 1 + 1, 2, none⟩) (by show gm8 ≠ C + 1 + 1; omega) (.slice (some ⟨gm5, 0, none⟩) B B)
            replace r5 := r5.far (p := ⟨C + 1 + 1, 2, none⟩) (by show gm5 ≠ C + 1 + 1; omega) (.slice (some ⟨gm5, 0, none⟩) B B)
            replace hzb : ZB ≤ (V4.setCell ⟨C + 1 + 1, 2, none⟩ (.slice (some ⟨gm5, 0, none⟩) B B)).heap.size := by simpa [World.setCell] using hzb
            replace hl2 : gm2 < (V4.setCell ⟨C + 1 + 1, 2, none⟩ (.slice (some ⟨gm5, 0, none⟩) B B)).heap.size := by simpa [World.setCell] using hl2
            replace hl8 : gm8 < (V4.setCell ⟨C + 1 + 1, 2, none⟩ (.slice (some ⟨gm5, 0, none⟩) B B)).heap.size := by simpa [World.setCell] using hl8
            replace hl5 : gm5 < (V4.setCell ⟨C + 1 + 1, 2, none⟩ (.slice (some ⟨gm5, 0, none⟩) B B)).heap.size := by simpa [World.setCell] using hl5
            generalize V4.setCell ⟨C + 1 + 1, 2, none⟩ (.slice (some ⟨gm5, 0, none⟩) B B) = V6 at *
            refine wpAnyY_take (i := 13) (v := ?_) rfl (by kernel_rfl) (by kernel_rfl) (by kernel_rfl) (by kernel_rfl) (fun _ _ _ h => h) (Or.inl ⟨by kernel_rfl, ?_⟩) hS ?_
            rotate_left
            · intro w' hSw; go_simp; with_reducible rfl
            try simp only [Act.put, zzA, zzB, zzC, zzD, zzE, zzF]
            have z3 := bS6.frozen 3
            have y3 := bS6.cell 3
            have lS := bS6.lt
            refine wpAnyY_oneSW (i := 14) (by kernel_rfl) rfl (by kernel_rfl) (fun K14 hK14 => ?_)
            go_simp
            refine hK14.out _ _ (hS.far (p := ⟨C + 1 + 1, 3, none⟩) (by show C ≠ C + 1 + 1; omega) _) (fun hS => ?_)
            clear hK14 z3 y3 lS
            try simp only [Act.put, zzA, zzB, zzC, zzD, zzE, zzF]
            replace F6 := F6.s (p := ⟨C + 1 + 1, 3, none⟩) (.inl rfl) (.slice (some ⟨gm8, 0, none⟩) B B)
            replace bS6 : Blk (V6.setCell ⟨C + 1 + 1, 3, none⟩ (.slice (some ⟨gm8, 0, none⟩) B B)) (C + 1 + 1) 58 #[.slice a0 q c0, .slice (some ⟨gm2, 0, none⟩) B B, .slice (some ⟨gm5, 0, none⟩) B B, .slice (some ⟨gm8, 0, none⟩) B B] := bS6.set_ 3 (.slice (some ⟨gm8, 0, none⟩) B B)
            replace bR6 := bR6.far (p := ⟨C + 1 + 1, 3, none⟩) (by show C + 1 ≠ C + 1 + 1; omega) (.slice (some ⟨gm8, 0, none⟩) B B)
            replace r0 := r0.imp id (fun h => And.intro h.1 (h.2.far (p := ⟨C + 1 + 1, 3, none⟩) hgS (.slice (some ⟨gm8, 0, none⟩) B B)))
            replace r2 := r2.far (p := ⟨C + 1 + 1, 3, none⟩) (by show gm2 ≠ C + 1 + 1; omega) (.slice (some ⟨gm8, 0, none⟩) B B)
            replace r8 := r8.far (p := ⟨C + 1 + 1, 3, none⟩) (by show gm8 ≠ C + 1 + 1; omega) (.slice (some ⟨gm8, 0, none⟩) B B)
            replace r5 := r5.far (p := ⟨C + 1 + 1, 3, none⟩) (by show gm5 ≠ C + 1 + 1; omega) (.slice (some ⟨gm8, 0, none⟩) B B)
            replace hzb : ZB ≤ (V6.setCell ⟨C + 1 + 1, 3, none⟩ (.slice (some ⟨gm8, 0, none⟩) B B)).heap.size := by simpa [World.setCell] using hzb
            replace hl2 : gm2 < (V6.setCell ⟨C + 1 + 1, 3, none⟩ (.slice (some ⟨gm8, 0, none⟩) B B)).heap.size := by simpa [World.setCell] using hl2
            replace hl8 : gm8 < (V6.setCell ⟨C + 1 + 1, 3, none⟩ (.slice (some ⟨gm8, 0, none⟩) B B)).heap.size := by simpa [World.setCell] using hl8
            replace hl5 : gm5 < (V6.setCell ⟨C + 1 + 1, 3, none⟩ (.slice (some ⟨gm8, 0, none⟩) B B)).heap.size := by simpa [World.setCell] using hl5
            generalize V6.setCell ⟨C + 1 + 1, 3, none⟩ (.slice (some ⟨gm8, 0, none⟩) B B) = V8 at *
            refine wpAnyY_done (by kernel_rfl) ?_ _
            clear hS
            have hn01 : q = 0 ∨ (gw ≠ gm2 ∧ gw ≠ gm5 ∧ gw ≠ gm8) := by omega
            have hf := beg_fin HC.out g0 F6 bR6 r0 r2 r5 r8 hC3 hgw hb2 hb5 hb8 (by omega) (by omega) (by omega) hn01 (.slice a0 q c0) (.slice (some ⟨gm2, 0, none⟩) B B) (.slice (some ⟨gm5, 0, none⟩) B B) (.slice (some ⟨gm8, 0, none⟩) B B)
            have HFN := Lib.hid hf
            have s0 := bS6.cell 0
            have s1 := bS6.cell 1
            have s2 := bS6.cell 2
            have s3 := bS6.cell 3
            have lS := bS6.lt
            have y0 := bR6.cell 0
            have y1 := bR6.cell 1
            have y2 := bR6.cell 2
            have y3 := bR6.cell 3
            have z0 := bR6.frozen 0
            have z1 := bR6.frozen 1
            have z2 := bR6.frozen 2
            have z3 := bR6.frozen 3
            have lR := bR6.lt
            have HZ := Lib.hid (HPP.out _ a0 gw gm2 gm5 gm8 c0 hf.2.1 (by have := HC.out; omega) (by have := HC.out; omega) (by have := HC.out; omega) (by have := HC.out; omega) hf.2.2)
            clear hf HPP F6 bS6 r0 r2 r5 r8 hn01
            go_wp2_with fail
            exact bodyPost_ret (resSt Tryz.f51 2 _ _ (C + 1) _ _ _ _ _ _ _ _ _ _ _ _ rfl rfl (HFN.out.1.cell 0) (HFN.out.1.cell 1) (HFN.out.1.cell 2) (HFN.out.1.cell 3)) rfl HZ.out
          · have z1 := bS6.frozen 1
            have y1 := bS6.cell 1
            have lS := bS6.lt
            go_simp
            refine hK10.out _ _ (hS.far (p := ⟨C + 1 + 1, 1, none⟩) (by show C ≠ C + 1 + 1; omega) _) (fun hS => ?_)
            clear hK10 z1 y1 lS
            try simp only [Act.put, zzA, zzB, zzC, zzD, zzE, zzF]
            replace F6 := F6.s (p := ⟨C + 1 + 1, 1, none⟩) (.inl rfl) (.slice (some ⟨gm2, 0, none⟩) B B)
            replace bS6 : Blk (V2.setCell ⟨C + 1 + 1, 1, none⟩ (.slice (some ⟨gm2, 0, none⟩) B B)) (C + 1 + 1) 58 #[.slice a0 q c0, .slice (some ⟨gm2, 0, none⟩) B B, .slice none 0 0, .slice none 0 0] := bS6.set_ 1 (.slice (some ⟨gm2, 0, none⟩) B B)
            replace bR6 := bR6.far (p := ⟨C + 1 + 1, 1, none⟩) (by show C + 1 ≠ C + 1 + 1; omega) (.slice (some ⟨gm2, 0, none⟩) B B)
            replace r0 := r0.imp id (fun h => And.intro h.1 (h.2.far (p := ⟨C + 1 + 1, 1, none⟩) hgS (.slice (some ⟨gm2, 0, none⟩) B B)))
            replace r2 := r2.far (p := ⟨C + 1 + 1, 1, none⟩) (by show gm2 ≠ C + 1 + 1; omega) (.slice (some ⟨gm2, 0, none⟩) B B)
            replace r8 := r8.far (p := ⟨C + 1 + 1, 1, none⟩) (by show gm8 ≠ C + 1 + 1; omega) (.slice (some ⟨gm2, 0, none⟩) B B)
            replace hzb : ZB ≤ (V2.setCell ⟨C + 1 + 1, 1, none⟩ (.slice (some ⟨gm2, 0, none⟩) B B)).heap.size := by simpa [World.setCell] using hzb
            replace hl2 : gm2 < (V2.setCell ⟨C + 1 + 1, 1, none⟩ (.slice (some ⟨gm2, 0, none⟩) B B)).heap.size := by simpa [World.setCell] using hl2
            replace hl8 : gm8 < (V2.setCell ⟨C + 1 + 1, 1, none⟩ (.slice (some ⟨gm2, 0, none⟩) B B)).heap.size := by simpa [World.setCell] using hl8
            generalize V2.setCell ⟨C + 1 + 1, 1, none⟩ (.slice (some ⟨gm2, 0, none⟩) B B) = V3 at *
            refine wpAnyY_oneSW (i := 5) (by kernel_rfl) rfl (by kernel_rfl) (fun K5 hK5 => ?_)
            go_simp
            refine hK5.out _ _ (hS.alloc _) (fun hS => ?_)
            clear hK5
            try simp only [Act.put, zzA, zzB, zzC, zzD, zzE, zzF]
            have r5 := RI.made V3 B
            replace F6 := F6.a (.cells (mkZ B) 3)
            replace bS6 := bS6.alloc (.cells (mkZ B) 3)
            replace bR6 := bR6.alloc (.cells (mkZ B) 3)
            replace r0 := r0.imp id (fun h => And.intro h.1 (h.2.keep ((G.rf V3).a (.cells (mkZ B) 3))))
            replace r2 := r2.keep ((G.rf V3).a (.cells (mkZ B) 3))
            replace r8 := r8.keep ((G.rf V3).a (.cells (mkZ B) 3))
            have hx5 : ZB ≤ V3.heap.size := hzb
            have hb5 := Nat.le_trans hsz6 hzb
            replace hzb : ZB ≤ (V3.alloc (.cells (mkZ B) 3)).heap.size := Nat.le_trans hzb (by simp)
            have hl5 : V3.heap.size < (V3.alloc (.cells (mkZ B) 3)).heap.size := by simp
            obtain ⟨gm5, hg5⟩ : ∃ g, g = V3.heap.size := ⟨_, rfl⟩
            rw [← hg5] at r5 hx5 hb5 hl5 ⊢
            have hn2_5 : gm2 ≠ gm5 := by omega
            replace hl2 : gm2 < (V3.alloc (.cells (mkZ B) 3)).heap.size := by simp <;> omega
            have hn8_5 : gm8 ≠ gm5 := by omega
            replace hl8 : gm8 < (V3.alloc (.cells (mkZ B) 3)).heap.size := by simp <;> omega
            clear hg5
            generalize V3.alloc (.cells (mkZ B) 3) = V4 at *
            refine wpAnyY_take (i := 11) (v := ?_) rfl (by kernel_rfl) (by kernel_rfl) (by kernel_rfl) (by kernel_rfl) (fun _ _ _ h => h) (Or.inl ⟨by kernel_rfl, ?_⟩) hS ?_
            rotate_left
            · intro w' hSw; go_simp; with_reducible rfl
            try simp only [Act.put, zzA, zzB, zzC, zzD, zzE, zzF]
            have z2 := bS6.frozen 2
            have y2 := bS6.cell 2
            have lS := bS6.lt
            refine wpAnyY_oneSW (i := 12) (by kernel_rfl) rfl (by kernel_rfl) (fun K12 hK12 => ?_)
            go_simp
            refine hK12.out _ _ (hS.far (p := ⟨C + 1 + 1, 2, none⟩) (by show C ≠ C + 1 + 1; omega) _) (fun hS => ?_)
            clear hK12 z2 y2 lS
            try simp only [Act.put, zzA, zzB, zzC, zzD, zzE, zzF]
            replace F6 := F6.s (p := ⟨C + 1 + 1, 2, none⟩) (.inl rfl) (.slice (some ⟨gm5, 0, none⟩) B B)
            replace bS6 : Blk (V4.setCell ⟨C + 1 + 1, 2, none⟩ (.slice (some ⟨gm5, 0, none⟩) B B)) (C + 1 + 1) 58 #[.slice a0 q c0, .slice (some ⟨gm2, 0, none⟩) B B, .slice (some ⟨gm5, 0, none⟩) B B, .slice none 0 0] := bS6.set_ 2 (.slice (some ⟨gm5, 0, none⟩) B B)
            replace bR6 := bR6.far (p := ⟨C + 1 + 1, 2, none⟩) (by show C + 1 ≠ C + 1 + 1; omega) (.slice (some ⟨gm5, 0, none⟩) B B)
            replace r0 := r0.imp id (fun h => And.intro h.1 (h.2.far (p := ⟨C + 1 + 1, 2, none⟩) hgS (.slice (some ⟨gm5, 0, none⟩) B B)))
            replace r2 := r2.far (p := ⟨C + 1 + 1, 2, none⟩) (by show gm2 ≠ C + 1 + 1; omega) (.slice (some ⟨gm5, 0, none⟩) B B)
            replace r8 := r8.far (p := ⟨C + 1 + 1, 2, none⟩) (by show gm8 ≠ C + 1 + 1; omega) (.slice (some ⟨gm5, 0, none⟩) B B)
            replace r5 := r5.far (p := ⟨C + 1 + 1, 2, none⟩) (by show gm5 ≠ C + 1 + 1; omega) (.slice (some ⟨gm5, 0, none⟩) B B)
            replace hzb : ZB ≤ (V4.setCell ⟨C + 1 + 1, 2, none⟩ (.slice (some ⟨gm5, 0, none⟩) B B)).heap.size := by simpa [World.setCell] using hzb
            replace hl2 : gm2 < (V4.setCell ⟨C + 1 + 1, 2, none⟩ (.slice (some ⟨gm5, 0, none⟩) B B)).heap.size := by simpa [World.setCell] using hl2
            replace hl8 : gm8 < (V4.setCell ⟨C + 1 + 1, 2, none⟩ (.slice (some ⟨gm5, 0, none⟩) B B)).heap.size := by simpa [World.setCell] using hl8
            replace hl5 : gm5 < (V4.setCell ⟨C + 1 + 1, 2, none⟩ (.slice (some ⟨gm5, 0, none⟩) B B)).heap.size := by simpa [World.setCell] using hl5
            generalize V4.setCell ⟨C + 1 + 1, 2, none⟩ (.slice (some ⟨gm5, 0, none⟩) B B) = V6 at *
            refine wpAnyY_take (i := 13) (v := ?_) rfl (by kernel_rfl) (by kernel_rfl) (by kernel_rfl) (by kernel_rfl) (fun _ _ _ h => h) (Or.inl ⟨by kernel_rfl, ?_⟩) hS ?_
            rotate_left
            · intro w' hSw; go_simp; with_reducible rfl
            try simp only [Act.put, zzA, zzB, zzC, zzD, zzE, zzF]
            have z3 := bS6.frozen 3
            have y3 := bS6.cell 3
            have lS := bS6.lt
            refine wpAnyY_oneSW (i := 14) (by kernel_rfl) rfl (by kernel_rfl) (fun K14 hK14 => ?_)
            go_simp
            refine hK14.out _ _ (hS.far (p := ⟨C + 1 + 1, 3, none⟩) (by show C ≠ C + 1 + 1; omega) _) (fun hS => ?_)
            clear hK14 z3 y3 lS
            try simp only [Act.put, zzA, zzB, zzC, zzD, zzE, zzF]
            replace F6 := F6.s (p := ⟨C + 1 + 1, 3, none⟩) (.inl rfl) (.slice (some ⟨gm8, 0, none⟩) B B)
            replace bS6 : Blk (V6.setCell ⟨C + 1 + 1, 3, none⟩ (.slice (some ⟨gm8, 0, none⟩) B B)) (C + 1 + 1) 58 #[.slice a0 q c0, .slice (some ⟨gm2, 0, none⟩) B B, .slice (some ⟨gm5, 0, none⟩) B B, .slice (some ⟨gm8, 0, none⟩) B B] := bS6.set_ 3 (.slice (some ⟨gm8, 0, none⟩) B B)
            replace bR6 := bR6.far (p := ⟨C + 1 + 1, 3, none⟩) (by show C + 1 ≠ C + 1 + 1; omega) (.slice (some ⟨gm8, 0, none⟩) B B)
            replace r0 := r0.imp id (fun h => And.intro h.1 (h.2.far (p := ⟨C + 1 + 1, 3, none⟩) hgS (.slice (some ⟨gm8, 0, none⟩) B B)))
            replace r2 := r2.far (p := ⟨C + 1 + 1, 3, none⟩) (by show gm2 ≠ C + 1 + 1; omega) (.slice (some ⟨gm8, 0, none⟩) B B)
            replace r8 := r8.far (p := ⟨C + 1 + 1, 3, none⟩) (by show gm8 ≠ C + 1 + 1; omega) (.slice (some ⟨gm8, 0, none⟩) B B)
            replace r5 := r5.far (p := ⟨C + 1 + 1, 3, none⟩) (by show gm5 ≠ C + 1 + 1; omega) (.slice (some ⟨gm8, 0, none⟩) B B)
            replace hzb : ZB ≤ (V6.setCell ⟨C + 1 + 1, 3, none⟩ (.slice (some ⟨gm8, 0, none⟩) B B)).heap.size := by simpa [World.setCell] using hzb
            replace hl2 : gm2 < (V6.setCell ⟨C + 1 + 1, 3, none⟩ (.slice (some ⟨gm8, 0, none⟩) B B)).heap.size := by simpa [World.setCell] using hl2
            replace hl8 : gm8 < (V6.setCell ⟨C + 1 + 1, 3, none⟩ (.slice (some ⟨gm8, 0, none⟩) B B)).heap.size := by simpa [World.setCell] using hl8
            replace hl5 : gm5 < (V6.setCell ⟨C + 1 + 1, 3, none⟩ (.slice (some ⟨gm8, 0, none⟩) B B)).heap.size := by simpa [World.setCell] using hl5
            generalize V6.setCell ⟨C + 1 + 1, 3, none⟩ (.slice (some ⟨gm8, 0, none⟩) B B) = V8 at *
            refine wpAnyY_done (by kernel_rfl) ?_ _
            clear hS
            have hn01 : q = 0 ∨ (gw ≠ gm2 ∧ gw ≠ gm5 ∧ gw ≠ gm8) := by omega
            have hf := beg_fin HC.out g0 F6 bR6 r0 r2 r5 r8 hC3 hgw hb2 hb5 hb8 (by omega) (by omega) (by omega) hn01 (.slice a0 q c0) (.slice (some ⟨gm2, 0, none⟩) B B) (.slice (some ⟨gm5, 0, none⟩) B B) (.slice (some ⟨gm8, 0, none⟩) B B)
            have HFN := Lib.hid hf
            have s0 := bS6.cell 0
            have s1 := bS6.cell 1
            have s2 := bS6.cell 2
            have s3 := bS6.cell 3
            have lS := bS6.lt
            have y0 := bR6.cell 0
            have y1 := bR6.cell 1
            have y2 := bR6.cell 2
            have y3 := bR6.cell 3
            have z0 := bR6.frozen 0
            have z1 := bR6.frozen 1
            have z2 := bR6.frozen 2
            have z3 := bR6.frozen 3
            have lR := bR6.lt
            have HZ := Lib.hid (HPP.out _ a0 gw gm2 gm5 gm8 c0 hf.2.1 (by have := HC.out; omega) (by have := HC.out; omega) (by have := HC.out; omega) (by have := HC.out; omega) hf.2.2)
            clear hf HPP F6 bS6 r0 r2 r5 r8 hn01
            go_wp2_with fail
            exact bodyPost_ret (resSt Tryz.f51 2 _ _ (C + 1) _ _ _ _ _ _ _ _ _ _ _ _ rfl rfl (HFN.out.1.cell 0) (HFN.out.1.cell 1) (HFN.out.1.cell 2) (HFN.out.1.cell 3)) rfl HZ.out
        · have z1 := bS6.frozen 1
          have y1 := bS6.cell 1
          have lS := bS6.lt
          go_simp
          refine hK10.out _ _ (hS.far (p := ⟨C + 1 + 1, 1, none⟩) (by show C ≠ C + 1 + 1; omega) _) (fun hS => ?_)
          clear hK10 z1 y1 lS
          try simp only [Act.put, zzA, zzB, zzC, zzD, zzE, zzF]
          replace F6 := F6.s (p := ⟨C + 1 + 1, 1, none⟩) (.inl rfl) (.slice (some ⟨gm2, 0, none⟩) B B)
          replace bS6 : Blk (V0.setCell ⟨C + 1 + 1, 1, none⟩ (.slice (some ⟨gm2, 0, none⟩) B B)) (C + 1 + 1) 58 #[.slice a0 q c0, .slice (some ⟨gm2, 0, none⟩) B B, .slice none 0 0, .slice none 0 0] := bS6.set_ 1 (.slice (some ⟨gm2, 0, none⟩) B B)
          replace bR6 := bR6.far (p := ⟨C + 1 + 1, 1, none⟩) (by show C + 1 ≠ C + 1 + 1; omega) (.slice (some ⟨gm2, 0, none⟩) B B)
          replace r0 := r0.imp id (fun h => And.intro h.1 (h.2.far (p := ⟨C + 1 + 1, 1, none⟩) hgS (.slice (some ⟨gm2, 0, none⟩) B B)))
          replace r2 := r2.far (p := ⟨C + 1 + 1, 1, none⟩) (by show gm2 ≠ C + 1 + 1; omega) (.slice (some ⟨gm2, 0, none⟩) B B)
          replace hzb : ZB ≤ (V0.setCell ⟨C + 1 + 1, 1, none⟩ (.slice (some ⟨gm2, 0, none⟩) B B)).heap.size := by simpa [World.setCell] using hzb
          replace hl2 : gm2 < (V0.setCell ⟨C + 1 + 1, 1, none⟩ (.slice (some ⟨gm2, 0, none⟩) B B)).heap.size := by simpa [World.setCell] using hl2
          generalize V0.setCell ⟨C + 1 + 1, 1, none⟩ (.slice (some ⟨gm2, 0, none⟩) B B) = V2 at *
          refine wpAnyY_twoSW (i := 5) (j := 8) (by kernel_rfl) rfl rfl (by kernel_rfl) (by kernel_rfl) (fun K5 hK5 => ?_) (fun K8 hK8 => ?_)
          · go_simp
            refine hK5.out _ _ (hS.alloc _) (fun hS => ?_)
            clear hK5
            try simp only [Act.put, zzA, zzB, zzC, zzD, zzE, zzF]
            have r5 := RI.made V2 B
            replace F6 := F6.a (.cells (mkZ B) 3)
            replace bS6 := bS6.alloc (.cells (mkZ B) 3)
            replace bR6 := bR6.alloc (.cells (mkZ B) 3)
            replace r0 := r0.imp id (fun h => And.intro h.1 (h.2.keep ((G.rf V2).a (.cells (mkZ B) 3))))
            replace r2 := r2.keep ((G.rf V2).a (.cells (mkZ B) 3))
            have hx5 : ZB ≤ V2.heap.size := hzb
            have hb5 := Nat.le_trans hsz6 hzb
            replace hzb : ZB ≤ (V2.alloc (.cells (mkZ B) 3)).heap.size := Nat.le_trans hzb (by simp)
            have hl5 : V2.heap.size < (V2.alloc (.cells (mkZ B) 3)).heap.size := by simp
            obtain ⟨gm5, hg5⟩ : ∃ g, g = V2.heap.size := ⟨_, rfl⟩
            rw [← hg5] at r5 hx5 hb5 hl5 ⊢
            have hn2_5 : gm2 ≠ gm5 := by omega
            replace hl2 : gm2 < (V2.alloc (.cells (mkZ B) 3)).heap.size := by simp <;> omega
            clear hg5
            generalize V2.alloc (.cells (mkZ B) 3) = V3 at *
            refine wpAnyY_take (i := 11) (v := ?_) rfl (by kernel_rfl) (by kernel_rfl) (by kernel_rfl) (by kernel_rfl) (fun _ _ _ h => h) (Or.inl ⟨by kernel_rfl, ?_⟩) hS ?_
            rotate_left
            · intro w' hSw; go_simp; with_reducible rfl
            try simp only [Act.put, zzA, zzB, zzC, zzD, zzE, zzF]
            refine wpAnyY_twoSW (i := 8) (j := 12) (by kernel_rfl) rfl rfl (by kernel_rfl) (by kernel_rfl) (fun K8 hK8 => ?_) (fun K12 hK12 => ?_)
            · go_simp
              refine hK8.out _ _ (hS.alloc _) (fun hS => ?_)
              clear hK8
              try simp only [Act.put, zzA, zzB, zzC, zzD, zzE, zzF]
              have r8 := RI.made V3 B
              replace F6 := F6.a (.cells (mkZ B) 3)
              replace bS6 := bS6.alloc (.cells (mkZ B) 3)
              replace bR6 := bR6.alloc (.cells (mkZ B) 3)
              replace r0 := r0.imp id (fun h => And.intro h.1 (h.2.keep ((G.rf V3).a (.cells (mkZ B) 3))))
              replace r2 := r2.keep ((G.rf V3).a (.cells (mkZ B) 3))
              replace r5 := r5.keep ((G.rf V3).a (.cells (mkZ B) 3))
              have hx8 : ZB ≤ V3.heap.size := hzb
              have hb8 := Nat.le_trans hsz6 hzb
              replace hzb : ZB ≤ (V3.alloc (.cells (mkZ B) 3)).heap.size := Nat.le_trans hzb (by simp)
              have hl8 : V3.heap.size < (V3.alloc (.cells (mkZ B) 3)).heap.size := by simp
              obtain ⟨gm8, hg8⟩ : ∃ g, g = V3.heap.size := ⟨_, rfl⟩
              rw [← hg8] at r8 hx8 hb8 hl8 ⊢
              have hn2_8 : gm2 ≠ gm8 := by omega
              replace hl2 : gm2 < (V3.alloc (.cells (mkZ B) 3)).heap.size := by simp <;> omega
              have hn5_8 : gm5 ≠ gm8 := by omega
              replace hl5 : gm5 < (V3.alloc (.cells (mkZ B) 3)).heap.size := by simp <;> omega
              clear hg8
              generalize V3.alloc (.cells (mkZ B) 3) = V5 at *
              have z2 := bS6.frozen 2
              have y2 := bS6.cell 2
              have lS := bS6.lt
              refine wpAnyY_oneSW (i := 12) (by kernel_rfl) rfl (by kernel_rfl) (fun K12 hK12 => ?_)
              go_simp
              refine hK12.out _ _ (hS.far (p := ⟨C + 1 + 1, 2, none⟩) (by show C ≠ C + 1 + 1; omega) _) (fun hS => ?_)
              clear hK12 z2 y2 lS
              try simp only [Act.put, zzA, zzB, zzC, zzD, zzE, zzF]
              replace F6 := F6.s (p := ⟨C + 1 + 1, 2, none⟩) (.inl rfl) (.slice (some ⟨gm5, 0, none⟩) B B)
              replace bS6 : Blk (V5.setCell ⟨C + 1 + 1, 2, none⟩ (.slice (some ⟨gm5, 0, none⟩) B B)) (C + 1 + 1) 58 #[.slice a0 q c0, .slice (some ⟨gm2, 0, none⟩) B B, .slice (some ⟨gm5, 0, none⟩) B B, .slice none 0 0] := bS6.set_ 2 (.slice (some ⟨gm5, 0, none⟩) B B)
              replace bR6 := bR6.far (p := ⟨C + 1 + 1, 2, none⟩) (by show C + 1 ≠ C + 1 + 1; omega) (.slice (some ⟨gm5, 0, none⟩) B B)
              replace r0 := r0.imp id (fun h => And.intro h.1 (h.2.far (p := ⟨C + 1 + 1, 2, none⟩) hgS (.slice (some ⟨gm5, 0, none⟩) B B)))
              replace r2 := r2.far (p := ⟨C + 1 + 1, 2, none⟩) (by show gm2 ≠ C + 1 + 1; omega) (.slice (some ⟨gm5, 0, none⟩) B B)
              replace r5 := r5.far (p := ⟨C + 1 + 1, 2, none⟩) (by show gm5 ≠ C + 1 + 1; omega) (.slice (some ⟨gm5, 0, none⟩) B B)
              replace r8 := r8.far (p := ⟨C + 1 + 1, 2, none⟩) (by show gm8 ≠ C + 1 + 1; omega) (.slice (some ⟨gm5, 0, none⟩) B B)
              replace hzb : ZB ≤ (V5.setCell ⟨C + 1 + 1, 2, none⟩ (.slice (some ⟨gm5, 0, none⟩) B B)).heap.size := by simpa [World.setCell] using hzb
              replace hl2 : gm2 < (V5.setCell ⟨C + 1 + 1, 2, none⟩ (.slice (some ⟨gm5, 0, none⟩) B B)).heap.size := by simpa [World.setCell] using hl2
              replace hl5 : gm5 < (V5.setCell ⟨C + 1 + 1, 2, none⟩ (.slice (some ⟨gm5, 0, none⟩) B B)).heap.size := by simpa [World.setCell] using hl5
              replace hl8 : gm8 < (V5.setCell ⟨C + 1 + 1, 2, none⟩ (.slice (some ⟨gm5, 0, none⟩) B B)).heap.size := by simpa [World.setCell] using hl8
              generalize V5.setCell ⟨C + 1 + 1, 2, none⟩ (.slice (some ⟨gm5, 0, none⟩) B B) = V6 at *
              refine wpAnyY_take (i := 13) (v := ?_) rfl (by kernel_rfl) (by kernel_rfl) (by kernel_rfl) (by kernel_rfl) (fun _ _ _ h => h) (Or.inl ⟨by kernel_rfl, ?_⟩) hS ?_
              rotate_left
              · intro w' hSw; go_simp; with_reducible rfl
              try simp only [Act.put, zzA, zzB, zzC, zzD, zzE, zzF]
              have z3 := bS6.frozen 3
              have y3 := bS6.cell 3
              have lS := bS6.lt
              refine wpAnyY_oneSW (i := 14) (by kernel_rfl) rfl (by kernel_rfl) (fun K14 hK14 => ?_)
              go_simp
              refine hK14.out _ _ (hS.far (p := ⟨C + 1 + 1, 3, none⟩) (by show C ≠ C + 1 + 1; omega) _) (fun hS => ?_)
              clear hK14 z3 y3 lS
              try simp only [Act.put, zzA, zzB, zzC, zzD, zzE, zzF]
              replace F6 := F6.s (p := ⟨C + 1 + 1, 3, none⟩) (.inl rfl) (.slice (some ⟨gm8, 0, none⟩) B B)
              replace bS6 : Blk (V6.setCell ⟨C + 1 + 1, 3, none⟩ (.slice (some ⟨gm8, 0, none⟩) B B)) (C + 1 + 1) 58 #[.slice a0 q c0, .slice (some ⟨gm2, 0, none⟩) B B, .slice (some ⟨gm5, 0, none⟩) B B, .slice (some ⟨gm8, 0, none⟩) B B] := bS6.set_ 3 (.slice (some ⟨gm8, 0, none⟩) B B)
              replace bR6 := bR6.far (p := ⟨C + 1 + 1, 3, none⟩) (by show C + 1 ≠ C + 1 + 1; omega) (.slice (some ⟨gm8, 0, none⟩) B B)
              replace r0 := r0.imp id (fun h => And.intro h.1 (h.2.far (p := ⟨C + 1 + 1, 3, none⟩) hgS (.slice (some ⟨gm8, 0, none⟩) B B)))
              replace r2 := r2.far (p := ⟨C + 1 + 1, 3, none⟩) (by show gm2 ≠ C + 1 + 1; omega) (.slice (some ⟨gm8, 0, none⟩) B B)
              replace r5 := r5.far (p := ⟨C + 1 + 1, 3, none⟩) (by show gm5 ≠ C + 1 + 1; omega) (.slice (some ⟨gm8, 0, none⟩) B B)
              replace r8 := r8.far (p := ⟨C + 1 + 1, 3, none⟩) (by show gm8 ≠ C + 1 + 1; omega) (.slice (some ⟨gm8, 0, none⟩) B B)
              replace hzb : ZB ≤ (V6.setCell ⟨C + 1 + 1, 3, none⟩ (.slice (some ⟨gm8, 0, none⟩) B B)).heap.size := by simpa [World.setCell] using hzb
              replace hl2 : gm2 < (V6.setCell ⟨C + 1 + 1, 3, none⟩ (.slice (some ⟨gm8, 0, none⟩) B B)).heap.size := by simpa [World.setCell] using hl2
              replace hl5 : gm5 < (V6.setCell ⟨C + 1 + 1, 3, none⟩ (.slice (some ⟨gm8, 0, none⟩) B B)).heap.size := by simpa [World.setCell] using hl5
              replace hl8 : gm8 < (V6.setCell ⟨C + 1 + 1, 3, none⟩ (.slice (some ⟨gm8, 0, none⟩) B B)).heap.size := by simpa [World.setCell] using hl8
              generalize V6.setCell ⟨C + 1 + 1, 3, none⟩ (.slice (some ⟨gm8, 0, none⟩) B B) = V8 at *
              refine wpAnyY_done (by kernel_rfl) ?_ _
              clear hS
              have hn01 : q = 0 ∨ (gw ≠ gm2 ∧ gw ≠ gm5 ∧ gw ≠ gm8) := by omega
              have hf := beg_fin HC.out g0 F6 bR6 r0 r2 r5 r8 hC3 hgw hb2 hb5 hb8 (by omega) (by omega) (by omega) hn01 (.slice a0 q c0) (.slice (some ⟨gm2, 0, none⟩) B B) (.slice (some ⟨gm5, 0, none⟩) B B) (.slice (some ⟨gm8, 0, none⟩) B B)
              have HFN := Lib.hid hf
              have s0 := bS6.cell 0
              have s1 := bS6.cell 1
              have s2 := bS6.cell 2
              have s3 := bS6.cell 3
              have lS := bS6.lt
              have y0 := bR6.cell 0
              have y1 := bR6.cell 1
              have y2 := bR6.cell 2
              have y3 := bR6.cell 3
              have z0 := bR6.frozen 0
              have z1 := bR6.frozen 1
              have z2 := bR6.frozen 2
              have z3 := bR6.frozen 3
              have lR := bR6.lt
              have HZ := Lib.hid (HPP.out _ a0 gw gm2 gm5 gm8 c0 hf.2.1 (by have := HC.out; omega) (by have := HC.out; omega) (by have := HC.out; omega) (by have := HC.out; omega) hf.2.2)
              clear hf HPP F6 bS6 r0 r2 r5 r8 hn01
              go_wp2_with fail
              exact bodyPost_ret (resSt Tryz.f51 2 _ _ (C + 1) _ _ _ _ _ _ _ _ _ _ _ _ rfl rfl (HFN.out.1.cell 0) (HFN.out.1.cell 1) (HFN.out.1.cell 2) (HFN.out.1.cell 3)) rfl HZ.out
            · have z2 := bS6.frozen 2
              have y2 := bS6.cell 2
              have lS := bS6.lt
              go_simp
              refine hK12.out _ _ (hS.far (p := ⟨C + 1 + 1, 2, none⟩) (by show C ≠ C + 1 + 1; omega) _) (fun hS => ?_)
              clear hK12 z2 y2 lS
              try simp only [Act.put, zzA, zzB, zzC, zzD, zzE, zzF]
              replace F6 := F6.s (p := ⟨C + 1 + 1, 2, none⟩) (.inl rfl) (.slice (some ⟨gm5, 0, none⟩) B B)
              replace bS6 : Blk (V3.setCell ⟨C + 1 + 1, 2, none⟩ (.slice (some ⟨gm5, 0, none⟩) B B)) (C + 1 + 1) 58 #[.slice a0 q c0, .slice (some ⟨gm2, 0, none⟩) B B, .slice (some ⟨gm5, 0, none⟩) B B, .slice none 0 0] := bS6.set_ 2 (.slice (some ⟨gm5, 0, none⟩) B B)
              replace bR6 := bR6.far (p := ⟨C + 1 + 1, 2, none⟩) (by show C + 1 ≠ C + 1 + 1; omega) (.slice (some ⟨gm5, 0, none⟩) B B)
              replace r0 := r0.imp id (fun h => And.intro h.1 (h.2.far (p := ⟨C + 1 + 1, 2, none⟩) hgS (.slice (some ⟨gm5, 0, none⟩) B B)))
              replace r2 := r2.far (p := ⟨C + 1 + 1, 2, none⟩) (by show gm2 ≠ C + 1 + 1; omega) (.slice (some ⟨gm5, 0, none⟩) B B)
              replace r5 := r5.far (p := ⟨C + 1 + 1, 2, none⟩) (by show gm5 ≠ C + 1 + 1; omega) (.slice (some ⟨gm5, 0, none⟩) B B)
              replace hzb : ZB ≤ (V3.setCell ⟨C + 1 + 1, 2, none⟩ (.slice (some ⟨gm5, 0, none⟩) B B)).heap.size := by simpa [World.setCell] using hzb
              replace hl2 : gm2 < (V3.setCell ⟨C + 1 + 1, 2, none⟩ (.slice (some ⟨gm5, 0, none⟩) B B)).heap.size := by simpa [World.setCell] using hl2
              replace hl5 : gm5 < (V3.setCell ⟨C + 1 + 1, 2, none⟩ (.slice (some ⟨gm5, 0, none⟩) B B)).heap.size := by simpa [World.setCell] using hl5
              generalize V3.setCell ⟨C + 1 + 1, 2, none⟩ (.slice (some ⟨gm5, 0, none⟩) B B) = V5 at *
              refine wpAnyY_oneSW (i := 8) (by kernel_rfl) rfl (by kernel_rfl) (fun K8 hK8 => ?_)
              go_simp
              refine hK8.out _ _ (hS.alloc _) (fun hS => ?_)
              clear hK8
              try simp only [Act.put, zzA, zzB, zzC, zzD, zzE, zzF]
              have r8 := RI.made V5 B
              replace F6 := F6.a (.cells (mkZ B) 3)
              replace bS6 := bS6.alloc (.cells (mkZ B) 3)
              replace bR6 := bR6.alloc (.cells (mkZ B) 3)
              replace r0 := r0.imp id (fun h => And.intro h.1 (h.2.keep ((G.rf V5).a (.cells (mkZ B) 3))))
              replace r2 := r2.keep ((G.rf V5).a (.cells (mkZ B) 3))
              replace r5 := r5.keep ((G.rf V5).a (.cells (mkZ B) 3))
              have hx8 : ZB ≤ V5.heap.size := hzb
              have hb8 := Nat.le_trans hsz6 hzb
              replace hzb : ZB ≤ (V5.alloc (.cells (mkZ B) 3)).heap.size := Nat.le_trans hzb (by simp)
              have hl8 : V5.heap.size < (V5.alloc (.cells (mkZ B) 3)).heap.size := by simp
              obtain ⟨gm8, hg8⟩ : ∃ g, g = V5.heap.size := ⟨_, rfl⟩
              rw [← hg8] at r8 hx8 hb8 hl8 ⊢
              have hn2_8 : gm2 ≠ gm8 := by omega
              replace hl2 : gm2 < (V5.alloc (.cells (mkZ B) 3)).heap.size := by simp <;> omega
              have hn5_8 : gm5 ≠ gm8 := by omega
              replace hl5 : gm5 < (V5.alloc (.cells (mkZ B) 3)).heap.size := by simp <;> omega
              clear hg8
              generalize V5.alloc (.cells (mkZ B) 3) = V6 at *
              refine wpAnyY_take (i := 13) (v := ?_) rfl (by kernel_rfl) (by kernel_rfl) (by kernel_rfl) (by kernel_rfl) (fun _ _ _ h => h) (Or.inl ⟨by kernel_rfl, ?_⟩) hS ?_
              rotate_left
              · intro w' hSw; go_simp; with_reducible rfl
              try simp only [Act.put, zzA, zzB, zzC, zzD, zzE, zzF]
              have z3 := bS6.frozen 3
              have y3 := bS6.cell 3
              have lS := bS6.lt
              refine wpAnyY_oneSW (i := 14) (by kernel_rfl) rfl (by kernel_rfl) (fun K14 hK14 => ?_)
              go_simp
              refine hK14.out _ _ (hS.far (p := ⟨C + 1 + 1, 3, none⟩) (by show C ≠ C + 1 + 1; omega) _) (fun hS => ?_)
              clear hK14 z3 y3 lS
              try simp only [Act.put, zzA, zzB, zzC, zzD, zzE, zzF]
              replace F6 := F6.s (p := ⟨C + 1 + 1, 3, none⟩) (.inl rfl) (.slice (some ⟨gm8, 0, none⟩) B B)
              replace bS6 : Blk (V6.setCell ⟨C + 1 + 1, 3, none⟩ (.slice (some ⟨gm8, 0, none⟩) B B)) (C + 1 + 1) 58 #[.slice a0 q c0, .slice (some ⟨gm2, 0, none⟩) B B, .slice (some ⟨gm5, 0, none⟩) B B, .slice (some ⟨gm8, 0, none⟩) B B] := bS6.set_ 3 (.slice (some ⟨gm8, 0, none⟩) B B)
              replace bR6 := bR6.far (p := ⟨C + 1 + 1, 3, none⟩) (by show C + 1 ≠ C + 1 + 1; omega) (.slice (some ⟨gm8, 0, none⟩) B B)
              replace r0 := r0.imp id (fun h => And.intro h.1 (h.2.far (p := ⟨C + 1 + 1, 3, none⟩) hgS (.slice (some ⟨gm8, 0, none⟩) B B)))
              replace r2 := r2.far (p := ⟨C + 1 + 1, 3, none⟩) (by show gm2 ≠ C + 1 + 1; omega) (.slice (some ⟨gm8, 0, none⟩) B B)
              replace r5 := r5.far (p := ⟨C + 1 + 1, 3, none⟩) (by show gm5 ≠ C + 1 + 1; omega) (.slice (some ⟨gm8, 0, none⟩) B B)
              replace r8 := r8.far (p := ⟨C + 1 + 1, 3, none⟩) (by show gm8 ≠ C + 1 + 1; omega) (.slice (some ⟨gm8, 0, none⟩) B B)
              replace hzb : ZB ≤ (V6.setCell ⟨C + 1 + 1, 3, none⟩ (.slice (some ⟨gm8, 0, none⟩) B B)).heap.size := by simpa [World.setCell] using hzb
              replace hl2 : gm2 < (V6.setCell ⟨C + 1 + 1, 3, none⟩ (.slice (some ⟨gm8, 0, none⟩) B B)).heap.size := by simpa [World.setCell] using hl2
              replace hl5 : gm5 < (V6.setCell ⟨C + 1 + 1, 3, none⟩ (.slice (some ⟨gm8, 0, none⟩) B B)).heap.size := by simpa [World.setCell] using hl5
              replace hl8 : gm8 < (V6.setCell ⟨C + 1 + 1, 3, none⟩ (.slice (some ⟨gm8, 0, none⟩) B B)).heap.size := by simpa [World.setCell] using hl8
              generalize V6.setCell ⟨C + 1 + 1, 3, none⟩ (.slice (some ⟨gm8, 0, none⟩) B B) = V8 at *
              refine wpAnyY_done (by kernel_rfl) ?_ _
              clear hS
              have hn01 : q = 0 ∨ (gw ≠ gm2 ∧ gw ≠ gm5 ∧ gw ≠ gm8) := by omega
              have hf := beg_fin HC.out g0 F6 bR6 r0 r2 r5 r8 hC3 hgw hb2 hb5 hb8 (by omega) (by omega) (by omega) hn01 (.slice a0 q c0) (.slice (some ⟨gm2, 0, none⟩) B B) (.slice (some ⟨gm5, 0, none⟩) B B) (.slice (some ⟨gm8, 0, none⟩) B B)
              have HFN := Lib.hid hf
              have s0 := bS6.cell 0
              have s1 := bS6.cell 1
              have s2 := bS6.cell 2
              have s3 := bS6.cell 3
              have lS := bS6.lt
              have y0 := bR6.cell 0
              have y1 := bR6.cell 1
              have y2 := bR6.cell 2
              have y3 := bR6.cell 3
              have z0 := bR6.frozen 0
              have z1 := bR6.frozen 1
              have z2 := bR6.frozen 2
              have z3 := bR6.frozen 3
              have lR := bR6.lt
              have HZ := Lib.hid (HPP.out _ a0 gw gm2 gm5 gm8 c0 hf.2.1 (by have := HC.out; omega) (by have := HC.out; omega) (by have := HC.out; omega) (by have := HC.out; omega) hf.2.2)
              clear hf HPP F6 bS6 r0 r2 r5 r8 hn01
              go_wp2_with fail
              exact bodyPost_ret (resSt Tryz.f51 2 _ _ (C + 1) _ _ _ _ _ _ _ _ _ _ _ _ rfl rfl (HFN.out.1.cell 0) (HFN.out.1.cell 1) (HFN.out.1.cell 2) (HFN.out.1.cell 3)) rfl HZ.out
          · go_simp
            refine hK8.out _ _ (hS.alloc _) (fun hS => ?_)
            clear hK8
            try simp only [Act.put, zzA, zzB, zzC, zzD, zzE, zzF]
            have r8 := RI.made V2 B
            replace F6 := F6.a (.cells (mkZ B) 3)
            replace bS6 := bS6.alloc (.cells (mkZ B) 3)
            replace bR6 := bR6.alloc (.cells (mkZ B) 3)
            replace r0 := r0.imp id (fun h => And.intro h.1 (h.2.keep ((G.rf V2).a (.cells (mkZ B) 3))))
            replace r2 := r2.keep ((G.rf V2).a (.cells (mkZ B) 3))
            have hx8 : ZB ≤ V2.heap.size := hzb
            have hb8 := Nat.le_trans hsz6 hzb
            replace hzb : ZB ≤ (V2.alloc (.cells (mkZ B) 3)).heap.size := Nat.le_trans hzb (by simp)
            have hl8 : V2.heap.size < (V2.alloc (.cells (mkZ B) 3)).heap.size := by simp
            obtain ⟨gm8, hg8⟩ : ∃ g, g = V2.heap.size := ⟨_, rfl⟩
            rw [← hg8] at r8 hx8 hb8 hl8 ⊢
            have hn2_8 : gm2 ≠ gm8 := by omega
            replace hl2 : gm2 < (V2.alloc (.cells (mkZ B) 3)).heap.size := by simp <;> omega
            clear hg8
            generalize V2.alloc (.cells (mkZ B) 3) = V3 at *
            refine wpAnyY_oneSW (i := 5) (by kernel_rfl) rfl (by kernel_rfl) (fun K5 hK5 => ?_)
            go_simp
            refine hK5.out _ _ (hS.alloc _) (fun hS => ?_)
            clear hK5
            try simp only [Act.put, zzA, zzB, zzC, zzD, zzE, zzF]
            have r5 := RI.made V3 B
            replace F6 := F6.a (.cells (mkZ B) 3)
            replace bS6 := bS6.alloc (.cells (mkZ B) 3)
            replace bR6 := bR6.alloc (.cells (mkZ B) 3)
            replace r0 := r0.imp id (fun h => And.intro h.1 (h.2.keep ((G.rf V3).a (.cells (mkZ B) 3))))
            replace r2 := r2.keep ((G.rf V3).a (.cells (mkZ B) 3))
            replace r8 := r8.keep ((G.rf V3).a (.cells (mkZ B) 3))
            have hx5 : ZB ≤ V3.heap.size := hzb
            have hb5 := Nat.le_trans hsz6 hzb
            replace hzb : ZB ≤ (V3.alloc (.cells (mkZ B) 3)).heap.size := Nat.le_trans hzb (by simp)
            have hl5 : V3.heap.size < (V3.alloc (.cells (mkZ B) 3)).heap.size := by simp
            obtain ⟨gm5, hg5⟩ : ∃ g, g = V3.heap.size := ⟨_, rfl⟩
            rw [← hg5] at r5 hx5 hb5 hl5 ⊢
            have hn2_5 : gm2 ≠ gm5 := by omega
            replace hl2 : gm2 < (V3.alloc (.cells (mkZ B) 3)).heap.size := by simp <;> omega
            have hn8_5 : gm8 ≠ gm5 := by omega
            replace hl8 : gm8 < (V3.alloc (.cells (mkZ B) 3)).heap.size := by simp <;> omega
            clear hg5
            generalize V3.alloc (.cells (mkZ B) 3) = V4 at *
            refine wpAnyY_take (i := 11) (v := ?_) rfl (by kernel_rfl) (by kernel_rfl) (by kernel_rfl) (by kernel_rfl) (fun _ _ _ h => h) (Or.inl ⟨by kernel_rfl, ?_⟩) hS ?_
            rotate_left
            · intro w' hSw; go_simp; with_reducible rfl
            try simp only [Act.put, zzA, zzB, zzC, zzD, zzE, zzF]
            have z2 := bS6.frozen 2
            have y2 := bS6.cell 2
            have lS := bS6.lt
            refine wpAnyY_oneSW (i := 12) (by kernel_rfl) rfl (by kernel_rfl) (fun K12 hK12 => ?_)
            go_simp
            refine hK12.out _ _ (hS.far (p := ⟨C + 1 + 1, 2, none⟩) (by show C ≠ C + 1 + 1; omega) _) (fun hS => ?_)
            clear hK12 z2 y2 lS
            try simp only [Act.put, zzA, zzB, zzC, zzD, zzE, zzF]
            replace F6 := F6.s (p := ⟨C + 1 + 1, 2, none⟩) (.inl rfl) (.slice (some ⟨gm5, 0, none⟩) B B)
            replace bS6 : Blk (V4.setCell ⟨C + 1 + 1, 2, none⟩ (.slice (some ⟨gm5, 0, none⟩) B B)) (C + 1 + 1) 58 #[.slice a0 q c0, .slice (some ⟨gm2, 0, none⟩) B B, .slice (some ⟨gm5, 0, none⟩) B B, .slice none 0 0] := bS6.set_ 2 (.slice (some ⟨gm5, 0, none⟩) B B)
            replace bR6 := bR6.far (p := ⟨C + 1 + 1, 2, none⟩) (by show C + 1 ≠ C + 1 + 1; omega) (.slice (some ⟨gm5, 0, none⟩) B B)
            replace r0 := r0.imp id (fun h => And.intro h.1 (h.2.far (p := ⟨C + 1 + 1, 2, none⟩) hgS (.slice (some ⟨gm5, 0, none⟩) B B)))
            replace r2 := r2.far (p := ⟨C + 1 + 1, 2, none⟩) (by show gm2 ≠ C + 1 + 1; omega) (.slice (some ⟨gm5, 0, none⟩) B B)
            replace r8 := r8.far (p := ⟨C + 1 + 1, 2, none⟩) (by show gm8 ≠ C + 1 + 1; omega) (.slice (some ⟨gm5, 0, none⟩) B B)
            replace r5 := r5.far (p := ⟨C + 1 + 1, 2, none⟩) (by show gm5 ≠ C + 1 + 1; omega) (.slice (some ⟨gm5, 0, none⟩) B B)
            replace hzb : ZB ≤ (V4.setCell ⟨C + 1 + 1, 2, none⟩ (.slice (some ⟨gm5, 0, none⟩) B B)).heap.size := by simpa [World.setCell] using hzb
            replace hl2 : gm2 < (V4.setCell ⟨C + 1 + 1, 2, none⟩ (.slice (some ⟨gm5, 0, none⟩) B B)).heap.size := by simpa [World.setCell] using hl2
            replace hl8 : gm8 < (V4.setCell ⟨C + 1 + 1, 2, none⟩ (.slice (some ⟨gm5, 0, none⟩) B B)).heap.size := by simpa [World.setCell] using hl8
            replace hl5 : gm5 < (V4.setCell ⟨C + 1 + 1, 2, none⟩ (.slice (some ⟨gm5, 0, none⟩) B B)).heap.size := by simpa [World.setCell] using hl5
            generalize V4.setCell ⟨C + 1 + 1, 2, none⟩ (.slice (some ⟨gm5, 0, none⟩) B B) = V6 at *
            refine wpAnyY_take (i := 13) (v := ?_) rfl (by kernel_rfl) (by kernel_rfl) (by kernel_rfl) (by kernel_rfl) (fun _ _ _ h => h) (Or.inl ⟨by kernel_rfl, ?_⟩) hS ?_
            rotate_left
            · intro w' hSw; go_simp; with_reducible rfl
            try simp only [Act.put, zzA, zzB, zzC, zzD, zzE, zzF]
            have z3 := bS6.frozen 3
            have y3 := bS6.cell 3
            have lS := bS6.lt
            refine wpAnyY_oneSW (i := 14) (by kernel_rfl) rfl (by kernel_rfl) (fun K14 hK14 => ?_)
            go_simp
            refine hK14.out _ _ (hS.far (p := ⟨C + 1 + 1, 3, none⟩) (by show C ≠ C + 1 + 1; omega) _) (fun hS => ?_)
            clear hK14 z3 y3 lS
            try simp only [Act.put, zzA, zzB, zzC, zzD, zzE, zzF]
            replace F6 := F6.s (p := ⟨C + 1 + 1, 3, none⟩) (.inl rfl) (.slice (some ⟨gm8, 0, none⟩) B B)
            replace bS6 : Blk (V6.setCell ⟨C + 1 + 1, 3, none⟩ (.slice (some ⟨gm8, 0, none⟩) B B)) (C + 1 + 1) 58 #[.slice a0 q c0, .slice (some ⟨gm2, 0, none⟩) B B, .slice (some ⟨gm5, 0, none⟩) B B, .slice (some ⟨gm8, 0, none⟩) B B] := bS6.set_ 3 (.slice (some ⟨gm8, 0, none⟩) B B)
            replace bR6 := bR6.far (p := ⟨C + 1 + 1, 3, none⟩) (by show C + 1 ≠ C + 1 + 1; omega) (.slice (some ⟨gm8, 0, none⟩) B B)
            replace r0 := r0.imp id (fun h => And.intro h.1 (h.2.far (p := ⟨C + 1 + 1, 3, none⟩) hgS (.slice (some ⟨gm8, 0, none⟩) B B)))
            replace r2 := r2.far (p := ⟨C + 1 + 1, 3, none⟩) (by show gm2 ≠ C + 1 + 1; omega) (.slice (some ⟨gm8, 0, none⟩) B B)
            replace r8 := r8.far (p := ⟨C + 1 + 1, 3, none⟩) (by show gm8 ≠ C + 1 + 1; omega) (.slice (some ⟨gm8, 0, none⟩) B B)
            replace r5 := r5.far (p := ⟨C + 1 + 1, 3, none⟩) (by show gm5 ≠ C + 1 + 1; omega) (.slice (some ⟨gm8, 0, none⟩) B B)
            replace hzb : ZB ≤ (V6.setCell ⟨C + 1 + 1, 3, none⟩ (.slice (some ⟨gm8, 0, none⟩) B B)).heap.size := by simpa [World.setCell] using hzb
            replace hl2 : gm2 < (V6.setCell ⟨C + 1 + 1, 3, none⟩ (.slice (some ⟨gm8, 0, none⟩) B B)).heap.size := by simpa [World.setCell] using hl2
            replace hl8 : gm8 < (V6.setCell ⟨C + 1 + 1, 3, none⟩ (.slice (some ⟨gm8, 0, none⟩) B B)).heap.size := by simpa [World.setCell] using hl8
            replace hl5 : gm5 < (V6.setCell ⟨C + 1 + 1, 3, none⟩ (.slice (some ⟨gm8, 0, none⟩) B B)).heap.size := by simpa [World.setCell] using hl5
            generalize V6.setCell ⟨C + 1 + 1, 3, none⟩ (.slice (some ⟨gm8, 0, none⟩) B B) = V8 at *
            refine wpAnyY_done (by kernel_rfl) ?_ _
            clear hS
            have hn01 : q = 0 ∨ (gw ≠ gm2 ∧ gw ≠ gm5 ∧ gw ≠ gm8) := by omega
            have hf := beg_fin HC.out g0 F6 bR6 r0 r2 r5 r8 hC3 hgw hb2 hb5 hb8 (by omega) (by omega) (by omega) hn01 (.slice a0 q c0) (.slice (some ⟨gm2, 0, none⟩) B B) (.slice (some ⟨gm5, 0, none⟩) B B) (.slice (some ⟨gm8, 0, none⟩) B B)
            have HFN := Lib.hid hf
            have s0 := bS6.cell 0
            have s1 := bS6.cell 1
            have s2 := bS6.cell 2
            have s3 := bS6.cell 3
            have lS := bS6.lt
            have y0 := bR6.cell 0
            have y1 := bR6.cell 1
            have y2 := bR6.cell 2
            have y3 := bR6.cell 3
            have z0 := bR6.frozen 0
            have z1 := bR6.frozen 1
            have z2 := bR6.frozen 2
            have z3 := bR6.frozen 3
            have lR := bR6.lt
            have HZ := Lib.hid (HPP.out _ a0 gw gm2 gm5 gm8 c0 hf.2.1 (by have := HC.out; omega) (by have := HC.out; omega) (by have := HC.out; omega) (by have := HC.out; omega) hf.2.2)
            clear hf HPP F6 bS6 r0 r2 r5 r8 hn01
            go_wp2_with fail
            exact bodyPost_ret (resSt Tryz.f51 2 _ _ (C + 1) _ _ _ _ _ _ _ _ _ _ _ _ rfl rfl (HFN.out.1.cell 0) (HFN.out.1.cell 1) (HFN.out.1.cell 2) (HFN.out.1.cell 3)) rfl HZ.out
      · go_simp
        refine hK5.out _ _ (hS.alloc _) (fun hS => ?_)
        clear hK5
        try simp only [Act.put, zzA, zzB, zzC, zzD, zzE, zzF]
        have r5 := RI.made WD B
        replace F6 := F6.a (.cells (mkZ B) 3)
        replace bS6 := bS6.alloc (.cells (mkZ B) 3)
        replace bR6 := bR6.alloc (.cells (mkZ B) 3)
        replace r0 := r0.imp id (fun h => And.intro h.1 (h.2.keep ((G.rf WD).a (.cells (mkZ B) 3))))
        have hx5 : ZB ≤ WD.heap.size := hzb
        have hb5 := Nat.le_trans hsz6 hzb
        replace hzb : ZB ≤ (WD.alloc (.cells (mkZ B) 3)).heap.size := Nat.le_trans hzb (by simp)
        have hl5 : WD.heap.size < (WD.alloc (.cells (mkZ B) 3)).heap.size := by simp
        obtain ⟨gm5, hg5⟩ : ∃ g, g = WD.heap.size := ⟨_, rfl⟩
        rw [← hg5] at r5 hx5 hb5 hl5 ⊢
        clear hg5
        generalize WD.alloc (.cells (mkZ B) 3) = V0 at *
        refine wpAnyY_twoSW (i := 2) (j := 8) (by kernel_rfl) rfl rfl (by kernel_rfl) (by kernel_rfl) (fun K2 hK2 => ?_) (fun K8 hK8 => ?_)
        · go_simp
          refine hK2.out _ _ (hS.alloc _) (fun hS => ?_)
          clear hK2
          try simp only [Act.put, zzA, zzB, zzC, zzD, zzE, zzF]
          have r2 := RI.made V0 B
          replace F6 := F6.a (.cells (mkZ B) 3)
          replace bS6 := bS6.alloc (.cells (mkZ B) 3)
          replace bR6 := bR6.alloc (.cells (mkZ B) 3)
          replace r0 := r0.imp id (fun h => And.intro h.1 (h.2.keep ((G.rf V0).a (.cells (mkZ B) 3))))
          replace r5 := r5.keep ((G.rf V0).a (.cells (mkZ B) 3))
          have hx2 : ZB ≤ V0.heap.size := hzb
          have hb2 := Nat.le_trans hsz6 hzb
          replace hzb : ZB ≤ (V0.alloc (.cells (mkZ B) 3)).heap.size := Nat.le_trans hzb (by simp)
          have hl2 : V0.heap.size < (V0.alloc (.cells (mkZ B) 3)).heap.size := by simp
          obtain ⟨gm2, hg2⟩ : ∃ g, g = V0.heap.size := ⟨_, rfl⟩
          rw [← hg2] at r2 hx2 hb2 hl2 ⊢
          have hn5_2 : gm5 ≠ gm2 := by omega
          replace hl5 : gm5 < (V0.alloc (.cells (mkZ B) 3)).heap.size := by simp <;> omega
          clear hg2
          generalize V0.alloc (.cells (mkZ B) 3) = V1 at *
          refine wpAnyY_take (i := 9) (v := ?_) rfl (by kernel_rfl) (by kernel_rfl) (by kernel_rfl) (by kernel_rfl) (fun _ _ _ h => h) (Or.inl ⟨by kernel_rfl, ?_⟩) hS ?_
          rotate_left
          · intro w' hSw; go_simp; with_reducible rfl
          try simp only [Act.put, zzA, zzB, zzC, zzD, zzE, zzF]
          refine wpAnyY_twoSW (i := 8) (j := 10) (by kernel_rfl) rfl rfl (by kernel_rfl) (by kernel_rfl) (fun K8 hK8 => ?_) (fun K10 hK10 => ?_)
          · go_simp
            refine hK8.out _ _ (hS.alloc _) (fun hS => ?_)
            clear hK8
            try simp only [Act.put, zzA, zzB, zzC, zzD, zzE, zzF]
            have r8 := RI.made V1 B
            replace F6 := F6.a (.cells (mkZ B) 3)
            replace bS6 := bS6.alloc (.cells (mkZ B) 3)
            replace bR6 := bR6.alloc (.cells (mkZ B) 3)
            replace r0 := r0.imp id (fun h => And.intro h.1 (h.2.keep ((G.rf V1).a (.cells (mkZ B) 3))))
            replace r5 := r5.keep ((G.rf V1).a (.cells (mkZ B) 3))
            replace r2 := r2.keep ((G.rf V1).a (.cells (mkZ B) 3))
            have hx8 : ZB ≤ V1.heap.size := hzb
            have hb8 := Nat.le_trans hsz6 hzb
            replace hzb : ZB ≤ (V1.alloc (.cells (mkZ B) 3)).heap.size := Nat.le_trans hzb (by simp)
            have hl8 : V1.heap.size < (V1.alloc (.cells (mkZ B) 3)).heap.size := by simp
            obtain ⟨gm8, hg8⟩ : ∃ g, g = V1.heap.size := ⟨_, rfl⟩
            rw [← hg8] at r8 hx8 hb8 hl8 ⊢
            have hn5_8 : gm5 ≠ gm8 := by omega
            replace hl5 : gm5 < (V1.alloc (.cells (mkZ B) 3)).heap.size := by simp <;> omega
            have hn2_8 : gm2 ≠ gm8 := by omega
            replace hl2 : gm2 < (V1.alloc (.cells (mkZ B) 3)).heap.size := by simp <;> omega
            clear hg8
            generalize V1.alloc (.cells (mkZ B) 3) = V3 at *
            have z1 := bS6.frozen 1
            have y1 := bS6.cell 1
            have lS := bS6.lt
            refine wpAnyY_oneSW (i := 10) (by kernel_rfl) rfl (by kernel_rfl) (fun K10 hK10 => ?_)
            go_simp
            refine hK10.out _ _ (hS.far (p := ⟨C + 1 + 1, 1, none⟩) (by show C ≠ C + 1 + 1; omega) _) (fun hS => ?_)
            clear hK10 z1 y1 lS
            try simp only [Act.put, zzA, zzB, zzC, zzD, zzE, zzF]
            replace F6 := F6.s (p := ⟨C + 1 + 1, 1, none⟩) (.inl rfl) (.slice (some ⟨gm2, 0, none⟩) B B)
            replace bS6 : Blk (V3.setCell ⟨C + 1 + 1, 1, none⟩ (.slice (some ⟨gm2, 0, none⟩) B B)) (C + 1 + 1) 58 #[.slice a0 q c0, .slice (some ⟨gm2, 0, none⟩) B B, .slice none 0 0, .slice none 0 0] := bS6.set_ 1 (.slice (some ⟨gm2, 0, none⟩) B B)
            replace bR6 := bR6.far (p := ⟨C + 1 + 1, 1, none⟩) (by show C + 1 ≠ C + 1 + 1; omega) (.slice (some ⟨gm2, 0, none⟩) B B)
            replace r0 := r0.imp id (fun h => And.intro h.1 (h.2.far (p := ⟨C + 1 + 1, 1, none⟩) hgS (.slice (some ⟨gm2, 0, none⟩) B B)))
            replace r5 := r5.far (p := ⟨C + 1 + 1, 1, none⟩) (by show gm5 ≠ C + 1 + 1; omega) (.slice (some ⟨gm2, 0, none⟩) B B)
            replace r2 := r2.far (p := ⟨C + 1 + 1, 1, none⟩) (by show gm2 ≠ C + 1 + 1; omega) (.slice (some ⟨gm2, 0, none⟩) B B)
            replace r8 := r8.far (p := ⟨C + 1 + 1, 1, none⟩) (by show gm8 ≠ C + 1 + 1; omega) (.slice (some ⟨gm2, 0, none⟩) B B)
            replace hzb : ZB ≤ (V3.setCell ⟨C + 1 + 1, 1, none⟩ (.slice (some ⟨gm2, 0, none⟩) B B)).heap.size := by simpa [World.setCell] using hzb
            replace hl5 : gm5 < (V3.setCell ⟨C + 1 + 1, 1, none⟩ (.slice (some ⟨gm2, 0, none⟩) B B)).heap.size := by simpa [World.setCell] using hl5
            replace hl2 : gm2 < (V3.setCell ⟨C + 1 + 1, 1, none⟩ (.slice (some ⟨gm2, 0, none⟩) B B)).heap.size := by simpa [World.setCell] using hl2
            replace hl8 : gm8 < (V3.setCell ⟨C + 1 + 1, 1, none⟩ (.slice (some ⟨gm2, 0, none⟩) B B)).heap.size := by simpa [World.setCell] using hl8
            generalize V3.setCell ⟨C + 1 + 1, 1, none⟩ (.slice (some ⟨gm2, 0, none⟩) B B) = V4 at *
            refine wpAnyY_take (i := 11) (v := ?_) rfl (by kernel_rfl) (by kernel_rfl) (by kernel_rfl) (by kernel_rfl) (fun _ _ _ h => h) (Or.inl ⟨by kernel_rfl, ?_⟩) hS ?_
            rotate_left
            · intro w' hSw; go_simp; with_reducible rfl
            try simp only [Act.put, zzA, zzB, zzC, zzD, zzE, zzF]
            have z2 := bS6.frozen 2
            have y2 := bS6.cell 2
            have lS := bS6.lt
            refine wpAnyY_oneSW (i := 12) (by kernel_rfl) rfl (by kernel_rfl) (fun K12 hK12 => ?_)
            go_simp
            refine hK12.out _ _ (hS.far (p := ⟨C + 1 + 1, 2, none⟩) (by show C ≠ C + 1 + 1; omega) _) (fun hS => ?_)
            clear hK12 z2 y2 lS
            try simp only [Act.put, zzA, zzB, zzC, zzD, zzE, zzF]
            replace F6 := F6.s (p := ⟨C + 1 + 1, 2, none⟩) (.inl rfl) (.slice (some ⟨gm5, 0, none⟩) B B)
            replace bS6 : Blk (V4.setCell ⟨C + 1 + 1, 2, none⟩ (.slice (some ⟨gm5, 0, none⟩) B B)) (C + 1 + 1) 58 #[.slice a0 q c0, .slice (some ⟨gm2, 0, none⟩) B B, .slice (some ⟨gm5, 0, none⟩) B B, .slice none 0 0] := bS6.set_ 2 (.slice (some ⟨gm5, 0, none⟩) B B)
            replace bR6 := bR6.far (p := ⟨C + 1 + 1, 2, none⟩) (by show C + 1 ≠ C + 1 + 1; omega) (.slice (some ⟨gm5, 0, none⟩) B B)
            replace r0 := r0.imp id (fun h => And.intro h.1 (h.2.far (p := ⟨C + 1 + 1, 2, none⟩) hgS (.slice (some ⟨gm5, 0, none⟩) B B)))
            replace r5 := r5.far (p := ⟨C + 1 + 1, 2, none⟩) (by show gm5 ≠ C + 1 + 1; omega) (.slice (some ⟨gm5, 0, none⟩) B B)
            replace r2 := r2.far (p := ⟨C + 1 + 1, 2, none⟩) (by show gm2 ≠ C + 1 + 1; omega) (.slice (some ⟨gm5, 0, none⟩) B B)
            replace r8 := r8.far (p := ⟨C + 1 + 1, 2, none⟩) (by show gm8 ≠ C + 1 + 1; omega) (.slice (some ⟨gm5, 0, none⟩) B B)
            replace hzb : ZB ≤ (V4.setCell ⟨C + 1 + 1, 2, none⟩ (.slice (some ⟨gm5, 0, none⟩) B B)).heap.size := by simpa [World.setCell] using hzb
            replace hl5 : gm5 < (V4.setCell ⟨C + 1 + 1, 2, none⟩ (.slice (some ⟨gm5, 0, none⟩) B B)).heap.size := by simpa [World.setCell] using hl5
            replace hl2 : gm2 < (V4.setCell ⟨C + 1 + 1, 2, none⟩ (.slice (some ⟨gm5, 0, none⟩) B B)).heap.size := by simpa [World.setCell] using hl2
            replace hl8 : gm8 < (V4.setCell ⟨C + 1 + 1, 2, none⟩ (.slice (some ⟨gm5, 0, none⟩) B B)).heap.size := by simpa [World.setCell] using hl8
            generalize V4.setCell ⟨C + 1 + 1, 2, none⟩ (.slice (some ⟨gm5, 0, none⟩) B B) = V6 at *
            refine wpAnyY_take (i := 13) (v := ?_) rfl (by kernel_rfl) (by kernel_rfl) (by kernel_rfl) (by kernel_rfl) (fun _ _ _ h => h) (Or.inl ⟨by kernel_rfl, ?_⟩) hS ?_
            rotate_left
            · intro w' hSw; go_simp; with_reducible rfl
            try simp only [Act.put, zzA, zzB, zzC, zzD, zzE, zzF]
            have z3 := bS6.frozen 3
            have y3 := bS6.cell 3
            have lS := bS6.lt
            refine wpAnyY_oneSW (i := 14) (by kernel_rfl) rfl (by kernel_rfl) (fun K14 hK14 => ?_)
            go_simp
            refine hK14.out _ _ (hS.far (p := ⟨C + 1 + 1, 3, none⟩) (by show C ≠ C + 1 + 1; omega) _) (fun hS => ?_)
            clear hK14 z3 y3 lS
            try simp only [Act.put, zzA, zzB, zzC, zzD, zzE, zzF]
            replace F6 := F6.s (p := ⟨C + 1 + 1, 3, none⟩) (.inl rfl) (.slice (some ⟨gm8, 0, none⟩) B B)
            replace bS6 : Blk (V6.setCell ⟨C + 1 + 1, 3, none⟩ (.slice (some ⟨gm8, 0, none⟩) B B)) (C + 1 + 1) 58 #[.slice a0 q c0, .slice (some ⟨gm2, 0, none⟩) B B, .slice (some ⟨gm5, 0, none⟩) B B, .slice (some ⟨gm8, 0, none⟩) B B] := bS6.set_ 3 (.slice (some ⟨gm8, 0, none⟩) B B)
            replace bR6 := bR6.far (p := ⟨C + 1 + 1, 3, none⟩) (by show C + 1 ≠ C + 1 + 1; omega) (.slice (some ⟨gm8, 0, none⟩) B B)
            replace r0 := r0.imp id (fun h => And.intro h.1 (h.2.far (p := ⟨C + 1 + 1, 3, none⟩) hgS (.slice (some ⟨gm8, 0, none⟩) B B)))
            replace r5 := r5.far (p := ⟨C + 1 + 1, 3, none⟩) (by show gm5 ≠ C + 1 + 1; omega) (.slice (some ⟨gm8, 0, none⟩) B B)
            replace r2 := r2.far (p := ⟨C + 1 + 1, 3, none⟩) (by show gm2 ≠ C + 1 + 1; omega) (.slice (some ⟨gm8, 0, none⟩) B B)
            replace r8 := r8.far (p := ⟨C + 1 + 1, 3, none⟩) (by show gm8 ≠ C + 1 + 1; omega) (.slice (some ⟨gm8, 0, none⟩) B B)
            replace hzb : ZB ≤ (V6.setCell ⟨C + 1 + 1, 3, none⟩ (.slice (some ⟨gm8, 0, none⟩) B B)).heap.size := by simpa [World.setCell] using hzb
            replace hl5 : gm5 < (V6.setCell ⟨C + 1 + 1, 3, none⟩ (.slice (some ⟨gm8, 0, none⟩) B B)).heap.size := by simpa [World.setCell] using hl5
            replace hl2 : gm2 < (V6.setCell ⟨C + 1 + 1, 3, none⟩ (.slice (some ⟨gm8, 0, none⟩) B B)).heap.size := by simpa [World.setCell] using hl2
            replace hl8 : gm8 < (V6.setCell ⟨C + 1 + 1, 3, none⟩ (.slice (some ⟨gm8, 0, none⟩) B B)).heap.size := by simpa [World.setCell] using hl8
            generalize V6.setCell ⟨C + 1 + 1, 3, none⟩ (.slice (some ⟨gm8, 0, none⟩) B B) = V8 at *
            refine wpAnyY_done (by kernel_rfl) ?_ _
            clear hS
            have hn01 : q = 0 ∨ (gw ≠ gm2 ∧ gw ≠ gm5 ∧ gw ≠ gm8) := by omega
            have hf := beg_fin HC.out g0 F6 bR6 r0 r2 r5 r8 hC3 hgw hb2 hb5 hb8 (by omega) (by omega) (by omega) hn01 (.slice a0 q c0) (.slice (some ⟨gm2, 0, none⟩) B B) (.slice (some ⟨gm5, 0, none⟩) B B) (.slice (some ⟨gm8, 0, none⟩) B B)
            have HFN := Lib.hid hf
            have s0 := bS6.cell 0
            have s1 := bS6.cell 1
            have s2 := bS6.cell 2
            have s3 := bS6.cell 3
            have lS := bS6.lt
            have y0 := bR6.cell 0
            have y1 := bR6.cell 1
            have y2 := bR6.cell 2
            have y3 := bR6.cell 3
            have z0 := bR6.frozen 0
            have z1 := bR6.frozen 1
            have z2 := bR6.frozen 2
            have z3 := bR6.frozen 3
            have lR := bR6.lt
            have HZ := Lib.hid (HPP.out _ a0 gw gm2 gm5 gm8 c0 hf.2.1 (by have := HC.out; omega) (by have := HC.out; omega) (by have := HC.out; omega) (by have := HC.out; omega) hf.2.2)
            clear hf HPP F6 bS6 r0 r2 r5 r8 hn01
            go_wp2_with fail
            exact bodyPost_ret (resSt Tryz.f51 2 _ _ (C + 1) _ _ _ _ _ _ _ _ _ _ _ _ rfl rfl (HFN.out.1.cell 0) (HFN.out.1.cell 1) (HFN.out.1.cell 2) (HFN.out.1.cell 3)) rfl HZ.out
          · have z1 := bS6.frozen 1
            have y1 := bS6.cell 1
            have lS := bS6.lt
            go_simp
            refine hK10.out _ _ (hS.far (p := ⟨C + 1 + 1, 1, none⟩) (by show C ≠ C + 1 + 1; omega) _) (fun hS => ?_)
            clear hK10 z1 y1 lS
            try simp only [Act.put, zzA, zzB, zzC, zzD, zzE, zzF]
            replace F6 := F6.s (p := ⟨C + 1 + 1, 1, none⟩) (.inl rfl) (.slice (some ⟨gm2, 0, none⟩) B B)
            replace bS6 : Blk (V1.setCell ⟨C + 1 + 1, 1, none⟩ (.slice (some ⟨gm2, 0, none⟩) B B)) (C + 1 + 1) 58 #[.slice a0 q c0, .slice (some ⟨gm2, 0, none⟩) B B, .slice none 0 0, .slice none 0 0] := bS6.set_ 1 (.slice (some ⟨gm2, 0, none⟩) B B)
            replace bR6 := bR6.far (p := ⟨C + 1 + 1, 1, none⟩) (by show C + 1 ≠ C + 1 + 1; omega) (.slice (some ⟨gm2, 0, none⟩) B B)
            replace r0 := r0.imp id (fun h => And.intro h.1 (h.2.far (p := ⟨C + 1 + 1, 1, none⟩) hgS (.slice (some ⟨gm2, 0, none⟩) B B)))
            replace r5 := r5.far (p := ⟨C + 1 + 1, 1, none⟩) (by show gm5 ≠ C + 1 + 1; omega) (.slice (some ⟨gm2, 0, none⟩) B B)
            replace r2 := r2.far (p := ⟨C + 1 + 1, 1, none⟩) (by show gm2 ≠ C + 1 + 1; omega) (.slice (some ⟨gm2, 0, none⟩) B B)
            replace hzb : ZB ≤ (V1.setCell ⟨C + 1 + 1, 1, none⟩ (.slice (some ⟨gm2, 0, none⟩) B B)).heap.size := by simpa [World.setCell] using hzb
            replace hl5 : gm5 < (V1.setCell ⟨C + 1 + 1, 1, none⟩ (.slice (some ⟨gm2, 0, none⟩) B B)).heap.size := by simpa [World.setCell] using hl5
            replace hl2 : gm2 < (V1.setCell ⟨C + 1 + 1, 1, none⟩ (.slice (some ⟨gm2, 0, none⟩) B B)).heap.size := by simpa [World.setCell] using hl2
            generalize V1.setCell ⟨C + 1 + 1, 1, none⟩ (.slice (some ⟨gm2, 0, none⟩) B B) = V3 at *
            refine wpAnyY_take (i := 11) (v := ?_) rfl (by kernel_rfl) (by kernel_rfl) (by kernel_rfl) (by kernel_rfl) (fun _ _ _ h => h) (Or.inl ⟨by kernel_rfl, ?_⟩) hS ?_
            rotate_left
            · intro w' hSw; go_simp; with_reducible rfl
            try simp only [Act.put, zzA, zzB, zzC, zzD, zzE, zzF]
            refine wpAnyY_twoSW (i := 8) (j := 12) (by kernel_rfl) rfl rfl (by kernel_rfl) (by kernel_rfl) (fun K8 hK8 => ?_) (fun K12 hK12 => ?_)
            · go_simp
              refine hK8.out _ _ (hS.alloc _) (fun hS => ?_)
              clear hK8
              try simp only [Act.put, zzA, zzB, zzC, zzD, zzE, zzF]
              have r8 := RI.made V3 B
              replace F6 := F6.a (.cells (mkZ B) 3)
              replace bS6 := bS6.alloc (.cells (mkZ B) 3)
              replace bR6 := bR6.alloc (.cells (mkZ B) 3)
              replace r0 := r0.imp id (fun h => And.intro h.1 (h.2.keep ((G.rf V3).a (.cells (mkZ B) 3))))
              replace r5 := r5.keep ((G.rf V3).a (.cells (mkZ B) 3))
              replace r2 := r2.keep ((G.rf V3).a (.cells (mkZ B) 3))
              have hx8 : ZB ≤ V3.heap.size := hzb
              have hb8 := Nat.le_trans hsz6 hzb
              replace hzb : ZB ≤ (V3.alloc (.cells (mkZ B) 3)).heap.size := Nat.le_trans hzb (by simp)
              have hl8 : V3.heap.size < (V3.alloc (.cells (mkZ B) 3)).heap.size := by simp
              obtain ⟨gm8, hg8⟩ : ∃ g, g = V3.heap.size := ⟨_, rfl⟩
              rw [← hg8] at r8 hx8 hb8 hl8 ⊢
              have hn5_8 : gm5 ≠ gm8 := by omega
              replace hl5 : gm5 < (V3.alloc (.cells (mkZ B) 3)).heap.size := by simp <;> omega
              have hn2_8 : gm2 ≠ gm8 := by omega
              replace hl2 : gm2 < (V3.alloc (.cells (mkZ B) 3)).heap.size := by simp <;> omega
              clear hg8
              generalize V3.alloc (.cells (mkZ B) 3) = V5 at *
              have z2 := bS6.frozen 2
              have y2 := bS6.cell 2
              have lS := bS6.lt
              refine wpAnyY_oneSW (i := 12) (by kernel_rfl) rfl (by kernel_rfl) (fun K12 hK12 => ?_)
              go_simp
              refine hK12.out _ _ (hS.far (p := ⟨C + 1 + 1, 2, none⟩) (by show C ≠ C + 1 + 1; omega) _) (fun hS => ?_)
              clear hK12 z2 y2 lS
              try simp only [Act.put, zzA, zzB, zzC, zzD, zzE, zzF]
              replace F6 := F6.s (p := ⟨C + 1 + 1, 2, none⟩) (.inl rfl) (.slice (some ⟨gm5, 0, none⟩) B B)
              replace bS6 : Blk (V5.setCell ⟨C + 1 + 1, 2, none⟩ (.slice (some ⟨gm5, 0, none⟩) B B)) (C + 1 + 1) 58 #[.slice a0 q c0, .slice (some ⟨gm2, 0, none⟩) B B, .slice (some ⟨gm5, 0, none⟩) B B, .slice none 0 0] := bS6.set_ 2 (.slice (some ⟨gm5, 0, none⟩) B B)
              replace bR6 := bR6.far (p := ⟨C + 1 + 1, 2, none⟩) (by show C + 1 ≠ C + 1 + 1; omega) (.slice (some ⟨gm5, 0, none⟩) B B)
              replace r0 := r0.imp id (fun h => And.intro h.1 (h.2.far (p := ⟨C + 1 + 1, 2, none⟩) hgS (.slice (some ⟨gm5, 0, none⟩) B B)))
              replace r5 := r5.far (p := ⟨C + 1 + 1, 2, none⟩) (by show gm5 ≠ C + 1 + 1; omega) (.slice (some ⟨gm5, 0, none⟩) B B)
              replace r2 := r2.far (p := ⟨C + 1 + 1, 2, none⟩) (by show gm2 ≠ C + 1 + 1; omega) (.slice (some ⟨gm5, 0, none⟩) B B)
              replace r8 := r8.far (p := ⟨C + 1 + 1, 2, none⟩) (by show gm8 ≠ C + 1 + 1; omega) (.slice (some ⟨gm5, 0, none⟩) B B)
              replace hzb : ZB ≤ (V5.setCell ⟨C + 1 + 1, 2, none⟩ (.slice (some ⟨gm5, 0, none⟩) B B)).heap.size := by simpa [World.setCell] using hzb
              replace hl5 : gm5 < (V5.setCell ⟨C + 1 + 1, 2, none⟩ (.slice (some ⟨gm5, 0, none⟩) B B)).heap.size := by simpa [World.setCell] using hl5
              replace hl2 : gm2 < (V5.setCell ⟨C + 1 + 1, 2, none⟩ (.slice (some ⟨gm5, 0, none⟩) B B)).heap.size := by simpa [World.setCell] using hl2
              replace hl8 : gm8 < (V5.setCell ⟨C + 1 + 1, 2, none⟩ (.slice (some ⟨gm5, 0, none⟩) B B)).heap.size := by simpa [World.setCell] using hl8
              generalize V5.setCell ⟨C + 1 + 1, 2, none⟩ (.slice (some ⟨gm5, 0, none⟩) B B) = V6 at *
              refine wpAnyY_take (i := 13) (v := ?_) rfl (by kernel_rfl) (by kernel_rfl) (by kernel_rfl) (by kernel_rfl) (fun _ _ _ h => h) (Or.inl ⟨by kernel_rfl, ?_⟩) hS ?_
              rotate_left
              · intro w' hSw; go_simp; with_reducible rfl
              try simp only [Act.put, zzA, zzB, zzC, zzD, zzE, zzF]
              have z3 := bS6.frozen 3
              have y3 := bS6.cell 3
              have lS := bS6.lt
              refine wpAnyY_oneSW (i := 14) (by kernel_rfl) rfl (by kernel_rfl) (fun K14 hK14 => ?_)
              go_simp
              refine hK14.out _ _ (hS.far (p := ⟨C + 1 + 1, 3, none⟩) (by show C ≠ C + 1 + 1; omega) _) (fun hS => ?_)
              clear hK14 z3 y3 lS
              try simp only [Act.put, zzA, zzB, zzC, zzD, zzE, zzF]
              replace F6 := F6.s (p := ⟨C + 1 + 1, 3, none⟩) (.inl rfl) (.slice (some ⟨gm8, 0, none⟩) B B)
              replace bS6 : Blk (V6.setCell ⟨C + 1 + 1, 3, none⟩ (.slice (some ⟨gm8, 0, none⟩) B B)) (C + 1 + 1) 58 #[.slice a0 q c0, .slice (some ⟨gm2, 0, none⟩) B B, .slice (some ⟨gm5, 0, none⟩) B B, .slice (some ⟨gm8, 0, none⟩) B B] := bS6.set_ 3 (.slice (some ⟨gm8, 0, none⟩) B B)
              replace bR6 := bR6.far (p := ⟨C + 1 + 1, 3, none⟩) (by show C + 1 ≠ C + 1 + 1; omega) (.slice (some ⟨gm8, 0, none⟩) B B)
              replace r0 := r0.imp id (fun h => And.intro h.1 (h.2.far (p := ⟨C + 1 + 1, 3, none⟩) hgS (.slice (some ⟨gm8, 0, none⟩) B B)))
              replace r5 := r5.far (p := ⟨C + 1 + 1, 3, none⟩) (by show gm5 ≠ C + 1 + 1; omega) (.slice (some ⟨gm8, 0, none⟩) B B)
              replace r2 := r2.far (p := ⟨C + 1 + 1, 3, none⟩) (by show gm2 ≠ C + 1 + 1; omega) (.slice (some ⟨gm8, 0, none⟩) B B)
              replace r8 := r8.far (p := ⟨C + 1 + 1, 3, none⟩) (by show gm8 ≠ C + 1 + 1; omega) (.slice (some ⟨gm8, 0, none⟩) B B)
              replace hzb : ZB ≤ (V6.setCell ⟨C + 1 + 1, 3, none⟩ (.slice (some ⟨gm8, 0, none⟩) B B)).heap.size := by simpa [World.setCell] using hzb
              replace hl5 : gm5 < (V6.setCell ⟨C + 1 + 1, 3, none⟩ (.slice (some ⟨gm8, 0, none⟩) B B)).heap.size := by simpa [World.setCell] using hl5
              replace hl2 : gm2 < (V6.setCell ⟨C + 1 + 1, 3, none⟩ (.slice (some ⟨gm8, 0, none⟩) B B)).heap.size := by simpa [World.setCell] using hl2
              replace hl8 : gm8 < (V6.setCell ⟨C + 1 + 1, 3, none⟩ (.slice (some ⟨gm8, 0, none⟩) B B)).heap.size := by simpa [World.setCell] using hl8
              generalize V6.setCell ⟨C + 1 + 1, 3, none⟩ (.slice (some ⟨gm8, 0, none⟩) B B) = V8 at *
              refine wpAnyY_done (by kernel_rfl) ?_ _
              clear hS
              have hn01 : q = 0 ∨ (gw ≠ gm2 ∧ gw ≠ gm5 ∧ gw ≠ gm8) := by omega
              have hf := beg_fin HC.out g0 F6 bR6 r0 r2 r5 r8 hC3 hgw hb2 hb5 hb8 (by omega) (by omega) (by omega) hn01 (.slice a0 q c0) (.slice (some ⟨gm2, 0, none⟩) B B) (.slice (some ⟨gm5, 0, none⟩) B B) (.slice (some ⟨gm8, 0, none⟩) B B)
              have HFN := Lib.hid hf
              have s0 := bS6.cell 0
              have s1 := bS6.cell 1
              have s2 := bS6.cell 2
              have s3 := bS6.cell 3
              have lS := bS6.lt
              have y0 := bR6.cell 0
              have y1 := bR6.cell 1
              have y2 := bR6.cell 2
              have y3 := bR6.cell 3
              have z0 := bR6.frozen 0
              have z1 := bR6.frozen 1
              have z2 := bR6.frozen 2
              have z3 := bR6.frozen 3
              have lR := bR6.lt
              have HZ := Lib.hid (HPP.out _ a0 gw gm2 gm5 gm8 c0 hf.2.1 (by have := HC.out; omega) (by have := HC.out; omega) (by have := HC.out; omega) (by have := HC.out; omega) hf.2.2)
              clear hf HPP F6 bS6 r0 r2 r5 r8 hn01
              go_wp2_with fail
              exact bodyPost_ret (resSt Tryz.f51 2 _ _ (C + 1) _ _ _ _ _ _ _ _ _ _ _ _ rfl rfl (HFN.out.1.cell 0) (HFN.out.1.cell 1) (HFN.out.1.cell 2) (HFN.out.1.cell 3)) rfl HZ.out
            · have z2 := bS6.frozen 2
              have y2 := bS6.cell 2
              have lS := bS6.lt
              go_simp
              refine hK12.out _ _ (hS.far (p := ⟨C + 1 + 1, 2, none⟩) (by show C ≠ C + 1 + 1; omega) _) (fun hS => ?_)
              clear hK12 z2 y2 lS
              try simp only [Act.put, zzA, zzB, zzC, zzD, zzE, zzF]
              replace F6 := F6.s (p := ⟨C + 1 + 1, 2, none⟩) (.inl rfl) (.slice (some ⟨gm5, 0, none⟩) B B)
              replace bS6 : Blk (V3.setCell ⟨C + 1 + 1, 2, none⟩ (.slice (some ⟨gm5, 0, none⟩) B B)) (C + 1 + 1) 58 #[.slice a0 q c0, .slice (some ⟨gm2, 0, none⟩) B B, .slice (some ⟨gm5, 0, none⟩) B B, .slice none 0 0] := bS6.set_ 2 (.slice (some ⟨gm5, 0, none⟩) B B)
              replace bR6 := bR6.far (p := ⟨C + 1 + 1, 2, none⟩) (by show C + 1 ≠ C + 1 + 1; omega) (.slice (some ⟨gm5, 0, none⟩) B B)
              replace r0 := r0.imp id (fun h => And.intro h.1 (h.2.far (p := ⟨C + 1 + 1, 2, none⟩) hgS (.slice (some ⟨gm5, 0, none⟩) B B)))
              replace r5 := r5.far (p := ⟨C + 1 + 1, 2, none⟩) (by show gm5 ≠ C + 1 + 1; omega) (.slice (some ⟨gm5, 0, none⟩) B B)
              replace r2 := r2.far (p := ⟨C + 1 + 1, 2, none⟩) (by show gm2 ≠ C + 1 + 1; omega) (.slice (some ⟨gm5, 0, none⟩) B B)
              replace hzb : ZB ≤ (V3.setCell ⟨C + 1 + 1, 2, none⟩ (.slice (some ⟨gm5, 0, none⟩) B B)).heap.size := by simpa [World.setCell] using hzb
              replace hl5 : gm5 < (V3.setCell ⟨C + 1 + 1, 2, none⟩ (.slice (some ⟨gm5, 0, none⟩) B B)).heap.size := by simpa [World.setCell] using hl5
              replace hl2 : gm2 < (V3.setCell ⟨C + 1 + 1, 2, none⟩ (.slice (some ⟨gm5, 0, none⟩) B B)).heap.size := by simpa [World.setCell] using hl2
              generalize V3.setCell ⟨C + 1 + 1, 2, none⟩ (.slice (some ⟨gm5, 0, none⟩) B B) = V5 at *
              refine wpAnyY_oneSW (i := 8) (by kernel_rfl) rfl (by kernel_rfl) (fun K8 hK8 => ?_)
              go_simp
              refine hK8.out _ _ (hS.alloc _) (fun hS => ?_)
              clear hK8
              try simp only [Act.put, zzA, zzB, zzC, zzD, zzE, zzF]
              have r8 := RI.made V5 B
              replace F6 := F6.a (.cells (mkZ B) 3)
              replace bS6 := bS6.alloc (.cells (mkZ B) 3)
              replace bR6 := bR6.alloc (.cells (mkZ B) 3)
              replace r0 := r0.imp id (fun h => And.intro h.1 (h.2.keep ((G.rf V5).a (.cells (mkZ B) 3))))
              replace r5 := r5.keep ((G.rf V5).a (.cells (mkZ B) 3))
              replace r2 := r2.keep ((G.rf V5).a (.cells (mkZ B) 3))
              have hx8 : ZB ≤ V5.heap.size := hzb
              have hb8 := Nat.le_trans hsz6 hzb
              replace hzb : ZB ≤ (V5.alloc (.cells (mkZ B) 3)).heap.size := Nat.le_trans hzb (by simp)
              have hl8 : V5.heap.size < (V5.alloc (.cells (mkZ B) 3)).heap.size := by simp
              obtain ⟨gm8, hg8⟩ : ∃ g, g = V5.heap.size := ⟨_, rfl⟩
              rw [← hg8] at r8 hx8 hb8 hl8 ⊢
              have hn5_8 : gm5 ≠ gm8 := by omega
              replace hl5 : gm5 < (V5.alloc (.cells (mkZ B) 3)).heap.size := by simp <;> omega
              have hn2_8 : gm2 ≠ gm8 := by omega
              replace hl2 : gm2 < (V5.alloc (.cells (mkZ B) 3)).heap.size := by simp <;> omega
              clear hg8
              generalize V5.alloc (.cells (mkZ B) 3) = V6 at *
              refine wpAnyY_take (i := 13) (v := ?_) rfl (by kernel_rfl) (by kernel_rfl) (by kernel_rfl) (by kernel_rfl) (fun _ _ _ h => h) (Or.inl ⟨by kernel_rfl, ?_⟩) hS ?_
              rotate_left
              · intro w' hSw; go_simp; with_reducible rfl
              try simp only [Act.put, zzA, zzB, zzC, zzD, zzE, zzF]
              have z3 := bS6.frozen 3
              have y3 := bS6.cell 3
              have lS := bS6.lt
              refine wpAnyY_oneSW (i := 14) (by kernel_rfl) rfl (by kernel_rfl) (fun K14 hK14 => ?_)
              go_simp
              refine hK14.out _ _ (hS.far (p := ⟨C + 1 + 1, 3, none⟩) (by show C ≠ C + 1 + 1; omega) _) (fun hS => ?_)
              clear hK14 z3 y3 lS
              try simp only [Act.put, zzA, zzB, zzC, zzD, zzE, zzF]
              replace F6 := F6.s (p := ⟨C + 1 + 1, 3, none⟩) (.inl rfl) (.slice (some ⟨gm8, 0, none⟩) B B)
              replace bS6 : Blk (V6.setCell ⟨C + 1 + 1, 3, none⟩ (.slice (some ⟨gm8, 0, none⟩) B B)) (C + 1 + 1) 58 #[.slice a0 q c0, .slice (some ⟨gm2, 0, none⟩) B B, .slice (some ⟨gm5, 0, none⟩) B B, .slice (some ⟨gm8, 0, none⟩) B B] := bS6.set_ 3 (.slice (some ⟨gm8, 0, none⟩) B B)
              replace bR6 := bR6.far (p := ⟨C + 1 + 1, 3, none⟩) (by show C + 1 ≠ C + 1 + 1; omega) (.slice (some ⟨gm8, 0, none⟩) B B)
              replace r0 := r0.imp id (fun h => And.intro h.1 (h.2.far (p := ⟨C + 1 + 1, 3, none⟩) hgS (.slice (some ⟨gm8, 0, none⟩) B B)))
              replace r5 := r5.far (p := ⟨C + 1 + 1, 3, none⟩) (by show gm5 ≠ C + 1 + 1; omega) (.slice (some ⟨gm8, 0, none⟩) B B)
              replace r2 := r2.far (p := ⟨C + 1 + 1, 3, none⟩) (by show gm2 ≠ C + 1 + 1; omega) (.slice (some ⟨gm8, 0, none⟩) B B)
              replace r8 := r8.far (p := ⟨C + 1 + 1, 3, none⟩) (by show gm8 ≠ C + 1 + 1; omega) (.slice (some ⟨gm8, 0, none⟩) B B)
              replace hzb : ZB ≤ (V6.setCell ⟨C + 1 + 1, 3, none⟩ (.slice (some ⟨gm8, 0, none⟩) B B)).heap.size := by simpa [World.setCell] using hzb
              replace hl5 : gm5 < (V6.setCell ⟨C + 1 + 1, 3, none⟩ (.slice (some ⟨gm8, 0, none⟩) B B)).heap.size := by simpa [World.setCell] using hl5
              replace hl2 : gm2 < (V6.setCell ⟨C + 1 + 1, 3, none⟩ (.slice (some ⟨gm8, 0, none⟩) B B)).heap.size := by simpa [World.setCell] using hl2
              replace hl8 : gm8 < (V6.setCell ⟨C + 1 + 1, 3, none⟩ (.slice (some ⟨gm8, 0, none⟩) B B)).heap.size := by simpa [World.setCell] using hl8
              generalize V6.setCell ⟨C + 1 + 1, 3, none⟩ (.slice (some ⟨gm8, 0, none⟩) B B) = V8 at *
              refine wpAnyY_done (by kernel_rfl) ?_ _
              clear hS
              have hn01 : q = 0 ∨ (gw ≠ gm2 ∧ gw ≠ gm5 ∧ gw ≠ gm8) := by omega
              have hf := beg_fin HC.out g0 F6 bR6 r0 r2 r5 r8 hC3 hgw hb2 hb5 hb8 (by omega) (by omega) (by omega) hn01 (.slice a0 q c0) (.slice (some ⟨gm2, 0, none⟩) B B) (.slice (some ⟨gm5, 0, none⟩) B B) (.slice (some ⟨gm8, 0, none⟩) B B)
              have HFN := Lib.hid hf
              have s0 := bS6.cell 0
              have s1 := bS6.cell 1
              have s2 := bS6.cell 2
              have s3 := bS6.cell 3
              have lS := bS6.lt
              have y0 := bR6.cell 0
              have y1 := bR6.cell 1
              have y2 := bR6.cell 2
              have y3 := bR6.cell 3
              have z0 := bR6.frozen 0
              have z1 := bR6.frozen 1
              have z2 := bR6.frozen 2
              have z3 := bR6.frozen 3
              have lR := bR6.lt
              have HZ := Lib.hid (HPP.out _ a0 gw gm2 gm5 gm8 c0 hf.2.1 (by have := HC.out; omega) (by have := HC.out; omega) (by have := HC.out; omega) (by have := HC.out; omega) hf.2.2)
              clear hf HPP F6 bS6 r0 r2 r5 r8 hn01
              go_wp2_with fail
              exact bodyPost_ret (resSt Tryz.f51 2 _ _ (C + 1) _ _ _ _ _ _ _ _ _ _ _ _ rfl rfl (HFN.out.1.cell 0) (HFN.out.1.cell 1) (HFN.out.1.cell 2) (HFN.out.1.cell 3)) rfl HZ.out
        · go_simp
          refine hK8.out _ _ (hS.alloc _) (fun hS => ?_)
          clear hK8
          try simp only [Act.put, zzA, zzB, zzC, zzD, zzE, zzF]
          have r8 := RI.made V0 B
          replace F6 := F6.a (.cells (mkZ B) 3)
          replace bS6 := bS6.alloc (.cells (mkZ B) 3)
          replace bR6 := bR6.alloc (.cells (mkZ B) 3)
          replace r0 := r0.imp id (fun h => And.intro h.1 (h.2.keep ((G.rf V0).a (.cells (mkZ B) 3))))
          replace r5 := r5.keep ((G.rf V0).a (.cells (mkZ B) 3))
          have hx8 : ZB ≤ V0.heap.size := hzb
          have hb8 := Nat.le_trans hsz6 hzb
          replace hzb : ZB ≤ (V0.alloc (.cells (mkZ B) 3)).heap.size := Nat.le_trans hzb (by simp)
          have hl8 : V0.heap.size < (V0.alloc (.cells (mkZ B) 3)).heap.size := by simp
          obtain ⟨gm8, hg8⟩ : ∃ g, g = V0.heap.size := ⟨_, rfl⟩
          rw [← hg8] at r8 hx8 hb8 hl8 ⊢
          have hn5_8 : gm5 ≠ gm8 := by omega
          replace hl5 : gm5 < (V0.alloc (.cells (mkZ B) 3)).heap.size := by simp <;> omega
          clear hg8
          generalize V0.alloc (.cells (mkZ B) 3) = V1 at *
          refine wpAnyY_oneSW (i := 2) (by kernel_rfl) rfl (by kernel_rfl) (fun K2 hK2 => ?_)
          go_simp
          refine hK2.out _ _ (hS.alloc _) (fun hS => ?_)
          clear hK2
          try simp only [Act.put, zzA, zzB, zzC, zzD, zzE, zzF]
          have r2 := RI.made V1 B
          replace F6 := F6.a (.cells (mkZ B) 3)
          replace bS6 := bS6.alloc (.cells (mkZ B) 3)
          replace bR6 := bR6.alloc (.cells (mkZ B) 3)
          replace r0 := r0.imp id (fun h => And.intro h.1 (h.2.keep ((G.rf V1).a (.cells (mkZ B) 3))))
          replace r5 := r5.keep ((G.rf V1).a (.cells (mkZ B) 3))
          replace r8 := r8.keep ((G.rf V1).a (.cells (mkZ B) 3))
          have hx2 : ZB ≤ V1.heap.size := hzb
          have hb2 := Nat.le_trans hsz6 hzb
          replace hzb : ZB ≤ (V1.alloc (.cells (mkZ B) 3)).heap.size := Nat.le_trans hzb (by simp)
          have hl2 : V1.heap.size < (V1.alloc (.cells (mkZ B) 3)).heap.size := by simp
          obtain ⟨gm2, hg2⟩ : ∃ g, g = V1.heap.size := ⟨_, rfl⟩
          rw [← hg2] at r2 hx2 hb2 hl2 ⊢
          have hn5_2 : gm5 ≠ gm2 := by omega
          replace hl5 : gm5 < (V1.alloc (.cells (mkZ B) 3)).heap.size := by simp <;> omega
          have hn8_2 : gm8 ≠ gm2 := by omega
          replace hl8 : gm8 < (V1.alloc (.cells (mkZ B) 3)).heap.size := by simp <;> omega
          clear hg2
          generalize V1.alloc (.cells (mkZ B) 3) = V2 at *
          refine wpAnyY_take (i := 9) (v := ?_) rfl (by kernel_rfl) (by kernel_rfl) (by kernel_rfl) (by kernel_rfl) (fun _ _ _ h => h) (Or.inl ⟨by kernel_rfl, ?_⟩) hS ?_
          rotate_left
          · intro w' hSw; go_simp; with_reducible rfl
          try simp only [Act.put, zzA, zzB, zzC, zzD, zzE, zzF]
          have z1 := bS6.frozen 1
          have y1 := bS6.cell 1
          have lS := bS6.lt
          refine wpAnyY_oneSW (i := 10) (by kernel_rfl) rfl (by kernel_rfl) (fun K10 hK10 => ?_)
          go_simp
          refine hK10.out _ _ (hS.far (p := ⟨C + 1 + 1, 1, none⟩) (by show C ≠ C + 1 + 1; omega) _) (fun hS => ?_)
          clear hK10 z1 y1 lS
          try simp only [Act.put, zzA, zzB, zzC, zzD, zzE, zzF]
          replace F6 := F6.s (p := ⟨C + 1 + 1, 1, none⟩) (.inl rfl) (.slice (some ⟨gm2, 0, none⟩) B B)
          replace bS6 : Blk (V2.setCell ⟨C + 1 + 1, 1, none⟩ (.slice (some ⟨gm2, 0, none⟩) B B)) (C + 1 + 1) 58 #[.slice a0 q c0, .slice (some ⟨gm2, 0, none⟩) B B, .slice none 0 0, .slice none 0 0] := bS6.set_ 1 (.slice (some ⟨gm2, 0, none⟩) B B)
          replace bR6 := bR6.far (p := ⟨C + 1 + 1, 1, none⟩) (by show C + 1 ≠ C + 1 + 1; omega) (.slice (some ⟨gm2, 0, none⟩) B B)
          replace r0 := r0.imp id (fun h => And.intro h.1 (h.2.far (p := ⟨C + 1 + 1, 1, none⟩) hgS (.slice (some ⟨gm2, 0, none⟩) B B)))
          replace r5 := r5.far (p := ⟨C + 1 + 1, 1, none⟩) (by show gm5 ≠ C + 1 + 1; omega) (.slice (some ⟨gm2, 0, none⟩) B B)
          replace r8 := r8.far (p := ⟨C + 1 + 1, 1, none⟩) (by show gm8 ≠ C + 1 + 1; omega) (.slice (some ⟨gm2, 0, none⟩) B B)
          replace r2 := r2.far (p := ⟨C + 1 + 1, 1, none⟩) (by show gm2 ≠ C + 1 + 1; omega) (.slice (some ⟨gm2, 0, none⟩) B B)
          replace hzb : ZB ≤ (V2.setCell ⟨C + 1 + 1, 1, none⟩ (.slice (some ⟨gm2, 0, none⟩) B B)).heap.size := by simpa [World.setCell] using hzb
          replace hl5 : gm5 < (V2.setCell ⟨C + 1 + 1, 1, none⟩ (.slice (some ⟨gm2, 0, none⟩) B B)).heap.size := by simpa [World.setCell] using hl5
          replace hl8 : gm8 < (V2.setCell ⟨C + 1 + 1, 1, none⟩ (.slice (some ⟨gm2, 0, none⟩) B B)).heap.size := by simpa [World.setCell] using hl8
          replace hl2 : gm2 < (V2.setCell ⟨C + 1 + 1, 1, none⟩ (.slice (some ⟨gm2, 0, none⟩) B B)).heap.size := by simpa [World.setCell] using hl2
          generalize V2.setCell ⟨C + 1 + 1, 1, none⟩ (.slice (some ⟨gm2, 0, none⟩) B B) = V4 at *
          refine wpAnyY_take (i := 11) (v := ?_) rfl (by kernel_rfl) (by kernel_rfl) (by kernel_rfl) (by kernel_rfl) (fun _ _ _ h => h) (Or.inl ⟨by kernel_rfl, ?_⟩) hS ?_
          rotate_left
          · intro w' hSw; go_simp; with_reducible rfl
          try simp only [Act.put, zzA, zzB, zzC, zzD, zzE, zzF]
          have z2 := bS6.frozen 2
          have y2 := bS6.cell 2
          have lS := bS6.lt
          refine wpAnyY_oneSW (i := 12) (by kernel_rfl) rfl (by kernel_rfl) (fun K12 hK12 => ?_)
          go_simp
          refine hK12.out _ _ (hS.far (p := ⟨C + 1 + 1, 2, none⟩) (by show C ≠ C + 1 + 1; omega) _) (fun hS => ?_)
          clear hK12 z2 y2 lS
          try simp only [Act.put, zzA, zzB, zzC, zzD, zzE, zzF]
          replace F6 := F6.s (p := ⟨C + 1 + 1, 2, none⟩) (.inl rfl) (.slice (some ⟨gm5, 0, none⟩) B B)
          replace bS6 : Blk (V4.setCell ⟨C + 1 + 1, 2, none⟩ (.slice (some ⟨gm5, 0, none⟩) B B)) (C + 1 + 1) 58 #[.slice a0 q c0, .slice (some ⟨gm2, 0, none⟩) B B, .slice (some ⟨gm5, 0, none⟩) B B, .slice none 0 0] := bS6.set_ 2 (.slice (some ⟨gm5, 0, none⟩) B B)
          replace bR6 := bR6.far (p := ⟨C + 1 + 1, 2, none⟩) (by show C + 1 ≠ C + 1 + 1; omega) (.slice (some ⟨gm5, 0, none⟩) B B)
          replace r0 := r0.imp id (fun h => And.intro h.1 (h.2.far (p := ⟨C + 1 + 1, 2, none⟩) hgS (.slice (some ⟨gm5, 0, none⟩) B B)))
          replace r5 := r5.far (p := ⟨C + 1 + 1, 2, none⟩) (by show gm5 ≠ C + 1 + 1; omega) (.slice (some ⟨gm5, 0, none⟩) B B)
          replace r8 := r8.far (p := ⟨C + 1 + 1, 2, none⟩) (by show gm8 ≠ C + 1 + 1; omega) (.slice (some ⟨gm5, 0, none⟩) B B)
          replace r2 := r2.far (p := ⟨C + 1 + 1, 2, none⟩) (by show gm2 ≠ C + 1 + 1; omega) (.slice (some ⟨gm5, 0, none⟩) B B)
          replace hzb : ZB ≤ (V4.setCell ⟨C + 1 + 1, 2, none⟩ (.slice (some ⟨gm5, 0, none⟩) B B)).heap.size := by simpa [World.setCell] using hzb
          replace hl5 : gm5 < (V4.setCell ⟨C + 1 + 1, 2, none⟩ (.slice (some ⟨gm5, 0, none⟩) B B)).heap.size := by simpa [World.setCell] using hl5
          replace hl8 : gm8 < (V4.setCell ⟨C + 1 + 1, 2, none⟩ (.slice (some ⟨gm5, 0, none⟩) B B)).heap.size := by simpa [World.setCell] using hl8
          replace hl2 : gm2 < (V4.setCell ⟨C + 1 + 1, 2, none⟩ (.slice (some ⟨gm5, 0, none⟩) B B)).heap.size := by simpa [World.setCell] using hl2
          generalize V4.setCell ⟨C + 1 + 1, 2, none⟩ (.slice (some ⟨gm5, 0, none⟩) B B) = V6 at *
          refine wpAnyY_take (i := 13) (v := ?_) rfl (by kernel_rfl) (by kernel_rfl) (by kernel_rfl) (by kernel_rfl) (fun _ _ _ h => h) (Or.inl ⟨by kernel_rfl, ?_⟩) hS ?_
          rotate_left
          · intro w' hSw; go_simp; with_reducible rfl
          try simp only [Act.put, zzA, zzB, zzC, zzD, zzE, zzF]
          have z3 := bS6.frozen 3
          have y3 := bS6.cell 3
          have lS := bS6.lt
          refine wpAnyY_oneSW (i := 14) (by kernel_rfl) rfl (by kernel_rfl) (fun K14 hK14 => ?_)
          go_simp
          refine hK14.out _ _ (hS.far (p := ⟨C + 1 + 1, 3, none⟩) (by show C ≠ C + 1 + 1; omega) _) (fun hS => ?_)
          clear hK14 z3 y3 lS
          try simp only [Act.put, zzA, zzB, zzC, zzD, zzE, zzF]
          replace F6 := F6.s (p := ⟨C + 1 + 1, 3, none⟩) (.inl rfl) (.slice (some ⟨gm8, 0, none⟩) B B)
          replace bS6 : Blk (V6.setCell ⟨C + 1 + 1, 3, none⟩ (.slice (some ⟨gm8, 0, none⟩) B B)) (C + 1 + 1) 58 #[.slice a0 q c0, .slice (some ⟨gm2, 0, none⟩) B B, .slice (some ⟨gm5, 0, none⟩) B B, .slice (some ⟨gm8, 0, none⟩) B B] := bS6.set_ 3 (.slice (some ⟨gm8, 0, none⟩) B B)
          replace bR6 := bR6.far (p := ⟨C + 1 + 1, 3, none⟩) (by show C + 1 ≠ C + 1 + 1; omega) (.slice (some ⟨gm8, 0, none⟩) B B)
          replace r0 := r0.imp id (fun h => And.intro h.1 (h.2.far (p := ⟨C + 1 + 1, 3, none⟩) hgS (.slice (some ⟨gm8, 0, none⟩) B B)))
          replace r5 := r5.far (p := ⟨C + 1 + 1, 3, none⟩) (by show gm5 ≠ C + 1 + 1; omega) (.slice (some ⟨gm8, 0, none⟩) B B)
          replace r8 := r8.far (p := ⟨C + 1 + 1, 3, none⟩) (by show gm8 ≠ C + 1 + 1; omega) (.slice (some ⟨gm8, 0, none⟩) B B)
          replace r2 := r2.far (p := ⟨C + 1 + 1, 3, none⟩) (by show gm2 ≠ C + 1 + 1; omega) (.slice (some ⟨gm8, 0, none⟩) B B)
          replace hzb : ZB ≤ (V6.setCell ⟨C + 1 + 1, 3, none⟩ (.slice (some ⟨gm8, 0, none⟩) B B)).heap.size := by simpa [World.setCell] using hzb
          replace hl5 : gm5 < (V6.setCell ⟨C + 1 + 1, 3, none⟩ (.slice (some ⟨gm8, 0, none⟩) B B)).heap.size := by simpa [World.setCell] using hl5
          replace hl8 : gm8 < (V6.setCell ⟨C + 1 + 1, 3, none⟩ (.slice (some ⟨gm8, 0, none⟩) B B)).heap.size := by simpa [World.setCell] using hl8
          replace hl2 : gm2 < (V6.setCell ⟨C + 1 + 1, 3, none⟩ (.slice (some ⟨gm8, 0, none⟩) B B)).heap.size := by simpa [World.setCell] using hl2
          generalize V6.setCell ⟨C + 1 + 1, 3, none⟩ (.slice (some ⟨gm8, 0, none⟩) B B) = V8 at *
          refine wpAnyY_done (by kernel_rfl) ?_ _
          clear hS
          have hn01 : q = 0 ∨ (gw ≠ gm2 ∧ gw ≠ gm5 ∧ gw ≠ gm8) := by omega
          have hf := beg_fin HC.out g0 F6 bR6 r0 r2 r5 r8 hC3 hgw hb2 hb5 hb8 (by omega) (by omega) (by omega) hn01 (.slice a0 q c0) (.slice (some ⟨gm2, 0, none⟩) B B) (.slice (some ⟨gm5, 0, none⟩) B B) (.slice (some ⟨gm8, 0, none⟩) B B)
          have HFN := Lib.hid hf
          have s0 := bS6.cell 0
          have s1 := bS6.cell 1
          have s2 := bS6.cell 2
          have s3 := bS6.cell 3
          have lS := bS6.lt
          have y0 := bR6.cell 0
          have y1 := bR6.cell 1
          have y2 := bR6.cell 2
          have y3 := bR6.cell 3
          have z0 := bR6.frozen 0
          have z1 := bR6.frozen 1
          have z2 := bR6.frozen 2
          have z3 := bR6.frozen 3
          have lR := bR6.lt
          have HZ := Lib.hid (HPP.out _ a0 gw gm2 gm5 gm8 c0 hf.2.1 (by have := HC.out; omega) (by have := HC.out; omega) (by have := HC.out; omega) (by have := HC.out; omega) hf.2.2)
          clear hf HPP F6 bS6 r0 r2 r5 r8 hn01
          go_wp2_with fail
          exact bodyPost_ret (resSt Tryz.f51 2 _ _ (C + 1) _ _ _ _ _ _ _ _ _ _ _ _ rfl rfl (HFN.out.1.cell 0) (HFN.out.1.cell 1) (HFN.out.1.cell 2) (HFN.out.1.cell 3)) rfl HZ.out
      · go_simp
        refine hK8.out _ _ (hS.alloc _) (fun hS => ?_)
        clear hK8
        try simp only [Act.put, zzA, zzB, zzC, zzD, zzE, zzF]
        have r8 := RI.made WD B
        replace F6 := F6.a (.cells (mkZ B) 3)
        replace bS6 := bS6.alloc (.cells (mkZ B) 3)
        replace bR6 := bR6.alloc (.cells (mkZ B) 3)
        replace r0 := r0.imp id (fun h => And.intro h.1 (h.2.keep ((G.rf WD).a (.cells (mkZ B) 3))))
        have hx8 : ZB ≤ WD.heap.size := hzb
        have hb8 := Nat.le_trans hsz6 hzb
        replace hzb : ZB ≤ (WD.alloc (.cells (mkZ B) 3)).heap.size := Nat.le_trans hzb (by simp)
        have hl8 : WD.heap.size < (WD.alloc (.cells (mkZ B) 3)).heap.size := by simp
        obtain ⟨gm8, hg8⟩ : ∃ g, g = WD.heap.size := ⟨_, rfl⟩
        rw [← hg8] at r8 hx8 hb8 hl8 ⊢
        clear hg8
        generalize WD.alloc (.cells (mkZ B) 3) = V0 at *
        refine wpAnyY_twoSW (i := 2) (j := 5) (by kernel_rfl) rfl rfl (by kernel_rfl) (by kernel_rfl) (fun K2 hK2 => ?_) (fun K5 hK5 => ?_)
        · go_simp
          refine hK2.out _ _ (hS.alloc _) (fun hS => ?_)
          clear hK2
          try simp only [Act.put, zzA, zzB, zzC, zzD, zzE, zzF]
          have r2 := RI.made V0 B
          replace F6 := F6.a (.cells (mkZ B) 3)
          replace bS6 := bS6.alloc (.cells (mkZ B) 3)
          replace bR6 := bR6.alloc (.cells (mkZ B) 3)
          replace r0 := r0.imp id (fun h => And.intro h.1 (h.2.keep ((G.rf V0).a (.cells (mkZ B) 3))))
          replace r8 := r8.keep ((G.rf V0).a (.cells (mkZ B) 3))
          have hx2 : ZB ≤ V0.heap.size := hzb
          have hb2 := Nat.le_trans hsz6 hzb
          replace hzb : ZB ≤ (V0.alloc (.cells (mkZ B) 3)).heap.size := Nat.le_trans hzb (by simp)
          have hl2 : V0.heap.size < (V0.alloc (.cells (mkZ B) 3)).heap.size := by simp
          obtain ⟨gm2, hg2⟩ : ∃ g, g = V0.heap.size := ⟨_, rfl⟩
          rw [← hg2] at r2 hx2 hb2 hl2 ⊢
          have hn8_2 : gm8 ≠ gm2 := by omega
          replace hl8 : gm8 < (V0.alloc (.cells (mkZ B) 3)).heap.size := by simp <;> omega
          clear hg2
          generalize V0.alloc (.cells (mkZ B) 3) = V1 at *
          refine wpAnyY_take (i := 9) (v := ?_) rfl (by kernel_rfl) (by kernel_rfl) (by kernel_rfl) (by kernel_rfl) (fun _ _ _ h => h) (Or.inl ⟨by kernel_rfl, ?_⟩) hS ?_
          rotate_left
          · intro w' hSw; go_simp; with_reducible rfl
          try simp only [Act.put, zzA, zzB, zzC, zzD, zzE, zzF]
          refine wpAnyY_twoSW (i := 5) (j := 10) (by kernel_rfl) rfl rfl (by kernel_rfl) (by kernel_rfl) (fun K5 hK5 => ?_) (fun K10 hK10 => ?_)
          · go_simp
            refine hK5.out _ _ (hS.alloc _) (fun hS => ?_)
            clear hK5
            try simp only [Act.put, zzA, zzB, zzC, zzD, zzE, zzF]
            have r5 := RI.made V1 B
            replace F6 := F6.a (.cells (mkZ B) 3)
            replace bS6 := bS6.alloc (.cells (mkZ B) 3)
            replace bR6 := bR6.alloc (.cells (mkZ B) 3)
            replace r0 := r0.imp id (fun h => And.intro h.1 (h.2.keep ((G.rf V1).a (.cells (mkZ B) 3))))
            replace r8 := r8.keep ((G.rf V1).a (.cells (mkZ B) 3))
            replace r2 := r2.keep ((G.rf V1).a (.cells (mkZ B) 3))
            have hx5 : ZB ≤ V1.heap.size := hzb
            have hb5 := Nat.le_trans hsz6 hzb
            replace hzb : ZB ≤ (V1.alloc (.cells (mkZ B) 3)).heap.size := Nat.le_trans hzb (by simp)
            have hl5 : V1.heap.size < (V1.alloc (.cells (mkZ B) 3)).heap.size := by simp
            obtain ⟨gm5, hg5⟩ : ∃ g, g = V1.heap.size := ⟨_, rfl⟩
            rw [← hg5] at r5 hx5 hb5 hl5 ⊢
            have hn8_5 : gm8 ≠ gm5 := by omega
            replace hl8 : gm8 < (V1.alloc (.cells (mkZ B) 3)).heap.size := by simp <;> omega
            have hn2_5 : gm2 ≠ gm5 := by omega
            replace hl2 : gm2 < (V1.alloc (.cells (mkZ B) 3)).heap.size := by simp <;> omega
            clear hg5
            generalize V1.alloc (.cells (mkZ B) 3) = V3 at *
            have z1 := bS6.frozen 1
            have y1 := bS6.cell 1
            have lS := bS6.lt
            refine wpAnyY_oneSW (i := 10) (by kernel_rfl) rfl (by kernel_rfl) (fun K10 hK10 => ?_)
            go_simp
            refine hK10.out _ _ (hS.far (p := ⟨C + 1 + 1, 1, none⟩) (by show C ≠ C + 1 + 1; omega) _) (fun hS => ?_)
            clear hK10 z1 y1 lS
            try simp only [Act.put, zzA, zzB, zzC, zzD, zzE, zzF]
            replace F6 := F6.s (p := ⟨C + 1 + 1, 1, none⟩) (.inl rfl) (.slice (some ⟨gm2, 0, none⟩) B B)
            replace bS6 : Blk (V3.setCell ⟨C + 1 + 1, 1, none⟩ (.slice (some ⟨gm2, 0, none⟩) B B)) (C + 1 + 1) 58 #[.slice a0 q c0, .slice (some ⟨gm2, 0, none⟩) B B, .slice none 0 0, .slice none 0 0] := bS6.set_ 1 (.slice (some ⟨gm2, 0, none⟩) B B)
            replace bR6 := bR6.far (p := ⟨C + 1 + 1, 1, none⟩) (by show C + 1 ≠ C + 1 + 1; omega) (.slice (some ⟨gm2, 0, none⟩) B B)
            replace r0 := r0.imp id (fun h => And.intro h.1 (h.2.far (p := ⟨C + 1 + 1, 1, none⟩) hgS (.slice (some ⟨gm2, 0, none⟩) B B)))
            replace r8 := r8.far (p := ⟨C + 1 + 1, 1, none⟩) (by show gm8 ≠ C + 1 + 1; omega) (.slice (some ⟨gm2, 0, none⟩) B B)
            replace r2 := r2.far (p := ⟨C + 1 + 1, 1, none⟩) (by show gm2 ≠ C + 1 + 1; omega) (.slice (some ⟨gm2, 0, none⟩) B B)
            replace r5 := r5.far (p := ⟨C + 1 + 1, 1, none⟩) (by show gm5 ≠ C + 1 + 1; omega) (.slice (some ⟨gm2, 0, none⟩) B B)
            replace hzb : ZB ≤ (V3.setCell ⟨C + 1 + 1, 1, none⟩ (.slice (some ⟨gm2, 0, none⟩) B B)).heap.size := by simpa [World.setCell] using hzb
            replace hl8 : gm8 < (V3.setCell ⟨C + 1 + 1, 1, none⟩ (.slice (some ⟨gm2, 0, none⟩) B B)).heap.size := by simpa [World.setCell] using hl8
            replace hl2 : gm2 < (V3.setCell ⟨C + 1 + 1, 1, none⟩ (.slice (some ⟨gm2, 0, none⟩) B B)).heap.size := by simpa [World.setCell] using hl2
            replace hl5 : gm5 < (V3.setCell ⟨C + 1 + 1, 1, none⟩ (.slice (some ⟨gm2, 0, none⟩) B B)).heap.size := by simpa [World.setCell] using hl5
            generalize V3.setCell ⟨C + 1 + 1, 1, none⟩ (.slice (some ⟨gm2, 0, none⟩) B B) = V4 at *
            refine wpAnyY_take (i := 11) (v := ?_) rfl (by kernel_rfl) (by kernel_rfl) (by kernel_rfl) (by kernel_rfl) (fun _ _ _ h => h) (Or.inl ⟨by kernel_rfl, ?_⟩) hS ?_
            rotate_left
            · intro w' hSw; go_simp; with_reducible rfl
            try simp only [Act.put, zzA, zzB, zzC, zzD, zzE, zzF]
            have z2 := bS6.frozen 2
            have y2 := bS6.cell 2
            have lS := bS6.lt
            refine wpAnyY_oneSW (i := 12) (by kernel_rfl) rfl (by kernel_rfl) (fun K12 hK12 => ?_)
            go_simp
            refine hK12.out _ _ (hS.far (p := ⟨C + 1 + 1, 2, none⟩) (by show C ≠ C + 1 + 1; omega) _) (fun hS => ?_)
            clear hK12 z2 y2 lS
            try simp only [Act.put, zzA, zzB, zzC, zzD, zzE, zzF]
            replace F6 := F6.s (p := ⟨C + 1 + 1, 2, none⟩) (.inl rfl) (.slice (some ⟨gm5, 0, none⟩) B B)
            replace bS6 : Blk (V4.setCell ⟨C + 1 + 1, 2, none⟩ (.slice (some ⟨gm5, 0, none⟩) B B)) (C + 1 + 1) 58 #[.slice a0 q c0, .slice (some ⟨gm2, 0, none⟩) B B, .slice (some ⟨gm5, 0, none⟩) B B, .slice none 0 0] := bS6.set_ 2 (.slice (some ⟨gm5, 0, none⟩) B B)
            replace bR6 := bR6.far (p := ⟨C + 1 + 1, 2, none⟩) (by show C + 1 ≠ C + 1 + 1; omega) (.slice (some ⟨gm5, 0, none⟩) B B)
            replace r0 := r0.imp id (fun h => And.intro h.1 (h.2.far (p := ⟨C + 1 + 1, 2, none⟩) hgS (.slice (some ⟨gm5, 0, none⟩) B B)))
            replace r8 := r8.far (p := ⟨C + 1 + 1, 2, none⟩) (by show gm8 ≠ C + 1 + 1; omega) (.slice (some ⟨gm5, 0, none⟩) B B)
            replace r2 := r2.far (p := ⟨C + 1 + 1, 2, none⟩) (by show gm2 ≠ C + 1 + 1; omega) (.slice (some ⟨gm5, 0, none⟩) B B)
            replace r5 := r5.far (p := ⟨C + 1 + 1, 2, none⟩) (by show gm5 ≠ C + 1 + 1; omega) (.slice (some ⟨gm5, 0, none⟩) B B)
            replace hzb : ZB ≤ (V4.setCell ⟨C + 1 + 1, 2, none⟩ (.slice (some ⟨gm5, 0, none⟩) B B)).heap.size := by simpa [World.setCell] using hzb
            replace hl8 : gm8 < (V4.setCell ⟨C + 1 + 1, 2, none⟩ (.slice (some ⟨gm5, 0, none⟩) B B)).heap.size := by simpa [World.setCell] using hl8
            replace hl2 : gm2 < (V4.setCell ⟨C + 1 + 1, 2, none⟩ (.slice (some ⟨gm5, 0, none⟩) B B)).heap.size := by simpa [World.setCell] using hl2
            replace hl5 : gm5 < (V4.setCell ⟨C + 1 + 1, 2, none⟩ (.slice (some ⟨gm5, 0, none⟩) B B)).heap.size := by simpa [World.setCell] using hl5
            generalize V4.setCell ⟨C + 1 + 1, 2, none⟩ (.slice (some ⟨gm5, 0, none⟩) B B) = V6 at *
            refine wpAnyY_take (i := 13) (v := ?_) rfl (by kernel_rfl) (by kernel_rfl) (by kernel_rfl) (by kernel_rfl) (fun _ _ _ h => h) (Or.inl ⟨by kernel_rfl, ?_⟩) hS ?_
            rotate_left
            · intro w' hSw; go_simp; with_reducible rfl
            try simp only [Act.put, zzA, zzB, zzC, zzD, zzE, zzF]
            have z3 := bS6.frozen 3
            have y3 := bS6.cell 3
            have lS := bS6.lt
            refine wpAnyY_oneSW (i := 14) (by kernel_rfl) rfl (by kernel_rfl) (fun K14 hK14 => ?_)
            go_simp
            refine hK14.out _ _ (hS.far (p := ⟨C + 1 + 1, 3, none⟩) (by show C ≠ C + 1 + 1; omega) _) (fun hS => ?_)
            clear hK14 z3 y3 lS
            try simp only [Act.put, zzA, zzB, zzC, zzD, zzE, zzF]
            replace F6 := F6.s (p := ⟨C + 1 + 1, 3, none⟩) (.inl rfl) (.slice (some ⟨gm8, 0, none⟩) B B)
            replace bS6 : Blk (V6.setCell ⟨C + 1 + 1, 3, none⟩ (.slice (some ⟨gm8, 0, none⟩) B B)) (C + 1 + 1) 58 #[.slice a0 q c0, .slice (some ⟨gm2, 0, none⟩) B B, .slice (some ⟨gm5, 0, none⟩) B B, .slice (some ⟨gm8, 0, none⟩) B B] := bS6.set_ 3 (.slice (some ⟨gm8, 0, none⟩) B B)
            replace bR6 := bR6.far (p := ⟨C + 1 + 1, 3, none⟩) (by show C + 1 ≠ C + 1 + 1; omega) (.slice (some ⟨gm8, 0, none⟩) B B)
            replace r0 := r0.imp id (fun h => And.intro h.1 (h.2.far (p := ⟨C + 1 + 1, 3, none⟩) hgS (.slice (some ⟨gm8, 0, none⟩) B B)))
            replace r8 := r8.far (p := ⟨C + 1 + 1, 3, none⟩) (by show gm8 ≠ C + 1 + 1; omega) (.slice (some ⟨gm8, 0, none⟩) B B)
            replace r2 := r2.far (p := ⟨C + 1 + 1, 3, none⟩) (by show gm2 ≠ C + 1 + 1; omega) (.slice (some ⟨gm8, 0, none⟩) B B)
            replace r5 := r5.far (p := ⟨C + 1 + 1, 3, none⟩) (by show gm5 ≠ C + 1 + 1; omega) (.slice (some ⟨gm8, 0, none⟩) B B)
            replace hzb : ZB ≤ (V6.setCell ⟨C + 1 + 1, 3, none⟩ (.slice (some ⟨gm8, 0, none⟩) B B)).heap.size := by simpa [World.setCell] using hzb
            replace hl8 : gm8 < (V6.setCell ⟨C + 1 + 1, 3, none⟩ (.slice (some ⟨gm8, 0, none⟩) B B)).heap.size := by simpa [World.setCell] using hl8
            replace hl2 : gm2 < (V6.setCell ⟨C + 1 + 1, 3, none⟩ (.slice (some ⟨gm8, 0, none⟩) B B)).heap.size := by simpa [World.setCell] using hl2
            replace hl5 : gm5 < (V6.setCell ⟨C + 1 + 1, 3, none⟩ (.slice (some ⟨gm8, 0, none⟩) B B)).heap.size := by simpa [World.setCell] using hl5
            generalize V6.setCell ⟨C + 1 + 1, 3, none⟩ (.slice (some ⟨gm8, 0, none⟩) B B) = V8 at *
            refine wpAnyY_done (by kernel_rfl) ?_ _
            clear hS
            have hn01 : q = 0 ∨ (gw ≠ gm2 ∧ gw ≠ gm5 ∧ gw ≠ gm8) := by omega
            have hf := beg_fin HC.out g0 F6 bR6 r0 r2 r5 r8 hC3 hgw hb2 hb5 hb8 (by omega) (by omega) (by omega) hn01 (.slice a0 q c0) (.slice (some ⟨gm2, 0, none⟩) B B) (.slice (some ⟨gm5, 0, none⟩) B B) (.slice (some ⟨gm8, 0, none⟩) B B)
            have HFN := Lib.hid hf
            have s0 := bS6.cell 0
            have s1 := bS6.cell 1
            have s2 := bS6.cell 2
            have s3 := bS6.cell 3
            have lS := bS6.lt
            have y0 := bR6.cell 0
            have y1 := bR6.cell 1
            have y2 := bR6.cell 2
            have y3 := bR6.cell 3
            have z0 := bR6.frozen 0
            have z1 := bR6.frozen 1
            have z2 := bR6.frozen 2
            have z3 := bR6.frozen 3
            have lR := bR6.lt
            have HZ := Lib.hid (HPP.out _ a0 gw gm2 gm5 gm8 c0 hf.2.1 (by have := HC.out; omega) (by have := HC.out; omega) (by have := HC.out; omega) (by have := HC.out; omega) hf.2.2)
            clear hf HPP F6 bS6 r0 r2 r5 r8 hn01
            go_wp2_with fail
            exact bodyPost_ret (resSt Tryz.f51 2 _ _ (C + 1) _ _ _ _ _ _ _ _ _ _ _ _ rfl rfl (HFN.out.1.cell 0) (HFN.out.1.cell 1) (HFN.out.1.cell 2) (HFN.out.1.cell 3)) rfl HZ.out
          · have z1 := bS6.frozen 1
            have y1 := bS6.cell 1
            have lS := bS6.lt
            go_simp
            refine hK10.out _ _ (hS.far (p := ⟨C + 1 + 1, 1, none⟩) (by show C ≠ C + 1 + 1; omega) _) (fun hS => ?_)
            clear hK10 z1 y1 lS
            try simp only [Act.put, zzA, zzB, zzC, zzD, zzE, zzF]
            replace F6 := F6.s (p := ⟨C + 1 + 1, 1, none⟩) (.inl rfl) (.slice (some ⟨gm2, 0, none⟩) B B)
            replace bS6 : Blk (V1.setCell ⟨C + 1 + 1, 1, none⟩ (.slice (some ⟨gm2, 0, none⟩) B B)) (C + 1 + 1) 58 #[.slice a0 q c0, .slice (some ⟨gm2, 0, none⟩) B B, .slice none 0 0, .slice none 0 0] := bS6.set_ 1 (.slice (some ⟨gm2, 0, none⟩) B B)
            replace bR6 := bR6.far (p := ⟨C + 1 + 1, 1, none⟩) (by show C + 1 ≠ C + 1 + 1; omega) (.slice (some ⟨gm2, 0, none⟩) B B)
            replace r0 := r0.imp id (fun h => And.intro h.1 (h.2.far (p := ⟨C + 1 + 1, 1, none⟩) hgS (.slice (some ⟨gm2, 0, none⟩) B B)))
            replace r8 := r8.far (p := ⟨C + 1 + 1, 1, none⟩) (by show gm8 ≠ C + 1 + 1; omega) (.slice (some ⟨gm2, 0, none⟩) B B)
            replace r2 := r2.far (p := ⟨C + 1 + 1, 1, none⟩) (by show gm2 ≠ C + 1 + 1; omega) (.slice (some ⟨gm2, 0, none⟩) B B)
            replace hzb : ZB ≤ (V1.setCell ⟨C + 1 + 1, 1, none⟩ (.slice (some ⟨gm2, 0, none⟩) B B)).heap.size := by simpa [World.setCell] using hzb
            replace hl8 : gm8 < (V1.setCell ⟨C + 1 + 1, 1, none⟩ (.slice (some ⟨gm2, 0, none⟩) B B)).heap.size := by simpa [World.setCell] using hl8
            replace hl2 : gm2 < (V1.setCell ⟨C + 1 + 1, 1, none⟩ (.slice (some ⟨gm2, 0, none⟩) B B)).heap.size := by simpa [World.setCell] using hl2
            generalize V1.setCell ⟨C + 1 + 1, 1, none⟩ (.slice (some ⟨gm2, 0, none⟩) B B) = V3 at *
            refine wpAnyY_oneSW (i := 5) (by kernel_rfl) rfl (by kernel_rfl) (fun K5 hK5 => ?_)
            go_simp
            refine hK5.out _ _ (hS.alloc _) (fun hS => ?_)
            clear hK5
            try simp only [Act.put, zzA, zzB, zzC, zzD, zzE, zzF]
            have r5 := RI.made V3 B
            replace F6 := F6.a (.cells (mkZ B) 3)
            replace bS6 := bS6.alloc (.cells (mkZ B) 3)
            replace bR6 := bR6.alloc (.cells (mkZ B) 3)
            replace r0 := r0.imp id (fun h => And.intro h.1 (h.2.keep ((G.rf V3).a (.cells (mkZ B) 3))))
            replace r8 := r8.keep ((G.rf V3).a (.cells (mkZ B) 3))
            replace r2 := r2.keep ((G.rf V3).a (.cells (mkZ B) 3))
            have hx5 : ZB ≤ V3.heap.size := hzb
            have hb5 := Nat.le_trans hsz6 hzb
            replace hzb : ZB ≤ (V3.alloc (.cells (mkZ B) 3)).heap.size := Nat.le_trans hzb (by simp)
            have hl5 : V3.heap.size < (V3.alloc (.cells (mkZ B) 3)).heap.size := by simp
            obtain ⟨gm5, hg5⟩ : ∃ g, g = V3.heap.size := ⟨_, rfl⟩
            rw [← hg5] at r5 hx5 hb5 hl5 ⊢
            have hn8_5 : gm8 ≠ gm5 := by omega
            replace hl8 : gm8 < (V3.alloc (.cells (mkZ B) 3)).heap.size := by simp <;> omega
            have hn2_5 : gm2 ≠ gm5 := by omega
            replace hl2 : gm2 < (V3.alloc (.cells (mkZ B) 3)).heap.size := by simp <;> omega
            clear hg5
            generalize V3.alloc (.cells (mkZ B) 3) = V4 at *
            refine wpAnyY_take (i := 11) (v := ?_) rfl (by kernel_rfl) (by kernel_rfl) (by kernel_rfl) (by kernel_rfl) (fun _ _ _ h => h) (Or.inl ⟨by kernel_rfl, ?_⟩) hS ?_
            rotate_left
            · intro w' hSw; go_simp; with_reducible rfl
            try simp only [Act.put, zzA, zzB, zzC, zzD, zzE, zzF]
            have z2 := bS6.frozen 2
            have y2 := bS6.cell 2
            have lS := bS6.lt
            refine wpAnyY_oneSW (i := 12) (by kernel_rfl) rfl (by kernel_rfl) (fun K12 hK12 => ?_)
            go_simp
            refine hK12.out _ _ (hS.far (p := ⟨C + 1 + 1, 2, none⟩) (by show C ≠ C + 1 + 1; omega) _) (fun hS => ?_)
            clear hK12 z2 y2 lS
            try simp only [Act.put, zzA, zzB, zzC, zzD, zzE, zzF]
            replace F6 := F6.s (p := ⟨C + 1 + 1, 2, none⟩) (.inl rfl) (.slice (some ⟨gm5, 0, none⟩) B B)
            replace bS6 : Blk (V4.setCell ⟨C + 1 + 1, 2, none⟩ (.slice (some ⟨gm5, 0, none⟩) B B)) (C + 1 + 1) 58 #[.slice a0 q c0, .slice (some ⟨gm2, 0, none⟩) B B, .slice (some ⟨gm5, 0, none⟩) B B, .slice none 0 0] := bS6.set_ 2 (.slice (some ⟨gm5, 0, none⟩) B B)
            replace bR6 := bR6.far (p := ⟨C + 1 + 1, 2, none⟩) (by show C + 1 ≠ C + 1 + 1; omega) (.slice (some ⟨gm5, 0, none⟩) B B)
            replace r0 := r0.imp id (fun h => And.intro h.1 (h.2.far (p := ⟨C + 1 + 1, 2, none⟩) hgS (.slice (some ⟨gm5, 0, none⟩) B B)))
            replace r8 := r8.far (p := ⟨C + 1 + 1, 2, none⟩) (by show gm8 ≠ C + 1 + 1; omega) (.slice (some ⟨gm5, 0, none⟩) B B)
            replace r2 := r2.far (p := ⟨C + 1 + 1, 2, none⟩) (by show gm2 ≠ C + 1 + 1; omega) (.slice (some ⟨gm5, 0, none⟩) B B)
            replace r5 := r5.far (p := ⟨C + 1 + 1, 2, none⟩) (by show gm5 ≠ C + 1 + 1; omega) (.slice (some ⟨gm5, 0, none⟩) B B)
            replace hzb : ZB ≤ (V4.setCell ⟨C + 1 + 1, 2, none⟩ (.slice (some ⟨gm5, 0, none⟩) B B)).heap.size := by simpa [World.setCell] using hzb
            replace hl8 : gm8 < (V4.setCell ⟨C + 1 + 1, 2, none⟩ (.slice (some ⟨gm5, 0, none⟩) B B)).heap.size := by simpa [World.setCell] using hl8
            replace hl2 : gm2 < (V4.setCell ⟨C + 1 + 1, 2, none⟩ (.slice (some ⟨gm5, 0, none⟩) B B)).heap.size := by simpa [World.setCell] using hl2
            replace hl5 : gm5 < (V4.setCell ⟨C + 1 + 1, 2, none⟩ (.slice (some ⟨gm5, 0, none⟩) B B)).heap.size := by simpa [World.setCell] using hl5
            generalize V4.setCell ⟨C + 1 + 1, 2, none⟩ (.slice (some ⟨gm5, 0, none⟩) B B) = V6 at *
            refine wpAnyY_take (i := 13) (v := ?_) rfl (by kernel_rfl) (by kernel_rfl) (by kernel_rfl) (by kernel_rfl) (fun _ _ _ h => h) (Or.inl ⟨by kernel_rfl, ?_⟩) hS ?_
            rotate_left
            · intro w' hSw; go_simp; with_reducible rfl
            try simp only [Act.put, zzA, zzB, zzC, zzD, zzE, zzF]
            have z3 := bS6.frozen 3
            have y3 := bS6.cell 3
            have lS := bS6.lt
            refine wpAnyY_oneSW (i := 14) (by kernel_rfl) rfl (by kernel_rfl) (fun K14 hK14 => ?_)
            go_simp
            refine hK14.out _ _ (hS.far (p := ⟨C + 1 + 1, 3, none⟩) (by show C ≠ C + 1 + 1; omega) _) (fun hS => ?_)
            clear hK14 z3 y3 lS
            try simp only [Act.put, zzA, zzB, zzC, zzD, zzE, zzF]
            replace F6 := F6.s (p := ⟨C + 1 + 1, 3, none⟩) (.inl rfl) (.slice (some ⟨gm8, 0, none⟩) B B)
            replace bS6 : Blk (V6.setCell ⟨C + 1 + 1, 3, none⟩ (.slice (some ⟨gm8, 0, none⟩) B B)) (C + 1 + 1) 58 #[.slice a0 q c0, .slice (some ⟨gm2, 0, none⟩) B B, .slice (some ⟨gm5, 0, none⟩) B B, .slice (some ⟨gm8, 0, none⟩) B B] := bS6.set_ 3 (.slice (some ⟨gm8, 0, none⟩) B B)
            replace bR6 := bR6.far (p := ⟨C + 1 + 1, 3, none⟩) (by show C + 1 ≠ C + 1 + 1; omega) (.slice (some ⟨gm8, 0, none⟩) B B)
            replace r0 := r0.imp id (fun h => And.intro h.1 (h.2.far (p := ⟨C + 1 + 1, 3, none⟩) hgS (.slice (some ⟨gm8, 0, none⟩) B B)))
            replace r8 := r8.far (p := ⟨C + 1 + 1, 3, none⟩) (by show gm8 ≠ C + 1 + 1; omega) (.slice (some ⟨gm8, 0, none⟩) B B)
            replace r2 := r2.far (p := ⟨C + 1 + 1, 3, none⟩) (by show gm2 ≠ C + 1 + 1; omega) (.slice (some ⟨gm8, 0, none⟩) B B)
            replace r5 := r5.far (p := ⟨C + 1 + 1, 3, none⟩) (by show gm5 ≠ C + 1 + 1; omega) (.slice (some ⟨gm8, 0, none⟩) B B)
            replace hzb : ZB ≤ (V6.setCell ⟨C + 1 + 1, 3, none⟩ (.slice (some ⟨gm8, 0, none⟩) B B)).heap.size := by simpa [World.setCell] using hzb
            replace hl8 : gm8 < (V6.setCell ⟨C + 1 + 1, 3, none⟩ (.slice (some ⟨gm8, 0, none⟩) B B)).heap.size := by simpa [World.setCell] using hl8
            replace hl2 : gm2 < (V6.setCell ⟨C + 1 + 1, 3, none⟩ (.slice (some ⟨gm8, 0, none⟩) B B)).heap.size := by simpa [World.setCell] using hl2
            replace hl5 : gm5 < (V6.setCell ⟨C + 1 + 1, 3, none⟩ (.slice (some ⟨gm8, 0, none⟩) B B)).heap.size := by simpa [World.setCell] using hl5
            generalize V6.setCell ⟨C + 1 + 1, 3, none⟩ (.slice (some ⟨gm8, 0, none⟩) B B) = V8 at *
            refine wpAnyY_done (by kernel_rfl) ?_ _
            clear hS
            have hn01 : q = 0 ∨ (gw ≠ gm2 ∧ gw ≠ gm5 ∧ gw ≠ gm8) := by omega
            have hf := beg_fin HC.out g0 F6 bR6 r0 r2 r5 r8 hC3 hgw hb2 hb5 hb8 (by omega) (by omega) (by omega) hn01 (.slice a0 q c0) (.slice (some ⟨gm2, 0, none⟩) B B) (.slice (some ⟨gm5, 0, none⟩) B B) (.slice (some ⟨gm8, 0, none⟩) B B)
            have HFN := Lib.hid hf
            have s0 := bS6.cell 0
            have s1 := bS6.cell 1
            have s2 := bS6.cell 2
            have s3 := bS6.cell 3
            have lS := bS6.lt
            have y0 := bR6.cell 0
            have y1 := bR6.cell 1
            have y2 := bR6.cell 2
            have y3 := bR6.cell 3
            have z0 := bR6.frozen 0
            have z1 := bR6.frozen 1
            have z2 := bR6.frozen 2
            have z3 := bR6.frozen 3
            have lR := bR6.lt
            have HZ := Lib.hid (HPP.out _ a0 gw gm2 gm5 gm8 c0 hf.2.1 (by have := HC.out; omega) (by have := HC.out; omega) (by have := HC.out; omega) (by have := HC.out; omega) hf.2.2)
            clear hf HPP F6 bS6 r0 r2 r5 r8 hn01
            go_wp2_with fail
            exact bodyPost_ret (resSt Tryz.f51 2 _ _ (C + 1) _ _ _ _ _ _ _ _ _ _ _ _ rfl rfl (HFN.out.1.cell 0) (HFN.out.1.cell 1) (HFN.out.1.cell 2) (HFN.out.1.cell 3)) rfl HZ.out
        · go_simp
          refine hK5.out _ _ (hS.alloc _) (fun hS => ?_)
          clear hK5
          try simp only [Act.put, zzA, zzB, zzC, zzD, zzE, zzF]
          have r5 := RI.made V0 B
          replace F6 := F6.a (.cells (mkZ B) 3)
          replace bS6 := bS6.alloc (.cells (mkZ B) 3)
          replace bR6 := bR6.alloc (.cells (mkZ B) 3)
          replace r0 := r0.imp id (fun h => And.intro h.1 (h.2.keep ((G.rf V0).a (.cells (mkZ B) 3))))
          replace r8 := r8.keep ((G.rf V0).a (.cells (mkZ B) 3))
          have hx5 : ZB ≤ V0.heap.size := hzb
          have hb5 := Nat.le_trans hsz6 hzb
          replace hzb : ZB ≤ (V0.alloc (.cells (mkZ B) 3)).heap.size := Nat.le_trans hzb (by simp)
          have hl5 : V0.heap.size < (V0.alloc (.cells (mkZ B) 3)).heap.size := by simp
          obtain ⟨gm5, hg5⟩ : ∃ g, g = V0.heap.size := ⟨_, rfl⟩
          rw [← hg5] at r5 hx5 hb5 hl5 ⊢
          have hn8_5 : gm8 ≠ gm5 := by omega
          replace hl8 : gm8 < (V0.alloc (.cells (mkZ B) 3)).heap.size := by simp <;> omega
          clear hg5
          generalize V0.alloc (.cells (mkZ B) 3) = V1 at *
          refine wpAnyY_oneSW (i := 2) (by kernel_rfl) rfl (by kernel_rfl) (fun K2 hK2 => ?_)
          go_simp
          refine hK2.out _ _ (hS.alloc _) (fun hS => ?_)
          clear hK2
          try simp only [Act.put, zzA, zzB, zzC, zzD, zzE, zzF]
          have r2 := RI.made V1 B
          replace F6 := F6.a (.cells (mkZ B) 3)
          replace bS6 := bS6.alloc (.cells (mkZ B) 3)
          replace bR6 := bR6.alloc (.cells (mkZ B) 3)
          replace r0 := r0.imp id (fun h => And.intro h.1 (h.2.keep ((G.rf V1).a (.cells (mkZ B) 3))))
          replace r8 := r8.keep ((G.rf V1).a (.cells (mkZ B) 3))
          replace r5 := r5.keep ((G.rf V1).a (.cells (mkZ B) 3))
          have hx2 : ZB ≤ V1.heap.size := hzb
          have hb2 := Nat.le_trans hsz6 hzb
          replace hzb : ZB ≤ (V1.alloc (.cells (mkZ B) 3)).heap.size := Nat.le_trans hzb (by simp)
          have hl2 : V1.heap.size < (V1.alloc (.cells (mkZ B) 3)).heap.size := by simp
          obtain ⟨gm2, hg2⟩ : ∃ g, g = V1.heap.size := ⟨_, rfl⟩
          rw [← hg2] at r2 hx2 hb2 hl2 ⊢
          have hn8_2 : gm8 ≠ gm2 := by omega
          replace hl8 : gm8 < (V1.alloc (.cells (mkZ B) 3)).heap.size := by simp <;> omega
          have hn5_2 : gm5 ≠ gm2 := by omega
          replace hl5 : gm5 < (V1.alloc (.cells (mkZ B) 3)).heap.size := by simp <;> omega
          clear hg2
          generalize V1.alloc (.cells (mkZ B) 3) = V2 at *
          refine wpAnyY_take (i := 9) (v := ?_) rfl (by kernel_rfl) (by kernel_rfl) (by kernel_rfl) (by kernel_rfl) (fun _ _ _ h => h) (Or.inl ⟨by kernel_rfl, ?_⟩) hS ?_
          rotate_left
          · intro w' hSw; go_simp; with_reducible rfl
          try simp only [Act.put, zzA, zzB, zzC, zzD, zzE, zzF]
          have z1 := bS6.frozen 1
          have y1 := bS6.cell 1
          have lS := bS6.lt
          refine wpAnyY_oneSW (i := 10) (by kernel_rfl) rfl (by kernel_rfl) (fun K10 hK10 => ?_)
          go_simp
          refine hK10.out _ _ (hS.far (p := ⟨C + 1 + 1, 1, none⟩) (by show C ≠ C + 1 + 1; omega) _) (fun hS => ?_)
          clear hK10 z1 y1 lS
          try simp only [Act.put, zzA, zzB, zzC, zzD, zzE, zzF]
          replace F6 := F6.s (p := ⟨C + 1 + 1, 1, none⟩) (.inl rfl) (.slice (some ⟨gm2, 0, none⟩) B B)
          replace bS6 : Blk (V2.setCell ⟨C + 1 + 1, 1, none⟩ (.slice (some ⟨gm2, 0, none⟩) B B)) (C + 1 + 1) 58 #[.slice a0 q c0, .slice (some ⟨gm2, 0, none⟩) B B, .slice none 0 0, .slice none 0 0] := bS6.set_ 1 (.slice (some ⟨gm2, 0, none⟩) B B)
          replace bR6 := bR6.far (p := ⟨C + 1 + 1, 1, none⟩) (by show C + 1 ≠ C + 1 + 1; omega) (.slice (some ⟨gm2, 0, none⟩) B B)
          replace r0 := r0.imp id (fun h => And.intro h.1 (h.2.far (p := ⟨C + 1 + 1, 1, none⟩) hgS (.slice (some ⟨gm2, 0, none⟩) B B)))
          replace r8 := r8.far (p := ⟨C + 1 + 1, 1, none⟩) (by show gm8 ≠ C + 1 + 1; omega) (.slice (some ⟨gm2, 0, none⟩) B B)
          replace r5 := r5.far (p := ⟨C + 1 + 1, 1, none⟩) (by show gm5 ≠ C + 1 + 1; omega) (.slice (some ⟨gm2, 0, none⟩) B B)
          replace r2 := r2.far (p := ⟨C + 1 + 1, 1, none⟩) (by show gm2 ≠ C + 1 + 1; omega) (.slice (some ⟨gm2, 0, none⟩) B B)
          replace hzb : ZB ≤ (V2.setCell ⟨C + 1 + 1, 1, none⟩ (.slice (some ⟨gm2, 0, none⟩) B B)).heap.size := by simpa [World.setCell] using hzb
          replace hl8 : gm8 < (V2.setCell ⟨C + 1 + 1, 1, none⟩ (.slice (some ⟨gm2, 0, none⟩) B B)).heap.size := by simpa [World.setCell] using hl8
          replace hl5 : gm5 < (V2.setCell ⟨C + 1 + 1, 1, none⟩ (.slice (some ⟨gm2, 0, none⟩) B B)).heap.size := by simpa [World.setCell] using hl5
          replace hl2 : gm2 < (V2.setCell ⟨C + 1 + 1, 1, none⟩ (.slice (some ⟨gm2, 0, none⟩) B B)).heap.size := by simpa [World.setCell] using hl2
          generalize V2.setCell ⟨C + 1 + 1, 1, none⟩ (.slice (some ⟨gm2, 0, none⟩) B B) = V4 at *
          refine wpAnyY_take (i := 11) (v := ?_) rfl (by kernel_rfl) (by kernel_rfl) (by kernel_rfl) (by kernel_rfl) (fun _ _ _ h => h) (Or.inl ⟨by kernel_rfl, ?_⟩) hS ?_
          rotate_left
          · intro w' hSw; go_simp; with_reducible rfl
          try simp only [Act.put, zzA, zzB, zzC, zzD, zzE, zzF]
          have z2 := bS6.frozen 2
          have y2 := bS6.cell 2
          have lS := bS6.lt
          refine wpAnyY_oneSW (i := 12) (by kernel_rfl) rfl (by kernel_rfl) (fun K12 hK12 => ?_)
          go_simp
          refine hK12.out _ _ (hS.far (p := ⟨C + 1 + 1, 2, none⟩) (by show C ≠ C + 1 + 1; omega) _) (fun hS => ?_)
          clear hK12 z2 y2 lS
          try simp only [Act.put, zzA, zzB, zzC, zzD, zzE, zzF]
          replace F6 := F6.s (p := ⟨C + 1 + 1, 2, none⟩) (.inl rfl) (.slice (some ⟨gm5, 0, none⟩) B B)
          replace bS6 : Blk (V4.setCell ⟨C + 1 + 1, 2, none⟩ (.slice (some ⟨gm5, 0, none⟩) B B)) (C + 1 + 1) 58 #[.slice a0 q c0, .slice (some ⟨gm2, 0, none⟩) B B, .slice (some ⟨gm5, 0, none⟩) B B, .slice none 0 0] := bS6.set_ 2 (.slice (some ⟨gm5, 0, none⟩) B B)
          replace bR6 := bR6.far (p := ⟨C + 1 + 1, 2, none⟩) (by show C + 1 ≠ C + 1 + 1; omega) (.slice (some ⟨gm5, 0, none⟩) B B)
          replace r0 := r0.imp id (fun h => And.intro h.1 (h.2.far (p := ⟨C + 1 + 1, 2, none⟩) hgS (.slice (some ⟨gm5, 0, none⟩) B B)))
          replace r8 := r8.far (p := ⟨C + 1 + 1, 2, none⟩) (by show gm8 ≠ C + 1 + 1; omega) (.slice (some ⟨gm5, 0, none⟩) B B)
          replace r5 := r5.far (p := ⟨C + 1 + 1, 2, none⟩) (by show gm5 ≠ C + 1 + 1; omega) (.slice (some ⟨gm5, 0, none⟩) B B)
          replace r2 := r2.far (p := ⟨C + 1 + 1, 2, none⟩) (by show gm2 ≠ C + 1 + 1; omega) (.slice (some ⟨gm5, 0, none⟩) B B)
          replace hzb : ZB ≤ (V4.setCell ⟨C + 1 + 1, 2, none⟩ (.slice (some ⟨gm5, 0, none⟩) B B)).heap.size := by simpa [World.setCell] using hzb
          replace hl8 : gm8 < (V4.setCell ⟨C + 1 + 1, 2, none⟩ (.slice (some ⟨gm5, 0, none⟩) B B)).heap.size := by simpa [World.setCell] using hl8
          replace hl5 : gm5 < (V4.setCell ⟨C + 1 + 1, 2, none⟩ (.slice (some ⟨gm5, 0, none⟩) B B)).heap.size := by simpa [World.setCell] using hl5
          replace hl2 : gm2 < (V4.setCell ⟨C + 1 + 1, 2, none⟩ (.slice (some ⟨gm5, 0, none⟩) B B)).heap.size := by simpa [World.setCell] using hl2
          generalize V4.setCell ⟨C + 1 + 1, 2, none⟩ (.slice (some ⟨gm5, 0, none⟩) B B) = V6 at *
          refine wpAnyY_take (i := 13) (v := ?_) rfl (by kernel_rfl) (by kernel_rfl) (by kernel_rfl) (by kernel_rfl) (fun _ _ _ h => h) (Or.inl ⟨by kernel_rfl, ?_⟩) hS ?_
          rotate_left
          · intro w' hSw; go_simp; with_reducible rfl
          try simp only [Act.put, zzA, zzB, zzC, zzD, zzE, zzF]
          have z3 := bS6.frozen 3
          have y3 := bS6.cell 3
          have lS := bS6.lt
          refine wpAnyY_oneSW (i := 14) (by kernel_rfl) rfl (by kernel_rfl) (fun K14 hK14 => ?_)
          go_simp
          refine hK14.out _ _ (hS.far (p := ⟨C + 1 + 1, 3, none⟩) (by show C ≠ C + 1 + 1; omega) _) (fun hS => ?_)
          clear hK14 z3 y3 lS
          try simp only [Act.put, zzA, zzB, zzC, zzD, zzE, zzF]
          replace F6 := F6.s (p := ⟨C + 1 + 1, 3, none⟩) (.inl rfl) (.slice (some ⟨gm8, 0, none⟩) B B)
          replace bS6 : Blk (V6.setCell ⟨C + 1 + 1, 3, none⟩ (.slice (some ⟨gm8, 0, none⟩) B B)) (C + 1 + 1) 58 #[.slice a0 q c0, .slice (some ⟨gm2, 0, none⟩) B B, .slice (some ⟨gm5, 0, none⟩) B B, .slice (some ⟨gm8, 0, none⟩) B B] := bS6.set_ 3 (.slice (some ⟨gm8, 0, none⟩) B B)
          replace bR6 := bR6.far (p := ⟨C + 1 + 1, 3, none⟩) (by show C + 1 ≠ C + 1 + 1; omega) (.slice (some ⟨gm8, 0, none⟩) B B)
          replace r0 := r0.imp id (fun h => And.intro h.1 (h.2.far (p := ⟨C + 1 + 1, 3, none⟩) hgS (.slice (some ⟨gm8, 0, none⟩) B B)))
          replace r8 := r8.far (p := ⟨C + 1 + 1, 3, none⟩) (by show gm8 ≠ C + 1 + 1; omega) (.slice (some ⟨gm8, 0, none⟩) B B)
          replace r5 := r5.far (p := ⟨C + 1 + 1, 3, none⟩) (by show gm5 ≠ C + 1 + 1; omega) (.slice (some ⟨gm8, 0, none⟩) B B)
          replace r2 := r2.far (p := ⟨C + 1 + 1, 3, none⟩) (by show gm2 ≠ C + 1 + 1; omega) (.slice (some ⟨gm8, 0, none⟩) B B)
          replace hzb : ZB ≤ (V6.setCell ⟨C + 1 + 1, 3, none⟩ (.slice (some ⟨gm8, 0, none⟩) B B)).heap.size := by simpa [World.setCell] using hzb
          replace hl8 : gm8 < (V6.setCell ⟨C + 1 + 1, 3, none⟩ (.slice (some ⟨gm8, 0, none⟩) B B)).heap.size := by simpa [World.setCell] using hl8
          replace hl5 : gm5 < (V6.setCell ⟨C + 1 + 1, 3, none⟩ (.slice (some ⟨gm8, 0, none⟩) B B)).heap.size := by simpa [World.setCell] using hl5
          replace hl2 : gm2 < (V6.setCell ⟨C + 1 + 1, 3, none⟩ (.slice (some ⟨gm8, 0, none⟩) B B)).heap.size := by simpa [World.setCell] using hl2
          generalize V6.setCell ⟨C + 1 + 1, 3, none⟩ (.slice (some ⟨gm8, 0, none⟩) B B) = V8 at *
          refine wpAnyY_done (by kernel_rfl) ?_ _
          clear hS
          have hn01 : q = 0 ∨ (gw ≠ gm2 ∧ gw ≠ gm5 ∧ gw ≠ gm8) := by omega
          have hf := beg_fin HC.out g0 F6 bR6 r0 r2 r5 r8 hC3 hgw hb2 hb5 hb8 (by omega) (by omega) (by omega) hn01 (.slice a0 q c0) (.slice (some ⟨gm2, 0, none⟩) B B) (.slice (some ⟨gm5, 0, none⟩) B B) (.slice (some ⟨gm8, 0, none⟩) B B)
          have HFN := Lib.hid hf
          have s0 := bS6.cell 0
          have s1 := bS6.cell 1
          have s2 := bS6.cell 2
          have s3 := bS6.cell 3
          have lS := bS6.lt
          have y0 := bR6.cell 0
          have y1 := bR6.cell 1
          have y2 := bR6.cell 2
          have y3 := bR6.cell 3
          have z0 := bR6.frozen 0
          have z1 := bR6.frozen 1
          have z2 := bR6.frozen 2
          have z3 := bR6.frozen 3
          have lR := bR6.lt
          have HZ := Lib.hid (HPP.out _ a0 gw gm2 gm5 gm8 c0 hf.2.1 (by have := HC.out; omega) (by have := HC.out; omega) (by have := HC.out; omega) (by have := HC.out; omega) hf.2.2)
          clear hf HPP F6 bS6 r0 r2 r5 r8 hn01
          go_wp2_with fail
          exact bodyPost_ret (resSt Tryz.f51 2 _ _ (C + 1) _ _ _ _ _ _ _ _ _ _ _ _ rfl rfl (HFN.out.1.cell 0) (HFN.out.1.cell 1) (HFN.out.1.cell 2) (HFN.out.1.cell 3)) rfl HZ.out
end Go.Proofs.YtabnpimidhlbiaaGreat

set_option linter.unusedSimpArgs false
set_option linter.unusedVariables false
namespace Go.Proofs.YtabnpimidhlbiaaGreat
open Go.RowKit Go.Shelf Go.Sort
attribute [local go_sem] Oper.semAt_some
theorem hrd_msA (l : List Ac) : hrd l = cpt (msA l) := rfl
/-- counted: the acts in their order, each once -/
theorem counted_any (l : List Ac) (a : Option Addr) (cap : Nat) (w : World) (hu : OneId l) (hl : l.length ≤ 1000) (hr : RowE Ac.v 8 w a l) :
    Calls Tryz.prog 64 #[.slice a l.length cap] w fun e w' => ∃ v, e = .returned v ∧ w'.ownsRow w.heap.size 54 8 v (hrd l).length (acV (hrd l)) ∧ G w w' := by
  have g0 : G w (w.alloc (.cells #[.slice a l.length cap] 22)) := (G.rf _).a _
  have b0 : Blk (w.alloc (.cells #[.slice a l.length cap] 22)) w.heap.size 22 #[.slice a l.length cap] := Blk.new _ _ _
  have HV := Lib.hid (values_any (.slice a l.length cap) w a l.length cap rfl)
  have HS : Hid (Calls Tryz.prog 92 #[.func (.func 106) #[] #[.pointer (some ⟨w.heap.size, 0, none⟩)], .func (.func 94) #[] #[]] (w.alloc (.cells #[.slice a l.length cap] 22)) fun e w' => ∃ v, e = .returned v ∧ w'.ownsRow w.heap.size 54 8 v l.length (acV (msA l)) ∧ G w w') := by
    have hz : ∃ (g off : Nat), (0 < l.length → a = some ⟨g, off, none⟩) ∧ g < (w.alloc (.cells #[.slice a l.length cap] 22)).heap.size ∧ AcsIn (w.alloc (.cells #[.slice a l.length cap] 22)) g off l := by
      rcases hr.below g0 with h0 | ⟨g, off, rfl, hg, hc⟩
      · exact ⟨w.heap.size, 0, fun h => by omega, b0.lt, fun i hi => by omega⟩
      · exact ⟨g, off, fun _ => rfl, hg, hc⟩
    obtain ⟨g, off, h1, h2, h3⟩ := hz
    exact (sortedFunc_any w.heap.size g off cap a l hu hl h1 _ b0 h2 h3).mono fun e w' ⟨v, he, ho, hG⟩ => ⟨v, he, own_weaken ho g0.size, g0.t hG⟩
  have HK := Lib.hid (fun (v : Value) (W : World) (hG : G w W) (ho : W.ownsRow w.heap.size 54 8 v l.length (acV (msA l))) => compact_any (msA l) w.heap.size v w W (Nat.le_refl _) hG (by rw [msA_len]; exact ho) (by rw [msA_len]; exact hl))
  clear hu hr b0
  go_enter Tryz.func64, Tryz.ntmps64
  go_wp2_with (first | (go_at_call 93; refine HV.out.mono ?_; rintro e w1 ⟨rfl, rfl⟩) | (go_at_call 92; refine HS.out.mono ?_; rintro e w2 ⟨v, rfl, ho, hG⟩) | (go_at_call 91; refine (HK.out _ _ hG ho).mono ?_; rintro e w3 ⟨v3, rfl, ho3, hG3⟩))
  first | exact ⟨v3, rfl, by rw [hrd_msA]; exact ho3, hG3⟩ | (go_ret; exact ⟨v3, rfl, by rw [hrd_msA]; exact ho3, hG3⟩)
end Go.Proofs.YtabnpimidhlbiaaGreat

set_option linter.unusedSimpArgs false
set_option linter.unusedVariables false
namespace Go.Proofs.YtabnpimidhlbiaaGreat
open Go.RowKit Go.Shelf
attribute [local go_sem] Oper.semAt_some
set_option maxRecDepth 100000 in
set_option maxHeartbeats 8000000 in
theorem happen_any (a : Ac) (b J m N : Nat) (x0 x1 x2 x3 : Value) (E : Int) (j : Jn) (P : Nat → Nat) (vp vq : Value) (w : World) (h : JW b w J m N x0 x1 x2 x3 E j P vp vq) (hb : -1000000000000 ≤ a.bk ∧ a.bk ≤ 1000000000000) (hN : N ≤ 1000) (hn : j.ps.length ≤ 1000) (hq : j.past.length ≤ 1000) :
    Calls Tryz.prog 65 #[.pointer (some ⟨J, 0, none⟩), .agg a.v] w (HapPost b w J m (N + 1) x0 x1 x2 x3 E (hap E j a).2 (hap E j a).1 vp) := by
  have HW := Lib.hid (fun (W : World) (hW : G w W) => (h.keep hW).where_ hq a.tm a.bd)
  have HOK := Lib.hid (fun (hh : (hap E j a).2 = true) => JOk.hap h.ok hh)
  have H0 := Lib.hid h
  have HB := Lib.hid hb
  have HSL := Lib.hid (fun (W : World) (hW : G w W) => seal_any a J m N b (sdP j.sd P) x0 x1 x2 x3 vp vq E j.ps.length (ptrs P j.ps.length) W (h.keep hW).bJ (h.keep hW).hq (h.keep hW).hm hb hN hn (h.keep hW).lb)
  have HLK := Lib.hid (fun (i : Nat) (hi : j.sd a.bk = some i) (W : World) (hW : G w W) => look_any (j.ps.getD i default) a J m N (P i) (sdP j.sd P) #[x0, x1, x2, x3, .int .i64 E, vp, vq, .map (some m)] W (h.keep hW).bJ rfl ((h.keep hW).hP i (h.ok.som _ _ hi).1).2 (h.keep hW).hm (by rw [(h.ok.som _ _ hi).2]; exact hb))
  have hlk := fun (W : World) (hW : G w W) (hz : (zeroValue 91).run Tryz.prog W = .ok (.pointer none) W) => (h.keep hW).hm.look a.bk hb hz
  clear hn hq
  have HPP : Hid (∀ w' r, r = (hap E j a).2 → Fr (RJ w J m b) w w' → (r = true → ∃ P' vq', JW b w' J m (N + 1) x0 x1 x2 x3 E (hap E j a).1 P' vp vq') → HapPost b w J m (N + 1) x0 x1 x2 x3 E (hap E j a).2 (hap E j a).1 vp (.returned (.bool r)) w') := fun w' r e h1 h2 => ⟨by rw [e], h1, fun hh => h2 (e.trans hh)⟩
  generalize HapPost b w J m (N + 1) x0 x1 x2 x3 E (hap E j a).2 (hap E j a).1 vp = PP at *
  obtain ⟨SP, hSP⟩ : ∃ SP, SP = sdP j.sd P a.bk := ⟨_, rfl⟩
  obtain ⟨WH, hWH⟩ : ∃ WH, WH = whr j.past a.tm a.bd := ⟨_, rfl⟩
  rw [← hSP] at hlk
  rw [← hWH] at HW
  have HSP := Lib.hid hSP
  have HWH := Lib.hid hWH
  clear hSP hWH
  obtain ⟨AA, hAA⟩ : ∃ AA, AA = a := ⟨_, rfl⟩
  have HAA := Lib.hid hAA
  rw [← hAA] at HPP HOK HSP HWH
  clear hAA
  obtain ⟨yid, ytm, ykd, ybk, ybd, ym1, ym2, ysl⟩ := a
  unfold Ac.v at *
  dsimp only at *
  have g0 : G w (w.alloc (.cells #[.int .i64 yid, .int .i64 ytm, .int .i64 ykd, .int .i64 ybk, .int .i64 ybd, .int .i64 ym1, .int .i64 ym2, .int .i64 ysl] 54)) := (G.rf _).a _
  have bA : Blk (w.alloc (.cells #[.int .i64 yid, .int .i64 ytm, .int .i64 ykd, .int .i64 ybk, .int .i64 ybd, .int .i64 ym1, .int .i64 ym2, .int .i64 ysl] 54)) w.heap.size 54 #[.int .i64 yid, .int .i64 ytm, .int .i64 ykd, .int .i64 ybk, .int .i64 ybd, .int .i64 ym1, .int .i64 ym2, .int .i64 ysl] := Blk.new _ _ _
  have bJ := h.bJ.keep g0
  clear h hb
  obtain ⟨A, hA⟩ : ∃ A, A = w.heap.size := ⟨_, rfl⟩
  rw [← hA] at bA
  have HA := Lib.hid hA
  clear hA
  go_enter Tryz.func65, Tryz.ntmps65
  go_upto_region 1 with fail
  change Code.wp _ _ _ _ (w.alloc (.cells #[.int .i64 yid, .int .i64 ytm, .int .i64 ykd, .int .i64 ybk, .int .i64 ybd, .int .i64 ym1, .int .i64 ym2, .int .i64 ysl] 54))
  rw [← HA.out]
  generalize w.alloc (.cells #[.int .i64 yid, .int .i64 ytm, .int .i64 ykd, .int .i64 ybk, .int .i64 ybd, .int .i64 ym1, .int .i64 ym2, .int .i64 ysl] 54) = W1 at *
  have j7 := bJ.gw 7 rfl
  have n3 := bA.gw 3 rfl
  have lJ := bJ.lt
  have lA := bA.lt
  have HL : ∀ x : GW W1, (Instr.lookup 77 (.map (some m)) (.int .i64 ybk) true).run Tryz.prog x.w = .ok (.tuple #[ptV? SP, .bool SP.isSome]) x.w := fun x => hlk x.w (g0.t x.g) (by go_simp)
  clear hlk
  cases hS : SP with
  | none =>
    rw [hS] at HL
    unfold ptV? at HL
    dsimp only [Option.isSome] at HL
    have HS := Lib.hid hS
    clear hS
    refine wp_region_quiet_G (by kernel_rfl) (by kernel_rfl) ?_
    iterate 12 (quiet_step (fail))
    refine wpQuiet_nil ?_
    intro _ hw'
    obtain ⟨y, rfl⟩ := hw'
    clear j7 n3 HL lJ lA
    have bA2 := bA.keep y.g
    have g2 := g0.t y.g
    clear bA bJ g0
    generalize y.w = W2 at *
    have n1 := bA2.cell 1
    have n2 := bA2.cell 2
    have n3 := bA2.cell 3
    have n4 := bA2.cell 4
    have lA := bA2.lt
    have n0 := bA2.cell 0
    have n5 := bA2.cell 5
    have n6 := bA2.cell 6
    have n7 := bA2.cell 7
    have HD : j.sd AA.bk = none := by
      have e := HS.out ▸ HSP.out
      unfold sdP at e
      cases hx : j.sd AA.bk with
      | none => rfl
      | some i => rw [hx] at e; cases e
    by_cases k1 : ykd = 1
    · subst k1
      have e1 : hap E j AA = (j, (j.sd AA.bk).isNone && decide (whr j.past AA.tm AA.bd < 0)) := by (unfold hap; rw [if_pos (by rw [HAA.out])])
      have HZ := Lib.hid (fun w' (hg : G w w') => HPP.out w' (decide (WH < 0)) (by rw [e1, HD, HWH.out]; rfl) hg.fr (fun hh => by
        rw [e1]; exact ⟨P, vq, (H0.out.keep hg).mono (Nat.le_succ _)⟩))
      clear HPP HSL HLK HD e1
      go_wp2_with (go_at_call 60; refine (HW.out _ g2).mono ?_; rintro e w3 ⟨rfl, hG3⟩)
      first | exact HZ.out _ (g2.t hG3) | (go_ret; exact HZ.out _ (g2.t hG3))
    by_cases k2 : ykd = 2
    · subst k2
      have e1 : hap E j AA = (j, (j.sd AA.bk).isNone && decide (whr j.past AA.tm AA.bd = AA.bk)) := by (unfold hap; rw [if_neg (by rw [HAA.out]; simp), if_pos (by rw [HAA.out])])
      have HZ := Lib.hid (fun w' (hg : G w w') => HPP.out w' (WH == ybk) (by rw [e1, HD, ← HWH.out, HAA.out]; rfl) hg.fr (fun hh => by
        rw [e1]; exact ⟨P, vq, (H0.out.keep hg).mono (Nat.le_succ _)⟩))
      clear HPP HSL HLK HD e1
      go_upto_region 6 with fail
      clear n1 n2 n3 n4 lA n0 n5 n6 n7
      have n1 := bA2.gw 1 rfl
      have n3 := bA2.gw 3 rfl
      have n4 := bA2.gw 4 rfl
      have lA := bA2.lt
      refine wp_region_quiet_G (by kernel_rfl) (by kernel_rfl) ?_
      iterate 8 (quiet_step (fail))
      quiet_step (first | (go_at_call 60; exact Calls.gq (HW.out _ (g2.t (GW.g _)))))
      iterate 5 (quiet_step (fail))
      refine wpQuiet_nil ?_
      intro _ hw'
      obtain ⟨y2, rfl⟩ := hw'
      clear n1 n3 n4 lA
      go_wp2_with fail
      first | exact HZ.out _ (g2.t y2.g) | (go_ret; exact HZ.out _ (g2.t y2.g))
    by_cases k3 : ykd = 3
    · subst k3
      have e1 : hap E j AA = ({ j with ps := j.ps ++ [newP E AA], sd := fun b => if b = AA.bk then some j.ps.length else j.sd b }, true) := by
        unfold hap; rw [if_neg (by rw [HAA.out]; simp), if_neg (by rw [HAA.out]; simp), if_pos (by rw [HAA.out]), HD]; rfl
      have HZ := Lib.hid (fun w3 (PK : Nat) (vq' : Value) (h1 : W2.heap.size ≤ PK) (h2 : Blk w3 PK 100 (newP E AA).v) (h3 : Blk w3 J 79 #[x0, x1, x2, x3, .int .i64 E, vp, vq', .map (some m)]) (h4 : w3.ownsRow b 91 1 vq' (j.ps.length + 1) (ptrs P j.ps.length ++ [.pointer (some ⟨PK, 0, none⟩)])) (h5 : SdM w3 m (N + 1) (fun x => if x = AA.bk then some PK else sdP j.sd P x)) (hF : Fr (fun i => i = J ∨ i = m ∨ vq.ownBlock = some i) W2 w3) => HPP.out w3 true (by rw [e1]) ((g2.fr).t2 hF (by
          rintro i _ (hi | hi | hi)
          · exact .inl hi
          · exact .inr (.inl hi)
          · refine .inr (.inr ?_)
            rcases H0.out.hq.2 with ⟨hv, _⟩ | ⟨g', cap, cur, hv, hb', hbk, _⟩
            · rw [hv] at hi; cases hi
            · rw [hv] at hi; cases hi; exact ⟨hb', _, _, hbk, .inr rfl⟩)) (fun _ => by
        rw [e1]
        exact ⟨_, vq', JW.sealed (H0.out.keep g2) h1 h2 h3 h4 h5 hF ⟨by have := (HOK.out (by rw [e1])).som; rw [e1] at this; exact this⟩⟩))
      clear HPP HLK HD e1 HW
      rw [← HAA.out] at HSL
      go_wp2_with (go_at_call 97; refine (HSL.out _ g2).mono ?_; rintro e w3 ⟨v, PK, vq', rfl, h1, h2, h3, h4, h5, hF⟩; have HQ := Lib.hid (HZ.out w3 PK vq' h1 h2 h3 h4 h5 hF); clear h1 h2 h3 h4 h5 hF HZ)
      first | exact HQ.out | (go_ret; exact HQ.out)
    · have e1 : hap E j AA = (j, false) := by (unfold hap; rw [if_neg (by rw [HAA.out]; exact k1), if_neg (by rw [HAA.out]; exact k2), if_neg (by rw [HAA.out]; exact k3), HD])
      have HZ := Lib.hid (fun w' (hg : G w w') => HPP.out w' false (by rw [e1]) hg.fr (fun hh => by cases hh))
      have k1b : (ykd == 1) = false := by simpa using k1
      have k2b : (ykd == 2) = false := by simpa using k2
      have k3b : (ykd == 3) = false := by simpa using k3
      clear HPP HSL HLK HD HW k1 k2 k3 e1
      go_wp2_with fail
      first | exact HZ.out _ g2 | (go_ret; exact HZ.out _ g2)
  | some g =>
    rw [hS] at HL
    unfold ptV? at HL
    dsimp only [Option.isSome] at HL
    have HS := Lib.hid hS
    clear hS
    refine wp_region_quiet_G (by kernel_rfl) (by kernel_rfl) ?_
    iterate 12 (quiet_step (fail))
    refine wpQuiet_nil ?_
    intro _ hw'
    obtain ⟨y, rfl⟩ := hw'
    clear j7 n3 HL lJ lA
    have bA2 := bA.keep y.g
    have g2 := g0.t y.g
    clear bA bJ g0
    generalize y.w = W2 at *
    have n1 := bA2.cell 1
    have n2 := bA2.cell 2
    have n3 := bA2.cell 3
    have n4 := bA2.cell 4
    have lA := bA2.lt
    have n0 := bA2.cell 0
    have n5 := bA2.cell 5
    have n6 := bA2.cell 6
    have n7 := bA2.cell 7
    obtain ⟨ix, HD, hgx⟩ : ∃ i, j.sd AA.bk = some i ∧ g = P i := by
      have e := HS.out ▸ HSP.out
      unfold sdP at e
      cases hx : j.sd AA.bk with
      | none => rw [hx] at e; cases e
      | some i => rw [hx] at e; exact ⟨i, rfl, by injection e⟩
    clear HS HSP
    subst hgx
    by_cases k1 : ykd = 1
    · subst k1
      have e1 : hap E j AA = (j, (j.sd AA.bk).isNone && decide (whr j.past AA.tm AA.bd < 0)) := by (unfold hap; rw [if_pos (by rw [HAA.out])])
      have HZ := Lib.hid (fun w' (hg : G w w') => HPP.out w' false (by rw [e1, HD]; rfl) hg.fr (fun hh => by cases hh))
      clear HPP HSL HLK HD HW e1
      go_wp2_with fail
      first | exact HZ.out _ g2 | (go_ret; exact HZ.out _ g2)
    by_cases k2 : ykd = 2
    · subst k2
      have e1 : hap E j AA = (j, (j.sd AA.bk).isNone && decide (whr j.past AA.tm AA.bd = AA.bk)) := by (unfold hap; rw [if_neg (by rw [HAA.out]; simp), if_pos (by rw [HAA.out])])
      have HZ := Lib.hid (fun w' (hg : G w w') => HPP.out w' false (by rw [e1, HD]; rfl) hg.fr (fun hh => by cases hh))
      clear HPP HSL HLK HD HW e1
      go_upto_region 6 with fail
      clear n1 n2 n3 n4 lA n0 n5 n6 n7
      refine wp_region_Y (S := fun W' => True) 13 14 rfl (by kernel_rfl) trivial (fun hS => ?_)
      have g3 := g2.d
      clear g2 bA2
      generalize W2.drew = WD at *
      refine wpAnyY_take (i := 0) (v := ?_) rfl (by kernel_rfl) (by kernel_rfl) (by kernel_rfl) (by kernel_rfl) (fun _ _ _ h => h) (Or.inl ⟨by kernel_rfl, ?_⟩) hS ?_
      rotate_left
      · intro w' hSw; go_simp; with_reducible rfl
      try simp only [Act.put, zzA, zzB, zzC, zzD, zzE, zzF]
      refine wpAnyY_take (i := 1) (v := ?_) rfl (by kernel_rfl) (by kernel_rfl) (by kernel_rfl) (by kernel_rfl) (fun _ _ _ h => h) (Or.inl ⟨by kernel_rfl, ?_⟩) hS ?_
      rotate_left
      · intro w' hSw; go_simp; with_reducible rfl
      try simp only [Act.put, zzA, zzB, zzC, zzD, zzE, zzF]
      refine wpAnyY_take (i := 2) (v := ?_) rfl (by kernel_rfl) (by kernel_rfl) (by kernel_rfl) (by kernel_rfl) (fun _ _ _ h => h) (Or.inl ⟨by kernel_rfl, ?_⟩) hS ?_
      rotate_left
      · intro w' hSw; go_simp; with_reducible rfl
      try simp only [Act.put, zzA, zzB, zzC, zzD, zzE, zzF]
      refine wpAnyY_take (i := 3) (v := undef) rfl (by kernel_rfl) (by kernel_rfl) (by kernel_rfl) (by kernel_rfl) (fun _ _ _ h => h) (Or.inr ⟨by kernel_rfl, rfl⟩) hS ?_
      try simp only [Act.put, zzA, zzB, zzC, zzD, zzE, zzF]
      refine wpAnyY_take (i := 4) (v := undef) rfl (by kernel_rfl) (by kernel_rfl) (by kernel_rfl) (by kernel_rfl) (fun _ _ _ h => h) (Or.inr ⟨by kernel_rfl, rfl⟩) hS ?_
      try simp only [Act.put, zzA, zzB, zzC, zzD, zzE, zzF]
      refine wpAnyY_take (i := 5) (v := undef) rfl (by kernel_rfl) (by kernel_rfl) (by kernel_rfl) (by kernel_rfl) (fun _ _ _ h => h) (Or.inr ⟨by kernel_rfl, rfl⟩) hS ?_
      try simp only [Act.put, zzA, zzB, zzC, zzD, zzE, zzF]
      refine wpAnyY_take (i := 6) (v := undef) rfl (by kernel_rfl) (by kernel_rfl) (by kernel_rfl) (by kernel_rfl) (fun _ _ _ h => h) (Or.inr ⟨by kernel_rfl, rfl⟩) hS ?_
      try simp only [Act.put, zzA, zzB, zzC, zzD, zzE, zzF]
      refine wpAnyY_take (i := 7) (v := undef) rfl (by kernel_rfl) (by kernel_rfl) (by kernel_rfl) (by kernel_rfl) (fun _ _ _ h => h) (Or.inr ⟨by kernel_rfl, rfl⟩) hS ?_
      try simp only [Act.put, zzA, zzB, zzC, zzD, zzE, zzF]
      refine wpAnyY_take (i := 8) (v := undef) rfl (by kernel_rfl) (by kernel_rfl) (by kernel_rfl) (by kernel_rfl) (fun _ _ _ h => h) (Or.inr ⟨by kernel_rfl, rfl⟩) hS ?_
      try simp only [Act.put, zzA, zzB, zzC, zzD, zzE, zzF]
      refine wpAnyY_take (i := 9) (v := undef) rfl (by kernel_rfl) (by kernel_rfl) (by kernel_rfl) (by kernel_rfl) (fun _ _ _ h => h) (Or.inr ⟨by kernel_rfl, rfl⟩) hS ?_
      try simp only [Act.put, zzA, zzB, zzC, zzD, zzE, zzF]
      refine wpAnyY_take (i := 10) (v := undef) rfl (by kernel_rfl) (by kernel_rfl) (by kernel_rfl) (by kernel_rfl) (fun _ _ _ h => h) (Or.inr ⟨by kernel_rfl, rfl⟩) hS ?_
      try simp only [Act.put, zzA, zzB, zzC, zzD, zzE, zzF]
      refine wpAnyY_take (i := 11) (v := undef) rfl (by kernel_rfl) (by kernel_rfl) (by kernel_rfl) (by kernel_rfl) (fun _ _ _ h => h) (Or.inr ⟨by kernel_rfl, rfl⟩) hS ?_
      try simp only [Act.put, zzA, zzB, zzC, zzD, zzE, zzF]
      refine wpAnyY_take (i := 12) (v := ?_) rfl (by kernel_rfl) (by kernel_rfl) (by kernel_rfl) (by kernel_rfl) (fun _ _ _ h => h) (Or.inl ⟨by kernel_rfl, ?_⟩) hS ?_
      rotate_left
      · intro w' hSw; go_simp; with_reducible rfl
      try simp only [Act.put, zzA, zzB, zzC, zzD, zzE, zzF]
      refine wpAnyY_oneW (i := 13) (by kernel_rfl) rfl (by kernel_rfl) (by kernel_rfl) (fun K13 hK13 => ?_)
      go_simp
      refine hK13.out _ _ ?_
      clear hK13
      try simp only [Act.put, zzA, zzB, zzC, zzD, zzE, zzF]
      refine wpAnyY_done (by kernel_rfl) ?_ _
      go_wp2_with fail
      first | exact HZ.out _ g3 | (go_ret; exact HZ.out _ g3)
    by_cases k3 : ykd = 3
    · subst k3
      have e1 : hap E j AA = (j, false) := by (unfold hap; rw [if_neg (by rw [HAA.out]; simp), if_neg (by rw [HAA.out]; simp), if_pos (by rw [HAA.out]), HD]; rfl)
      have HZ := Lib.hid (fun w' (hg : G w w') => HPP.out w' false (by rw [e1]) hg.fr (fun hh => by cases hh))
      clear HPP HSL HLK HD HW e1
      go_wp2_with fail
      first | exact HZ.out _ g2 | (go_ret; exact HZ.out _ g2)
    · have e1 : hap E j AA = ({ j with ps := j.ps.set ix (lookP (j.ps.getD ix default) AA).1, sd := if AA.kd = 5 then fun b => if b = AA.bk then none else j.sd b else j.sd }, (lookP (j.ps.getD ix default) AA).2) := by
        unfold hap; rw [if_neg (by rw [HAA.out]; exact k1), if_neg (by rw [HAA.out]; exact k2), if_neg (by rw [HAA.out]; exact k3), HD]
      have hbk := (H0.out.ok.som _ _ HD).2
      have HZ := Lib.hid (fun w3 (h2 : Blk w3 (P ix) 100 (lookP (j.ps.getD ix default) AA).1.v) (h3 : SdM w3 m N (lookM AA (j.ps.getD ix default).bk (sdP j.sd P))) (hF : Fr (fun i => i = P ix ∨ i = m) W2 w3) => HPP.out w3 _ (by rw [e1]) ((g2.fr).t2 hF (by
          rintro i _ (hi | hi)
          · exact .inr (.inr (by rw [hi]; exact ⟨(H0.out.hP ix (H0.out.ok.som _ _ HD).1).1, _, _, (H0.out.hP ix (H0.out.ok.som _ _ HD).1).2, .inl rfl⟩))
          · exact .inr (.inl hi))) (fun hh => by
        have hh2 : (hap E j AA).2 = true := by rw [e1]; exact hh
        rw [e1]
        exact ⟨P, vq, (JW.looked (H0.out.keep g2) HD h2 (by rw [hbk] at h3; exact h3) hF (by unfold lookM; rfl) ⟨by have := (HOK.out hh2).som; rw [e1] at this; exact this⟩).mono (Nat.le_succ _)⟩))
      have HLK2 := Lib.hid (HLK.out ix (by rw [HAA.out] at HD; exact HD))
      rw [← HAA.out] at HLK2
      have k1b : (ykd == 1) = false := by simpa using k1
      have k2b : (ykd == 2) = false := by simpa using k2
      have k3b : (ykd == 3) = false := by simpa using k3
      clear HPP HSL HLK HD HW k1 k2 k3 e1 hbk
      generalize (lookP (j.ps.getD ix default) AA).2 = R at *
      generalize (lookP (j.ps.getD ix default) AA).1.v = V at *
      generalize P ix = PX at *
      go_wp2_with (go_at_call 98; refine (HLK2.out _ g2).mono ?_; rintro e w3 ⟨rfl, h2, h3, hF⟩; have HQ := Lib.hid (HZ.out w3 h2 h3 hF); clear h2 h3 hF HZ)
      first | exact HQ.out | (go_ret; exact HQ.out)
end Go.Proofs.YtabnpimidhlbiaaGreat

set_option linter.unusedSimpArgs false
set_option linter.unusedVariables false
namespace Go.Proofs.YtabnpimidhlbiaaGreat
open Go.RowKit Go.Shelf Go.Sort
attribute [local go_sem] Oper.semAt_some
theorem unbroken_any (p : Pe) (PK : Nat) (w : World) (hP : Blk w PK 100 p.v) : Calls Tryz.prog 70 #[.pointer (some ⟨PK, 0, none⟩)] w fun e w' => e = .returned (.bool (!p.br)) ∧ G w w' := by
  obtain ⟨xbk, xsl, xfr, xwh, xen, xbr⟩ := p
  unfold Pe.v at hP
  dsimp only at *
  have m5 := hP.cell 5
  have lP := hP.lt
  go_enter Tryz.func70, Tryz.ntmps70
  go_wp2_with fail
  go_ret
  exact ⟨rfl, G.rf _⟩
/-- is the period of a block not broken? -/
def unB (w : World) (g : Nat) : Bool := match w.cell? ⟨g, 5, none⟩ with | some (.bool b) => !b | _ => false
theorem unB_eq {w : World} {g : Nat} {p : Pe} (h : Blk w g 100 p.v) : unB w g = !p.br := by
  have e : w.cell? ⟨g, 5, none⟩ = some (.bool p.br) := h.cell 5
  unfold unB
  rw [e]
/-- the broken periods -/
def brk (ps : List Pe) : List Pe := ps.filter Pe.br
def brkI (ps : List Pe) : List Nat := (List.range ps.length).filter fun i => (ps.getD i default).br
theorem brkI_lt {ps : List Pe} {i : Nat} (h : i ∈ brkI ps) : i < ps.length := List.mem_range.1 (List.mem_filter.1 h).1
theorem brk_eq (ps : List Pe) : brk ps = (brkI ps).map fun i => ps.getD i default := by
  unfold brk brkI
  have e : ps = (List.range ps.length).map fun i => ps.getD i default := by
    refine List.ext_getElem (by simp) fun i h1 h2 => ?_
    simp [List.getD, h1]
  conv => lhs; rw [e]
  rw [List.filter_map]
  rfl
theorem brk_len (ps : List Pe) : (brk ps).length = (brkI ps).length := by rw [brk_eq]; simp
theorem brkI_len (ps : List Pe) : (brkI ps).length ≤ ps.length := Nat.le_trans (List.length_filter_le _ _) (by simp)
theorem brk_get (ps : List Pe) {k : Nat} (h : k < (brkI ps).length) : (brk ps).getD k default = ps.getD ((brkI ps).getD k 0) default := by
  rw [brk_eq]
  simp [List.getD, h]
def BrkPost (w : World) (ps : List Pe) (e : Ending) (w' : World) : Prop := ∃ ba bc P', e = .returned (.slice ba (brk ps).length bc) ∧ PsAt w' ba (brk ps) P' ∧ G w w'
set_option maxRecDepth 100000 in
set_option maxHeartbeats 4000000 in
theorem broken_any {J : Nat} {past : List Ac} {ps : List Pe} {P : Nat → Nat} {pa : Option Addr} {pc : Nat} {qa : Option Addr} {qc : Nat} (w : World) (h : JAt w J past ps P pa pc qa qc) :
    Calls Tryz.prog 34 #[.pointer (some ⟨J, 0, none⟩)] w (BrkPost w ps) := by
  obtain ⟨L, hL⟩ : ∃ L, L = (List.range ps.length).map P := ⟨_, rfl⟩
  have hLl : L.length = ps.length := by rw [hL]; simp
  have hLg : ∀ i, i < ps.length → L.getD i 0 = P i := fun i hi => by rw [hL]; simp [List.getD, hi]
  have hrow : PtL w qa L := by
    rcases h.rp.row with h0 | ⟨g, off, e1, e2, e3⟩
    · exact .inl (by omega)
    · exact .inr ⟨g, off, e1, e2, fun i hi => by
        show w.cell? _ = some (.pointer (some ⟨L.getD i 0, 0, none⟩))
        rw [hLg i (by omega)]; exact e3 i (by omega)⟩
  have HC := Lib.hid (clone_any L qa qc w hrow (by have := h.np; omega))
  rw [hLl] at HC
  have HD := Lib.hid (fun (v : Value) (W : World) (hG : G w W) (ho : W.ownsRow w.heap.size 91 1 v L.length (ptL L)) => delete_any 70 (enters_of Tryz.func70 (by kernel_rfl) rfl) #[] (unB w) L w.heap.size v w W (Nat.le_refl _) hG ho (by have := h.np; omega) (fun W' hW i hi => by
    rw [hLg i (by omega)]
    have hb := h.rp.blk i (by omega)
    rw [unB_eq hb]
    exact unbroken_any _ _ _ (hb.keep hW)))
  have HP : Hid (∀ v w', w'.ownsRow w.heap.size 91 1 v (L.filter fun x => !unB w x).length (ptL (L.filter fun x => !unB w x)) → G w w' → BrkPost w ps (.returned v) w') := fun v w' ho hG => by
    have e : (L.filter fun x => !unB w x) = (brkI ps).map P := by
      rw [hL, List.filter_map]
      congr 1
      unfold brkI
      refine List.filter_congr fun i hi => ?_
      have hb := h.rp.blk i (List.mem_range.1 hi)
      simp only [Function.comp, unB_eq hb, Bool.not_not]
    rw [e] at ho
    obtain ⟨ba, bc, rfl, hrow⟩ := own_ptl ho
    have e1 : ((brkI ps).map P).length = (brk ps).length := by rw [brk_len]; simp
    refine ⟨ba, bc, fun k => P ((brkI ps).getD k 0), by rw [e1], ⟨?_, fun k hk => ?_⟩, hG⟩
    · rcases hrow with h0 | ⟨g, off, a1, a2, a3⟩
      · exact .inl (by omega)
      · refine .inr ⟨g, off, a1, a2, fun i hi => ?_⟩
        have := a3 i (by omega)
        show w'.cell? _ = _
        rw [this]
        have hi2 : i < (brkI ps).length := by rw [← brk_len]; exact hi
        simp [List.getD, hi2]
    · have hk2 : k < (brkI ps).length := by rw [← brk_len]; exact hk
      rw [brk_get ps hk2]
      have hm : (brkI ps).getD k 0 ∈ brkI ps := by simp [List.getD, hk2]
      exact (h.rp.blk _ (brkI_lt hm)).keep hG
  generalize BrkPost w ps = PP at *
  have c6 := h.c6
  have lJ := h.lt
  clear h hrow hLg
  have HLL := Lib.hid hLl
  clear hLl hL
  generalize (fun x => !unB w x) = FF at *
  go_enter Tryz.func34, Tryz.ntmps34
  go_wp2_with (first | (go_at_call 69; refine HC.out.mono ?_; rintro e w1 ⟨v, rfl, ho, hG⟩) | (go_at_call 68; refine (HD.out v w1 hG ho).mono ?_; rintro e w2 ⟨v2, rfl, ho2, hG2⟩))
  first | exact HP.out _ _ ho2 hG2 | (go_ret; exact HP.out _ _ ho2 hG2)
/-- the birds that could be struck by some periods -/
def struckL (past : List Ac) (ps qs : List Pe) (N : Nat) : List Int := numL (fun b => anyU (fun i => hitB past ps (qs.getD i default) (b : Int)) qs.length) N
theorem hits_any {J : Nat} {past : List Ac} {ps : List Pe} {P : Nat → Nat} {pa : Option Addr} {pc : Nat} {qa : Option Addr} {qc : Nat} (qs : List Pe) (P' : Nat → Nat) (ba : Option Addr) (bc : Nat) (b : Int) (JB QB : Nat) (w : World) (h : JAt w J past ps P pa pc qa qc) (hq : PsAt w ba qs P') (hn : qs.length ≤ 1000) (he : ∀ i, i < qs.length → IntKind.i64.wrap ((qs.getD i default).en - 1) = (qs.getD i default).en - 1)
    (hQB : Blk w QB 75 #[.slice ba qs.length bc]) (hJB : Blk w JB 71 #[.pointer (some ⟨J, 0, none⟩)]) :
    Calls Tryz.prog 66 #[.int .i64 b, .pointer (some ⟨QB, 0, none⟩), .pointer (some ⟨JB, 0, none⟩)] w fun e w' => e = .returned (.bool (anyU (fun i => hitB past ps (qs.getD i default) b) qs.length)) ∧ G w w' := by
  have g0 : G w (w.alloc (.cells #[.int .i64 b] 3)) := (G.rf _).a _
  have bB : Blk (w.alloc (.cells #[.int .i64 b] 3)) w.heap.size 3 #[.int .i64 b] := Blk.new _ _ _
  have HC := Lib.hid (CtPe_any 67 (enters_of Tryz.func67 (by kernel_rfl) rfl) #[.pointer (some ⟨JB, 0, none⟩), .pointer (some ⟨w.heap.size, 0, none⟩)] (w.alloc (.cells #[.int .i64 b] 3)) ba bc qs.length P' (fun i => hitB past ps (qs.getD i default) b) hn ((hq.ptr).below g0) (fun W' hW i hi => hit_any (qs.getD i default) (P' i) JB w.heap.size b W' (h.keep (g0.t hW)) ((hq.blk i hi).keep (g0.t hW)) (he i hi) (hJB.keep (g0.t hW)) (bB.keep hW)))
  have m0 := (hQB.keep g0).cell 0
  have l0 := (hQB.keep g0).lt
  clear hQB hJB h hq he bB
  generalize anyU (fun i => hitB past ps (qs.getD i default) b) qs.length = R at *
  go_enter Tryz.func66, Tryz.ntmps66
  go_wp2_with (go_at_call 54; refine HC.out.mono ?_; rintro e w1 ⟨rfl, hG1⟩)
  go_ret
  exact ⟨rfl, g0.t hG1⟩
theorem struck_any {J : Nat} {past : List Ac} {ps : List Pe} {P : Nat → Nat} {pa : Option Addr} {pc : Nat} {qa : Option Addr} {qc : Nat} (qs : List Pe) (P' : Nat → Nat) (ba : Option Addr) (bc : Nat) (n : Nat) (w : World) (h : JAt w J past ps P pa pc qa qc) (hq : PsAt w ba qs P') (hn : qs.length ≤ 1000) (he : ∀ i, i < qs.length → IntKind.i64.wrap ((qs.getD i default).en - 1) = (qs.getD i default).en - 1)
    (hB : w.cell? ⟨J, 1, none⟩ = some (.int .i64 (n : Nat))) (hnb : n ≤ 1000) :
    Calls Tryz.prog 33 #[.pointer (some ⟨J, 0, none⟩), .slice ba qs.length bc] w (IvPost w (struckL past ps qs n)) := by
  obtain ⟨g0, bJ, bQ⟩ := box2 w #[.pointer (some ⟨J, 0, none⟩)] #[.slice ba qs.length bc] 71 75
  have HN := Lib.hid (numbers_any 66 (enters_of Tryz.func66 (by kernel_rfl) rfl) #[.pointer (some ⟨w.heap.size + 1, 0, none⟩), .pointer (some ⟨w.heap.size, 0, none⟩)] n (fun b => anyU (fun i => hitB past ps (qs.getD i default) (b : Int)) qs.length) ((w.alloc (.cells #[.pointer (some ⟨J, 0, none⟩)] 71)).alloc (.cells #[.slice ba qs.length bc] 75)) (by omega) (fun W' hW i hi => hits_any qs P' ba bc (i : Int) w.heap.size (w.heap.size + 1) W' (h.keep (g0.t hW)) (hq.keep (g0.t hW)) hn he (bQ.keep hW) (bJ.keep hW)))
  have c1 := ((bcellB g0).1 J 1 h.lt).trans hB
  have lJ := Nat.lt_of_lt_of_le h.lt g0.size
  have m0 := bJ.cell 0
  have n0 := bQ.cell 0
  have l0 := bJ.lt
  have l1 := bQ.lt
  have HP : Hid (∀ v w', w'.ownsRow ((w.alloc (.cells #[.pointer (some ⟨J, 0, none⟩)] 71)).alloc (.cells #[.slice ba qs.length bc] 75)).heap.size 3 1 v (struckL past ps qs n).length (iv (struckL past ps qs n)) → G ((w.alloc (.cells #[.pointer (some ⟨J, 0, none⟩)] 71)).alloc (.cells #[.slice ba qs.length bc] 75)) w' → IvPost w (struckL past ps qs n) (.returned v) w') := fun v w' ho hG => ⟨v, rfl, own_weaken ho g0.size, g0.t hG⟩
  generalize IvPost w (struckL past ps qs n) = PP at *
  clear h hq he hB bJ bQ
  unfold IvPost at HN
  have HS : struckL past ps qs n = numL (fun b => anyU (fun i => hitB past ps (qs.getD i default) (b : Int)) qs.length) n := rfl
  rw [← HS] at HN
  clear HS
  go_enter Tryz.func33, Tryz.ntmps33
  go_wp2_with (go_at_call 40; refine HN.out.mono ?_; rintro e w1 ⟨v, rfl, ho, hG1⟩)
  first | exact HP.out _ _ ho hG1 | (go_ret; exact HP.out _ _ ho hG1)
end Go.Proofs.YtabnpimidhlbiaaGreat

set_option linter.unusedSimpArgs false
set_option linter.unusedVariables false
namespace Go.Proofs.YtabnpimidhlbiaaGreat
open Go.RowKit Go.Shelf Go.Sort
attribute [local go_sem] Oper.semAt_some
theorem run_snoc (E : Int) (l : List Ac) (a : Ac) (j : Jn) (h : run E Jn.zero l = some j) : run E Jn.zero (l ++ [a]) = if (hap E j a).2 = true then some (step E j a) else none := by
  rw [run_append, h]
  show run E j [a] = _
  unfold run
  by_cases hh : (hap E j a).2 = true
  · rw [if_pos hh, if_pos hh]
    show some _ = some _
    unfold step
    rw [hap_past]
  · rw [if_neg hh, if_neg hh]
theorem run_none (E : Int) (l m : List Ac) (h : run E Jn.zero l = none) : run E Jn.zero (l ++ m) = none := by rw [run_append, h]; rfl
theorem hap_ps (E : Int) (j : Jn) (a : Ac) : (hap E j a).1.ps.length ≤ j.ps.length + 1 := by
  unfold hap
  split
  · exact Nat.le_succ _
  split
  · exact Nat.le_succ _
  split
  · split
    · simp
    · exact Nat.le_succ _
  split
  · exact Nat.le_succ _
  · simp
/-- the journey of a convoy, if it has no error -/
def folJ (c : Cv) : Option Jn := if vcB c = true ∧ clashB c.acts = false then run c.en Jn.zero (hrd c.acts) else none
def folE (c : Cv) : Int := if vcB c = true then (if (folJ c).isSome = true then 0 else 51) else 50
/-- where a journey lies -/
structure FolAt (c : Cv) (k : Jn) (w : World) (J m : Nat) (P : Nat → Nat) (pa : Option Addr) (pc : Nat) (qa : Option Addr) (qc : Nat) : Prop where
  jt : JAt w J k.past k.ps P pa pc qa qc
  bj : Blk w J 79 #[.int .i64 c.bks, .int .i64 c.bds, .slice c.aa c.acts.length c.ac, .slice c.da c.duties.length c.dc, .int .i64 c.en, .slice pa k.past.length pc, .slice qa k.ps.length qc, .map (some m)]
theorem FolAt.keep {c : Cv} {k : Jn} {w w' : World} {J m : Nat} {P : Nat → Nat} {pa : Option Addr} {pc : Nat} {qa : Option Addr} {qc : Nat} (h : FolAt c k w J m P pa pc qa qc) (hG : G w w') : FolAt c k w' J m P pa pc qa qc := ⟨h.jt.keep hG, h.bj.keep hG⟩
def FolPost (c : Cv) (w : World) (e : Ending) (w' : World) : Prop :=
  G w w' ∧ (folJ c = none → e = .returned (.tuple #[.pointer none, .int .i64 (folE c)])) ∧ ∀ k, folJ c = some k → ∃ J m P pa pc qa qc, e = .returned (.tuple #[.pointer (some ⟨J, 0, none⟩), .int .i64 0]) ∧ FolAt c k w' J m P pa pc qa qc
/-- an act at the end of the past -/
theorem JW.pushed {b : Nat} {W W' : World} {J m N : Nat} {x0 x1 x2 x3 : Value} {E : Int} {j : Jn} {P : Nat → Nat} {vp vq vp' : Value} {a : Ac} (h : JW b W J m N x0 x1 x2 x3 E j P vp vq) (hj : Blk W' J 79 #[x0, x1, x2, x3, .int .i64 E, vp', vq, .map (some m)]) (hp : W'.ownsRow b 54 8 vp' (j.past.length + 1) (acV j.past ++ acE a)) (hF : Fr (fun i => i = J ∨ vp.ownBlock = some i) W W') :
    JW b W' J m N x0 x1 x2 x3 E ⟨j.past ++ [a], j.ps, j.sd⟩ P vp' vq := by
  have hne : ∀ {g t cs}, Blk W g t cs → t ≠ 54 → t ≠ 79 → ¬ (g = J ∨ vp.ownBlock = some g) := fun hb h1 h2 e => by
    rcases e with e | e
    · subst e
      have e3 := (show W.heap[_]? = _ from h.bJ).symm.trans (show W.heap[_]? = _ from hb)
      simp at e3
      exact h2 e3.2.symm
    · exact own_blk_ne h.hp hb h1 e.symm
  refine ⟨hj, ?_, own_Fr h.hq hF fun g hg => ?_, fun i hi => ⟨(h.hP i hi).1, hF.blk (h.hP i hi).2 (hne (h.hP i hi).2 (by decide) (by decide))⟩, h.inj, h.hm.keepF hF ?_, ⟨h.ok.som⟩, h.lJ, h.lm, Nat.le_trans h.lb hF.size⟩
  · show W'.ownsRow b 54 8 vp' (j.past ++ [a]).length (acV (j.past ++ [a]))
    rw [List.length_append, List.length_singleton, acV_snoc]
    exact hp
  · rintro (rfl | e)
    · exact own_blk_ne h.hq h.bJ (by decide) hg.symm
    · rcases own_own h.hq h.hp (by decide) with e2 | e2
      · rw [e2] at hg; cases hg
      · exact e2 (hg.trans e.symm)
  · rintro (e | e)
    · exact h.hm.ne h.bJ e.symm
    · exact own_sdm h.hm h.hp e.symm
theorem JW.fol {b : Nat} {W : World} {J m N : Nat} {c : Cv} {j : Jn} {P : Nat → Nat} {vp vq : Value} (h : JW b W J m N (.int .i64 c.bks) (.int .i64 c.bds) (.slice c.aa c.acts.length c.ac) (.slice c.da c.duties.length c.dc) c.en j P vp vq) (h1 : j.past.length ≤ 1000) (h2 : j.ps.length ≤ 1000) :
    ∃ pa pc qa qc, FolAt c j W J m P pa pc qa qc := by
  have hb := h.bJ
  have hq := h.hq
  obtain ⟨n, hn⟩ : ∃ n, n = j.ps.length := ⟨_, rfl⟩
  rw [← hn] at hq
  obtain ⟨L, hL⟩ : ∃ L, L = (List.range n).map P := ⟨_, rfl⟩
  have hLn : L.length = n := by rw [hL]; simp
  rw [ptrs_ptL, ← hL, ← hLn] at hq
  obtain ⟨pa, pc, rfl, hr⟩ := own_ac h.hp
  obtain ⟨qa, qc, rfl, hr2⟩ := own_ptl hq
  exact ⟨pa, pc, qa, qc, ⟨⟨hb.cell 5, by rw [← hn, ← hLn]; exact hb.cell 6, hb.lt, hr, ⟨by
    rcases hr2 with h0 | ⟨g, off, a1, a2, a3⟩
    · exact .inl (by omega)
    · refine .inr ⟨g, off, a1, a2, fun i hi => ?_⟩
      have := a3 i (by omega)
      rw [this, hL]
      simp [List.getD, show i < n by omega], fun i hi => (h.hP i hi).2⟩, h1, h2⟩, by rw [← hn, ← hLn]; exact hb⟩⟩
end Go.Proofs.YtabnpimidhlbiaaGreat

