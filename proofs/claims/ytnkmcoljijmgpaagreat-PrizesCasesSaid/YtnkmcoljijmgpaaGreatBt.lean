import Derived.Test.YtnkmcoljijmgpaaGreatBr
import Derived.Laws.StructEq
set_option linter.unusedSimpArgs false
set_option linter.unusedVariables false
namespace Go.Proofs.YtnkmcoljijmgpaaGreat
open Go.RowKit Go.Shelf Go.Sort Go.Maps
attribute [local go_sem] Oper.semAt_some
/-- the chapter's race, laid from block B on -/
def exR (B : Nat) : Ra := ⟨some ⟨B + 1 + 1 + 1 + 1 + 1 + 1, 0, none⟩, 5, [⟨11, 1, 1, 1, some ⟨B + 1, 0, none⟩, 3, [0, 1, 2]⟩, ⟨12, 2, 2, 1, some ⟨B + 1 + 1, 0, none⟩, 2, [0, 1]⟩, ⟨13, 1, 2, 1, some ⟨B + 1 + 1 + 1, 0, none⟩, 3, [0, 1, 2]⟩, ⟨14, 3, 1, 2, some ⟨B + 1 + 1 + 1 + 1, 0, none⟩, 2, [0, 1]⟩, ⟨15, 2, 0, 0, some ⟨B + 1 + 1 + 1 + 1 + 1, 0, none⟩, 2, [0, 2]⟩], some ⟨B + 1 + 1 + 1 + 1 + 1 + 1 + 1 + 1, 0, none⟩, 3, [⟨1000, 100, 1, some ⟨B + 1 + 1 + 1 + 1 + 1 + 1 + 1, 0, none⟩, 3, [500, 300, 100], 0, false⟩, ⟨333, 0, 2, none, 0, [], 2, false⟩, ⟨500, 0, 3, none, 0, [], 0, true⟩], some ⟨B + 1 + 1 + 1 + 1 + 1 + 1 + 1 + 1 + 1, 0, none⟩, 2, [11, 13]⟩
structure ExW (B : Nat) (W : World) : Prop where
  b0 : Blk W (B) 26 #[.slice (some ⟨B + 1 + 1 + 1 + 1 + 1 + 1, 0, none⟩) 5 5, .slice (some ⟨B + 1 + 1 + 1 + 1 + 1 + 1 + 1 + 1, 0, none⟩) 3 3, .slice (some ⟨B + 1 + 1 + 1 + 1 + 1 + 1 + 1 + 1 + 1, 0, none⟩) 2 2]
  b1 : Blk W (B + 1) 3 #[.int .i64 0, .int .i64 1, .int .i64 2]
  b2 : Blk W (B + 1 + 1) 3 #[.int .i64 0, .int .i64 1]
  b3 : Blk W (B + 1 + 1 + 1) 3 #[.int .i64 0, .int .i64 1, .int .i64 2]
  b4 : Blk W (B + 1 + 1 + 1 + 1) 3 #[.int .i64 0, .int .i64 1]
  b5 : Blk W (B + 1 + 1 + 1 + 1 + 1) 3 #[.int .i64 0, .int .i64 2]
  b6 : Blk W (B + 1 + 1 + 1 + 1 + 1 + 1) 60 #[.int .i64 11, .int .i64 1, .int .i64 1, .int .i64 1, .slice (some ⟨B + 1, 0, none⟩) 3 3, .int .i64 12, .int .i64 2, .int .i64 2, .int .i64 1, .slice (some ⟨B + 1 + 1, 0, none⟩) 2 2, .int .i64 13, .int .i64 1, .int .i64 2, .int .i64 1, .slice (some ⟨B + 1 + 1 + 1, 0, none⟩) 3 3, .int .i64 14, .int .i64 3, .int .i64 1, .int .i64 2, .slice (some ⟨B + 1 + 1 + 1 + 1, 0, none⟩) 2 2, .int .i64 15, .int .i64 2, .int .i64 0, .int .i64 0, .slice (some ⟨B + 1 + 1 + 1 + 1 + 1, 0, none⟩) 2 2]
  b7 : Blk W (B + 1 + 1 + 1 + 1 + 1 + 1 + 1) 3 #[.int .i64 500, .int .i64 300, .int .i64 100]
  b8 : Blk W (B + 1 + 1 + 1 + 1 + 1 + 1 + 1 + 1) 42 #[.int .i64 1000, .int .i64 100, .int .i64 1, .slice (some ⟨B + 1 + 1 + 1 + 1 + 1 + 1 + 1, 0, none⟩) 3 3, .int .i64 0, .bool false, .int .i64 333, .int .i64 0, .int .i64 2, .slice none 0 0, .int .i64 2, .bool false, .int .i64 500, .int .i64 0, .int .i64 3, .slice none 0 0, .int .i64 0, .bool true]
  b9 : Blk W (B + 1 + 1 + 1 + 1 + 1 + 1 + 1 + 1 + 1) 3 #[.int .i64 11, .int .i64 13]
theorem ints_blk {W : World} {b : Nat} {l : List Int} {cs : Array Value} (hb : Blk W b 3 cs) (h : ∀ k, k < l.length → cs[0 + k]? = some (.int .i64 (l.getD k 0))) : IntsAt W (some ⟨b, 0, none⟩) l := .inr ⟨b, 0, rfl, hb.lt, fun k hk => (hb.cell _).trans (h k hk)⟩
theorem lt2 {P : Nat → Prop} (h0 : P 0) (h1 : P 1) : ∀ k, k < 2 → P k
  | 0, _ => h0
  | 1, _ => h1
theorem lt3 {P : Nat → Prop} (h0 : P 0) (h1 : P 1) (h2 : P 2) : ∀ k, k < 3 → P k
  | 0, _ => h0
  | 1, _ => h1
  | 2, _ => h2
theorem lt5 {P : Nat → Prop} (h0 : P 0) (h1 : P 1) (h2 : P 2) (h3 : P 3) (h4 : P 4) : ∀ k, k < 5 → P k
  | 0, _ => h0
  | 1, _ => h1
  | 2, _ => h2
  | 3, _ => h3
  | 4, _ => h4
theorem lt6 {P : Nat → Prop} (h0 : P 0) (h1 : P 1) (h2 : P 2) (h3 : P 3) (h4 : P 4) (h5 : P 5) : ∀ k, k < 6 → P k
  | 0, _ => h0
  | 1, _ => h1
  | 2, _ => h2
  | 3, _ => h3
  | 4, _ => h4
  | 5, _ => h5
set_option maxRecDepth 100000 in
theorem ExW.at {B : Nat} {W : World} (h : ExW B W) : (exR B).At W where
  rs := ⟨.inr ⟨_, 0, rfl, h.b6.lt, fun i hi r hr => (h.b6.cell _).trans (lt5 (P := fun i => ∀ r, r < 5 → (#[.int .i64 11, .int .i64 1, .int .i64 1, .int .i64 1, .slice (some ⟨B + 1, 0, none⟩) 3 3, .int .i64 12, .int .i64 2, .int .i64 2, .int .i64 1, .slice (some ⟨B + 1 + 1, 0, none⟩) 2 2, .int .i64 13, .int .i64 1, .int .i64 2, .int .i64 1, .slice (some ⟨B + 1 + 1 + 1, 0, none⟩) 3 3, .int .i64 14, .int .i64 3, .int .i64 1, .int .i64 2, .slice (some ⟨B + 1 + 1 + 1 + 1, 0, none⟩) 2 2, .int .i64 15, .int .i64 2, .int .i64 0, .int .i64 0, .slice (some ⟨B + 1 + 1 + 1 + 1 + 1, 0, none⟩) 2 2] : Array Value)[0 + i * 5 + r]? = ((exR B).racers.getD i default).v[r]?) (lt5 rfl rfl rfl rfl rfl) (lt5 rfl rfl rfl rfl rfl) (lt5 rfl rfl rfl rfl rfl) (lt5 rfl rfl rfl rfl rfl) (lt5 rfl rfl rfl rfl rfl) i hi r hr)⟩, lt5 (P := fun i => IntsAt W ((exR B).racers.getD i default).pa ((exR B).racers.getD i default).pools) (ints_blk h.b1 (lt3 rfl rfl rfl)) (ints_blk h.b2 (lt2 rfl rfl)) (ints_blk h.b3 (lt3 rfl rfl rfl)) (ints_blk h.b4 (lt2 rfl rfl)) (ints_blk h.b5 (lt2 rfl rfl))⟩
  ps := ⟨.inr ⟨_, 0, rfl, h.b8.lt, fun i hi r hr => (h.b8.cell _).trans (lt3 (P := fun i => ∀ r, r < 6 → (#[.int .i64 1000, .int .i64 100, .int .i64 1, .slice (some ⟨B + 1 + 1 + 1 + 1 + 1 + 1 + 1, 0, none⟩) 3 3, .int .i64 0, .bool false, .int .i64 333, .int .i64 0, .int .i64 2, .slice none 0 0, .int .i64 2, .bool false, .int .i64 500, .int .i64 0, .int .i64 3, .slice none 0 0, .int .i64 0, .bool true] : Array Value)[0 + i * 6 + r]? = ((exR B).pools.getD i default).v[r]?) (lt6 rfl rfl rfl rfl rfl rfl) (lt6 rfl rfl rfl rfl rfl rfl) (lt6 rfl rfl rfl rfl rfl rfl) i hi r hr)⟩, lt3 (P := fun i => IntsAt W ((exR B).pools.getD i default).ta ((exR B).pools.getD i default).table) (ints_blk h.b7 (lt3 rfl rfl rfl)) (.inl rfl) (.inl rfl)⟩
  ts := ints_blk h.b9 (lt2 rfl rfl)
  nr := by show 5 ≤ 1000; decide
  cr := by show 5 ≤ 5; decide
  ct := by show 2 ≤ 2; decide
  np := by show 3 ≤ 1000; decide
  nt := by show 2 ≤ 1000; decide
  nq := lt5 (P := fun i => ((exR B).racers.getD i default).pools.length ≤ 1000) (by show 3 ≤ 1000; decide) (by show 2 ≤ 1000; decide) (by show 3 ≤ 1000; decide) (by show 2 ≤ 1000; decide) (by show 2 ≤ 1000; decide)
  nb := lt3 (P := fun i => ((exR B).pools.getD i default).table.length ≤ 1000) (by show 3 ≤ 1000; decide) (by show 0 ≤ 1000; decide) (by show 0 ≤ 1000; decide)
theorem res45 (tmps : Array Value) (w : World) (g : Nat) (a0 a1 a2 : Option Addr) (l0 l1 l2 k0 k1 k2 : Nat) (h : tmps.getD 0 undef = .pointer (some ⟨g, 0, none⟩)) (hB : Blk w g 26 #[.slice a0 l0 k0, .slice a1 l1 k1, .slice a2 l2 k2]) :
    (results Tryz.f45 tmps).run Tryz.prog w = .ok (.agg #[.slice a0 l0 k0, .slice a1 l1 k1, .slice a2 l2 k2]) w := by
  have c0 := hB.cell 0
  have c1 := hB.cell 1
  have c2 := hB.cell 2
  clear hB
  have hr : Tryz.f45.results = #[.cell 0 26] := rfl
  have h' : tmps[0]?.getD undef = .pointer (some ⟨g, 0, none⟩) := by simpa using h
  simp only [results, hr]
  go_simp
set_option maxRecDepth 100000 in
set_option maxHeartbeats 4000000 in
theorem Example_any (w : World) : Calls Tryz.prog 45 #[] w fun e w' => e = .returned (.agg (exR w.heap.size).v) ∧ (exR w.heap.size).At w' ∧ G w w' := by
  obtain ⟨W0, hW0⟩ : ∃ W0, W0 = w.alloc (.cells #[.slice (some ⟨w.heap.size + 1 + 1 + 1 + 1 + 1 + 1, 0, none⟩) 5 5, .slice (some ⟨w.heap.size + 1 + 1 + 1 + 1 + 1 + 1 + 1 + 1, 0, none⟩) 3 3, .slice (some ⟨w.heap.size + 1 + 1 + 1 + 1 + 1 + 1 + 1 + 1 + 1, 0, none⟩) 2 2] 26) := ⟨_, rfl⟩
  have hs0 : W0.heap.size = w.heap.size + 1 := by rw [hW0, World.size_alloc]
  obtain ⟨W1, hW1⟩ : ∃ W1, W1 = W0.alloc (.cells #[.int .i64 0, .int .i64 1, .int .i64 2] 3) := ⟨_, rfl⟩
  have hs1 : W1.heap.size = w.heap.size + 1 + 1 := by rw [hW1, World.size_alloc, hs0]
  obtain ⟨W2, hW2⟩ : ∃ W2, W2 = W1.alloc (.cells #[.int .i64 0, .int .i64 1] 3) := ⟨_, rfl⟩
  have hs2 : W2.heap.size = w.heap.size + 1 + 1 + 1 := by rw [hW2, World.size_alloc, hs1]
  obtain ⟨W3, hW3⟩ : ∃ W3, W3 = W2.alloc (.cells #[.int .i64 0, .int .i64 1, .int .i64 2] 3) := ⟨_, rfl⟩
  have hs3 : W3.heap.size = w.heap.size + 1 + 1 + 1 + 1 := by rw [hW3, World.size_alloc, hs2]
  obtain ⟨W4, hW4⟩ : ∃ W4, W4 = W3.alloc (.cells #[.int .i64 0, .int .i64 1] 3) := ⟨_, rfl⟩
  have hs4 : W4.heap.size = w.heap.size + 1 + 1 + 1 + 1 + 1 := by rw [hW4, World.size_alloc, hs3]
  obtain ⟨W5, hW5⟩ : ∃ W5, W5 = W4.alloc (.cells #[.int .i64 0, .int .i64 2] 3) := ⟨_, rfl⟩
  have hs5 : W5.heap.size = w.heap.size + 1 + 1 + 1 + 1 + 1 + 1 := by rw [hW5, World.size_alloc, hs4]
  obtain ⟨W6, hW6⟩ : ∃ W6, W6 = W5.alloc (.cells #[.int .i64 11, .int .i64 1, .int .i64 1, .int .i64 1, .slice (some ⟨w.heap.size + 1, 0, none⟩) 3 3, .int .i64 12, .int .i64 2, .int .i64 2, .int .i64 1, .slice (some ⟨w.heap.size + 1 + 1, 0, none⟩) 2 2, .int .i64 13, .int .i64 1, .int .i64 2, .int .i64 1, .slice (some ⟨w.heap.size + 1 + 1 + 1, 0, none⟩) 3 3, .int .i64 14, .int .i64 3, .int .i64 1, .int .i64 2, .slice (some ⟨w.heap.size + 1 + 1 + 1 + 1, 0, none⟩) 2 2, .int .i64 15, .int .i64 2, .int .i64 0, .int .i64 0, .slice (some ⟨w.heap.size + 1 + 1 + 1 + 1 + 1, 0, none⟩) 2 2] 60) := ⟨_, rfl⟩
  have hs6 : W6.heap.size = w.heap.size + 1 + 1 + 1 + 1 + 1 + 1 + 1 := by rw [hW6, World.size_alloc, hs5]
  obtain ⟨W7, hW7⟩ : ∃ W7, W7 = W6.alloc (.cells #[.int .i64 500, .int .i64 300, .int .i64 100] 3) := ⟨_, rfl⟩
  have hs7 : W7.heap.size = w.heap.size + 1 + 1 + 1 + 1 + 1 + 1 + 1 + 1 := by rw [hW7, World.size_alloc, hs6]
  obtain ⟨W8, hW8⟩ : ∃ W8, W8 = W7.alloc (.cells #[.int .i64 1000, .int .i64 100, .int .i64 1, .slice (some ⟨w.heap.size + 1 + 1 + 1 + 1 + 1 + 1 + 1, 0, none⟩) 3 3, .int .i64 0, .bool false, .int .i64 333, .int .i64 0, .int .i64 2, .slice none 0 0, .int .i64 2, .bool false, .int .i64 500, .int .i64 0, .int .i64 3, .slice none 0 0, .int .i64 0, .bool true] 42) := ⟨_, rfl⟩
  have hs8 : W8.heap.size = w.heap.size + 1 + 1 + 1 + 1 + 1 + 1 + 1 + 1 + 1 := by rw [hW8, World.size_alloc, hs7]
  obtain ⟨W9, hW9⟩ : ∃ W9, W9 = W8.alloc (.cells #[.int .i64 11, .int .i64 13] 3) := ⟨_, rfl⟩
  have hs9 : W9.heap.size = w.heap.size + 1 + 1 + 1 + 1 + 1 + 1 + 1 + 1 + 1 + 1 := by rw [hW9, World.size_alloc, hs8]
  have n0 : Blk W0 (w.heap.size) 26 #[.slice (some ⟨w.heap.size + 1 + 1 + 1 + 1 + 1 + 1, 0, none⟩) 5 5, .slice (some ⟨w.heap.size + 1 + 1 + 1 + 1 + 1 + 1 + 1 + 1, 0, none⟩) 3 3, .slice (some ⟨w.heap.size + 1 + 1 + 1 + 1 + 1 + 1 + 1 + 1 + 1, 0, none⟩) 2 2] := by rw [hW0]; have := Blk.new w 26 #[.slice (some ⟨w.heap.size + 1 + 1 + 1 + 1 + 1 + 1, 0, none⟩) 5 5, .slice (some ⟨w.heap.size + 1 + 1 + 1 + 1 + 1 + 1 + 1 + 1, 0, none⟩) 3 3, .slice (some ⟨w.heap.size + 1 + 1 + 1 + 1 + 1 + 1 + 1 + 1 + 1, 0, none⟩) 2 2]; exact this
  have n1 : Blk W1 (w.heap.size + 1) 3 #[.int .i64 0, .int .i64 1, .int .i64 2] := by rw [hW1]; have := Blk.new W0 3 #[.int .i64 0, .int .i64 1, .int .i64 2]; rw [hs0] at this; exact this
  have n2 : Blk W2 (w.heap.size + 1 + 1) 3 #[.int .i64 0, .int .i64 1] := by rw [hW2]; have := Blk.new W1 3 #[.int .i64 0, .int .i64 1]; rw [hs1] at this; exact this
  have n3 : Blk W3 (w.heap.size + 1 + 1 + 1) 3 #[.int .i64 0, .int .i64 1, .int .i64 2] := by rw [hW3]; have := Blk.new W2 3 #[.int .i64 0, .int .i64 1, .int .i64 2]; rw [hs2] at this; exact this
  have n4 : Blk W4 (w.heap.size + 1 + 1 + 1 + 1) 3 #[.int .i64 0, .int .i64 1] := by rw [hW4]; have := Blk.new W3 3 #[.int .i64 0, .int .i64 1]; rw [hs3] at this; exact this
  have n5 : Blk W5 (w.heap.size + 1 + 1 + 1 + 1 + 1) 3 #[.int .i64 0, .int .i64 2] := by rw [hW5]; have := Blk.new W4 3 #[.int .i64 0, .int .i64 2]; rw [hs4] at this; exact this
  have n6 : Blk W6 (w.heap.size + 1 + 1 + 1 + 1 + 1 + 1) 60 #[.int .i64 11, .int .i64 1, .int .i64 1, .int .i64 1, .slice (some ⟨w.heap.size + 1, 0, none⟩) 3 3, .int .i64 12, .int .i64 2, .int .i64 2, .int .i64 1, .slice (some ⟨w.heap.size + 1 + 1, 0, none⟩) 2 2, .int .i64 13, .int .i64 1, .int .i64 2, .int .i64 1, .slice (some ⟨w.heap.size + 1 + 1 + 1, 0, none⟩) 3 3, .int .i64 14, .int .i64 3, .int .i64 1, .int .i64 2, .slice (some ⟨w.heap.size + 1 + 1 + 1 + 1, 0, none⟩) 2 2, .int .i64 15, .int .i64 2, .int .i64 0, .int .i64 0, .slice (some ⟨w.heap.size + 1 + 1 + 1 + 1 + 1, 0, none⟩) 2 2] := by rw [hW6]; have := Blk.new W5 60 #[.int .i64 11, .int .i64 1, .int .i64 1, .int .i64 1, .slice (some ⟨w.heap.size + 1, 0, none⟩) 3 3, .int .i64 12, .int .i64 2, .int .i64 2, .int .i64 1, .slice (some ⟨w.heap.size + 1 + 1, 0, none⟩) 2 2, .int .i64 13, .int .i64 1, .int .i64 2, .int .i64 1, .slice (some ⟨w.heap.size + 1 + 1 + 1, 0, none⟩) 3 3, .int .i64 14, .int .i64 3, .int .i64 1, .int .i64 2, .slice (some ⟨w.heap.size + 1 + 1 + 1 + 1, 0, none⟩) 2 2, .int .i64 15, .int .i64 2, .int .i64 0, .int .i64 0, .slice (some ⟨w.heap.size + 1 + 1 + 1 + 1 + 1, 0, none⟩) 2 2]; rw [hs5] at this; exact this
  have n7 : Blk W7 (w.heap.size + 1 + 1 + 1 + 1 + 1 + 1 + 1) 3 #[.int .i64 500, .int .i64 300, .int .i64 100] := by rw [hW7]; have := Blk.new W6 3 #[.int .i64 500, .int .i64 300, .int .i64 100]; rw [hs6] at this; exact this
  have n8 : Blk W8 (w.heap.size + 1 + 1 + 1 + 1 + 1 + 1 + 1 + 1) 42 #[.int .i64 1000, .int .i64 100, .int .i64 1, .slice (some ⟨w.heap.size + 1 + 1 + 1 + 1 + 1 + 1 + 1, 0, none⟩) 3 3, .int .i64 0, .bool false, .int .i64 333, .int .i64 0, .int .i64 2, .slice none 0 0, .int .i64 2, .bool false, .int .i64 500, .int .i64 0, .int .i64 3, .slice none 0 0, .int .i64 0, .bool true] := by rw [hW8]; have := Blk.new W7 42 #[.int .i64 1000, .int .i64 100, .int .i64 1, .slice (some ⟨w.heap.size + 1 + 1 + 1 + 1 + 1 + 1 + 1, 0, none⟩) 3 3, .int .i64 0, .bool false, .int .i64 333, .int .i64 0, .int .i64 2, .slice none 0 0, .int .i64 2, .bool false, .int .i64 500, .int .i64 0, .int .i64 3, .slice none 0 0, .int .i64 0, .bool true]; rw [hs7] at this; exact this
  have n9 : Blk W9 (w.heap.size + 1 + 1 + 1 + 1 + 1 + 1 + 1 + 1 + 1) 3 #[.int .i64 11, .int .i64 13] := by rw [hW9]; have := Blk.new W8 3 #[.int .i64 11, .int .i64 13]; rw [hs8] at this; exact this
  have g1 : G W0 W1 := by rw [hW1]; exact (G.rf _).a _
  have g2 : G W1 W2 := by rw [hW2]; exact (G.rf _).a _
  have g3 : G W2 W3 := by rw [hW3]; exact (G.rf _).a _
  have g4 : G W3 W4 := by rw [hW4]; exact (G.rf _).a _
  have g5 : G W4 W5 := by rw [hW5]; exact (G.rf _).a _
  have g6 : G W5 W6 := by rw [hW6]; exact (G.rf _).a _
  have g7 : G W6 W7 := by rw [hW7]; exact (G.rf _).a _
  have g8 : G W7 W8 := by rw [hW8]; exact (G.rf _).a _
  have g9 : G W8 W9 := by rw [hW9]; exact (G.rf _).a _
  have hx : ExW w.heap.size W9 := ⟨(((((((((n0.keep g1).keep g2).keep g3).keep g4).keep g5).keep g6).keep g7).keep g8).keep g9), ((((((((n1.keep g2).keep g3).keep g4).keep g5).keep g6).keep g7).keep g8).keep g9), (((((((n2.keep g3).keep g4).keep g5).keep g6).keep g7).keep g8).keep g9), ((((((n3.keep g4).keep g5).keep g6).keep g7).keep g8).keep g9), (((((n4.keep g5).keep g6).keep g7).keep g8).keep g9), ((((n5.keep g6).keep g7).keep g8).keep g9), (((n6.keep g7).keep g8).keep g9), ((n7.keep g8).keep g9), (n8.keep g9), n9⟩
  have hg : G w W9 := ((((((((((show G w W0 by rw [hW0]; exact (G.rf _).a _).t g1).t g2).t g3).t g4).t g5).t g6).t g7).t g8).t g9)
  have HB0 := Lib.hid hx.b0
  have HX := Lib.hid (And.intro hx.at hg)
  clear hx hg n0 n1 n2 n3 n4 n5 n6 n7 n8 n9 hs0 hs1 hs2 hs3 hs4 hs5 hs6 hs7 hs8 hs9 g1 g2 g3 g4 g5 g6 g7 g8 g9
  have HEQ := Lib.hid (show W9 = _ from by rw [hW9, hW8, hW7, hW6, hW5, hW4, hW3, hW2, hW1, hW0])
  clear hW9 hW8 hW7 hW6 hW5 hW4 hW3 hW2 hW1 hW0
  go_enter Tryz.func45, Tryz.ntmps45
  go_wp2_with fail
  rw [← HEQ.out]
  try simp only [Exit.inBlock, Exit.then]
  refine bodyPost_ret (res45 _ _ w.heap.size _ _ _ _ _ _ _ _ _ rfl HB0.out) rfl ?_
  exact ⟨rfl, HX.out⟩
end Go.Proofs.YtnkmcoljijmgpaaGreat
set_option linter.unusedSimpArgs false
set_option linter.unusedVariables false
namespace Go.Proofs.YtnkmcoljijmgpaaGreat
open Go.RowKit Go.Shelf Go.Sort Go.Maps
attribute [local go_sem] Oper.semAt_some
theorem ex_race (B : Nat) : raceB (exR B) = true := by kernel_rfl
theorem ex_run0 (B : Nat) : runners (exR B) 0 = [⟨11, 1, 1, 1, some ⟨B + 1, 0, none⟩, 3, [0, 1, 2]⟩, ⟨12, 2, 2, 1, some ⟨B + 1 + 1, 0, none⟩, 2, [0, 1]⟩, ⟨13, 1, 2, 1, some ⟨B + 1 + 1 + 1, 0, none⟩, 3, [0, 1, 2]⟩, ⟨14, 3, 1, 2, some ⟨B + 1 + 1 + 1 + 1, 0, none⟩, 2, [0, 1]⟩, ⟨15, 2, 0, 0, some ⟨B + 1 + 1 + 1 + 1 + 1, 0, none⟩, 2, [0, 2]⟩] := by
  unfold runners srt
  rw [show (exR B).racers.filter (fun x => inL x.pools 0) = [⟨11, 1, 1, 1, some ⟨B + 1, 0, none⟩, 3, [0, 1, 2]⟩, ⟨12, 2, 2, 1, some ⟨B + 1 + 1, 0, none⟩, 2, [0, 1]⟩, ⟨13, 1, 2, 1, some ⟨B + 1 + 1 + 1, 0, none⟩, 3, [0, 1, 2]⟩, ⟨14, 3, 1, 2, some ⟨B + 1 + 1 + 1 + 1, 0, none⟩, 2, [0, 1]⟩, ⟨15, 2, 0, 0, some ⟨B + 1 + 1 + 1 + 1 + 1, 0, none⟩, 2, [0, 2]⟩] by kernel_rfl]
  exact List.mergeSort_of_pairwise (by simp)
def exF0 (B : Nat) : Fu := ⟨⟨1000, 100, 1, some ⟨B + 1 + 1 + 1 + 1 + 1 + 1 + 1, 0, none⟩, 3, [500, 300, 100], 0, false⟩, none, 0, [⟨11, 1, 1, 1, some ⟨B + 1, 0, none⟩, 3, [0, 1, 2]⟩, ⟨12, 2, 2, 1, some ⟨B + 1 + 1, 0, none⟩, 2, [0, 1]⟩, ⟨13, 1, 2, 1, some ⟨B + 1 + 1 + 1, 0, none⟩, 3, [0, 1, 2]⟩, ⟨14, 3, 1, 2, some ⟨B + 1 + 1 + 1 + 1, 0, none⟩, 2, [0, 1]⟩, ⟨15, 2, 0, 0, some ⟨B + 1 + 1 + 1 + 1 + 1, 0, none⟩, 2, [0, 2]⟩], some ⟨B + 1 + 1 + 1 + 1 + 1 + 1 + 1 + 1 + 1, 0, none⟩, 2, [11, 13]⟩
theorem ex_fu0 (B : Nat) : fuOf (exR B) 0 none 0 = exF0 B := by
  unfold fuOf
  rw [ex_run0]
  rfl
theorem ex_run1 (B : Nat) : runners (exR B) 1 = [⟨11, 1, 1, 1, some ⟨B + 1, 0, none⟩, 3, [0, 1, 2]⟩, ⟨12, 2, 2, 1, some ⟨B + 1 + 1, 0, none⟩, 2, [0, 1]⟩, ⟨13, 1, 2, 1, some ⟨B + 1 + 1 + 1, 0, none⟩, 3, [0, 1, 2]⟩, ⟨14, 3, 1, 2, some ⟨B + 1 + 1 + 1 + 1, 0, none⟩, 2, [0, 1]⟩] := by
  unfold runners srt
  rw [show (exR B).racers.filter (fun x => inL x.pools 1) = [⟨11, 1, 1, 1, some ⟨B + 1, 0, none⟩, 3, [0, 1, 2]⟩, ⟨12, 2, 2, 1, some ⟨B + 1 + 1, 0, none⟩, 2, [0, 1]⟩, ⟨13, 1, 2, 1, some ⟨B + 1 + 1 + 1, 0, none⟩, 3, [0, 1, 2]⟩, ⟨14, 3, 1, 2, some ⟨B + 1 + 1 + 1 + 1, 0, none⟩, 2, [0, 1]⟩] by kernel_rfl]
  exact List.mergeSort_of_pairwise (by simp)
def exF1 (B : Nat) : Fu := ⟨⟨333, 0, 2, none, 0, [], 2, false⟩, none, 0, [⟨11, 1, 1, 1, some ⟨B + 1, 0, none⟩, 3, [0, 1, 2]⟩, ⟨12, 2, 2, 1, some ⟨B + 1 + 1, 0, none⟩, 2, [0, 1]⟩, ⟨13, 1, 2, 1, some ⟨B + 1 + 1 + 1, 0, none⟩, 3, [0, 1, 2]⟩, ⟨14, 3, 1, 2, some ⟨B + 1 + 1 + 1 + 1, 0, none⟩, 2, [0, 1]⟩], some ⟨B + 1 + 1 + 1 + 1 + 1 + 1 + 1 + 1 + 1, 0, none⟩, 2, [11, 13]⟩
theorem ex_fu1 (B : Nat) : fuOf (exR B) 1 none 0 = exF1 B := by
  unfold fuOf
  rw [ex_run1]
  rfl
theorem ex_run2 (B : Nat) : runners (exR B) 2 = [⟨11, 1, 1, 1, some ⟨B + 1, 0, none⟩, 3, [0, 1, 2]⟩, ⟨13, 1, 2, 1, some ⟨B + 1 + 1 + 1, 0, none⟩, 3, [0, 1, 2]⟩, ⟨15, 2, 0, 0, some ⟨B + 1 + 1 + 1 + 1 + 1, 0, none⟩, 2, [0, 2]⟩] := by
  unfold runners srt
  rw [show (exR B).racers.filter (fun x => inL x.pools 2) = [⟨11, 1, 1, 1, some ⟨B + 1, 0, none⟩, 3, [0, 1, 2]⟩, ⟨13, 1, 2, 1, some ⟨B + 1 + 1 + 1, 0, none⟩, 3, [0, 1, 2]⟩, ⟨15, 2, 0, 0, some ⟨B + 1 + 1 + 1 + 1 + 1, 0, none⟩, 2, [0, 2]⟩] by kernel_rfl]
  exact List.mergeSort_of_pairwise (by simp)
def exF2 (B : Nat) : Fu := ⟨⟨500, 0, 3, none, 0, [], 0, true⟩, none, 0, [⟨11, 1, 1, 1, some ⟨B + 1, 0, none⟩, 3, [0, 1, 2]⟩, ⟨13, 1, 2, 1, some ⟨B + 1 + 1 + 1, 0, none⟩, 3, [0, 1, 2]⟩, ⟨15, 2, 0, 0, some ⟨B + 1 + 1 + 1 + 1 + 1, 0, none⟩, 2, [0, 2]⟩], some ⟨B + 1 + 1 + 1 + 1 + 1 + 1 + 1 + 1 + 1, 0, none⟩, 2, [11, 13]⟩
theorem ex_fu2 (B : Nat) : fuOf (exR B) 2 none 0 = exF2 B := by
  unfold fuOf
  rw [ex_run2]
  rfl
theorem ex_tk0_0 (B : Nat) : takersL (exF0 B) [] = [⟨11, 1, 1, 1, some ⟨B + 1, 0, none⟩, 3, [0, 1, 2]⟩, ⟨12, 2, 2, 1, some ⟨B + 1 + 1, 0, none⟩, 2, [0, 1]⟩, ⟨13, 1, 2, 1, some ⟨B + 1 + 1 + 1, 0, none⟩, 3, [0, 1, 2]⟩, ⟨14, 3, 1, 2, some ⟨B + 1 + 1 + 1 + 1, 0, none⟩, 2, [0, 1]⟩] := by
  unfold takersL tks
  rw [show (exF0 B).rs.filter (fun x => !skipB (exF0 B).po.first [] x) = [⟨11, 1, 1, 1, some ⟨B + 1, 0, none⟩, 3, [0, 1, 2]⟩, ⟨12, 2, 2, 1, some ⟨B + 1 + 1, 0, none⟩, 2, [0, 1]⟩, ⟨13, 1, 2, 1, some ⟨B + 1 + 1 + 1, 0, none⟩, 3, [0, 1, 2]⟩, ⟨14, 3, 1, 2, some ⟨B + 1 + 1 + 1 + 1, 0, none⟩, 2, [0, 1]⟩] by kernel_rfl]
  exact List.mergeSort_of_pairwise (by simp [lexL])
theorem ex_wn0_0 (B : Nat) : wonL (exF0 B) [] = [(11, 2250), (12, 900), (13, 900), (14, 0)] := by
  unfold wonL orderL
  rw [ex_tk0_0]
  kernel_rfl
theorem ex_tk0_11 (B : Nat) : takersL (exF0 B) [11] = [⟨12, 2, 2, 1, some ⟨B + 1 + 1, 0, none⟩, 2, [0, 1]⟩, ⟨13, 1, 2, 1, some ⟨B + 1 + 1 + 1, 0, none⟩, 3, [0, 1, 2]⟩, ⟨14, 3, 1, 2, some ⟨B + 1 + 1 + 1 + 1, 0, none⟩, 2, [0, 1]⟩] := by
  unfold takersL tks
  rw [show (exF0 B).rs.filter (fun x => !skipB (exF0 B).po.first [11] x) = [⟨12, 2, 2, 1, some ⟨B + 1 + 1, 0, none⟩, 2, [0, 1]⟩, ⟨13, 1, 2, 1, some ⟨B + 1 + 1 + 1, 0, none⟩, 3, [0, 1, 2]⟩, ⟨14, 3, 1, 2, some ⟨B + 1 + 1 + 1 + 1, 0, none⟩, 2, [0, 1]⟩] by kernel_rfl]
  exact List.mergeSort_of_pairwise (by simp [lexL])
theorem ex_wn0_11 (B : Nat) : wonL (exF0 B) [11] = [(12, 1800), (13, 1800), (14, 450)] := by
  unfold wonL orderL
  rw [ex_tk0_11]
  kernel_rfl
theorem ex_tk0_13 (B : Nat) : takersL (exF0 B) [13] = [⟨11, 1, 1, 1, some ⟨B + 1, 0, none⟩, 3, [0, 1, 2]⟩, ⟨12, 2, 2, 1, some ⟨B + 1 + 1, 0, none⟩, 2, [0, 1]⟩, ⟨14, 3, 1, 2, some ⟨B + 1 + 1 + 1 + 1, 0, none⟩, 2, [0, 1]⟩] := by
  unfold takersL tks
  rw [show (exF0 B).rs.filter (fun x => !skipB (exF0 B).po.first [13] x) = [⟨11, 1, 1, 1, some ⟨B + 1, 0, none⟩, 3, [0, 1, 2]⟩, ⟨12, 2, 2, 1, some ⟨B + 1 + 1, 0, none⟩, 2, [0, 1]⟩, ⟨14, 3, 1, 2, some ⟨B + 1 + 1 + 1 + 1, 0, none⟩, 2, [0, 1]⟩] by kernel_rfl]
  exact List.mergeSort_of_pairwise (by simp [lexL])
theorem ex_wn0_13 (B : Nat) : wonL (exF0 B) [13] = [(11, 2250), (12, 1350), (14, 450)] := by
  unfold wonL orderL
  rw [ex_tk0_13]
  kernel_rfl
theorem ex_tk0_11_13 (B : Nat) : takersL (exF0 B) [11, 13] = [⟨12, 2, 2, 1, some ⟨B + 1 + 1, 0, none⟩, 2, [0, 1]⟩, ⟨14, 3, 1, 2, some ⟨B + 1 + 1 + 1 + 1, 0, none⟩, 2, [0, 1]⟩] := by
  unfold takersL tks
  rw [show (exF0 B).rs.filter (fun x => !skipB (exF0 B).po.first [11, 13] x) = [⟨12, 2, 2, 1, some ⟨B + 1 + 1, 0, none⟩, 2, [0, 1]⟩, ⟨14, 3, 1, 2, some ⟨B + 1 + 1 + 1 + 1, 0, none⟩, 2, [0, 1]⟩] by kernel_rfl]
  exact List.mergeSort_of_pairwise (by simp [lexL])
theorem ex_wn0_11_13 (B : Nat) : wonL (exF0 B) [11, 13] = [(12, 2250), (14, 1350)] := by
  unfold wonL orderL
  rw [ex_tk0_11_13]
  kernel_rfl
theorem ex_tk1_0 (B : Nat) : takersL (exF1 B) [] = [⟨11, 1, 1, 1, some ⟨B + 1, 0, none⟩, 3, [0, 1, 2]⟩, ⟨12, 2, 2, 1, some ⟨B + 1 + 1, 0, none⟩, 2, [0, 1]⟩, ⟨13, 1, 2, 1, some ⟨B + 1 + 1 + 1, 0, none⟩, 3, [0, 1, 2]⟩, ⟨14, 3, 1, 2, some ⟨B + 1 + 1 + 1 + 1, 0, none⟩, 2, [0, 1]⟩] := by
  unfold takersL tks
  rw [show (exF1 B).rs.filter (fun x => !skipB (exF1 B).po.first [] x) = [⟨11, 1, 1, 1, some ⟨B + 1, 0, none⟩, 3, [0, 1, 2]⟩, ⟨12, 2, 2, 1, some ⟨B + 1 + 1, 0, none⟩, 2, [0, 1]⟩, ⟨13, 1, 2, 1, some ⟨B + 1 + 1 + 1, 0, none⟩, 3, [0, 1, 2]⟩, ⟨14, 3, 1, 2, some ⟨B + 1 + 1 + 1 + 1, 0, none⟩, 2, [0, 1]⟩] by kernel_rfl]
  exact List.mergeSort_of_pairwise (by simp [lexL])
theorem ex_wn1_0 (B : Nat) : wonL (exF1 B) [] = [(11, 666), (12, 333), (13, 333), (14, 0)] := by
  unfold wonL orderL
  rw [ex_tk1_0]
  kernel_rfl
theorem ex_tk2_0 (B : Nat) : takersL (exF2 B) [] = [⟨11, 1, 1, 1, some ⟨B + 1, 0, none⟩, 3, [0, 1, 2]⟩, ⟨13, 1, 2, 1, some ⟨B + 1 + 1 + 1, 0, none⟩, 3, [0, 1, 2]⟩] := by
  unfold takersL tks
  rw [show (exF2 B).rs.filter (fun x => !skipB (exF2 B).po.first [] x) = [⟨11, 1, 1, 1, some ⟨B + 1, 0, none⟩, 3, [0, 1, 2]⟩, ⟨13, 1, 2, 1, some ⟨B + 1 + 1 + 1, 0, none⟩, 3, [0, 1, 2]⟩] by kernel_rfl]
  exact List.mergeSort_of_pairwise (by simp [lexL])
theorem ex_wn2_0 (B : Nat) : wonL (exF2 B) [] = [(11, 1500), (13, 0)] := by
  unfold wonL orderL
  rw [ex_tk2_0]
  kernel_rfl
theorem ex_pot (B : Nat) : potV (fuOf (exR B) 0 none 0) = #[.int .i64 5000, .int .i64 500, .int .i64 4500, .int .i64 450] := by
  rw [ex_fu0]
  unfold potV resI
  rw [ex_wn0_0]
  kernel_rfl
theorem ex_q (B : Nat) : qE (exR B) 0 [] = 0 := by
  unfold qE
  rw [ex_race]
  kernel_rfl
theorem ex_q12 (B : Nat) : qE (exR B) 0 [12] = 0 := by
  unfold qE
  rw [ex_race, ex_run0]
  kernel_rfl
theorem ex_cases : caseL [11, 13] = [[], [11], [13], [11, 13]] := by kernel_rfl
theorem ex_lo (B : Nat) : canLo (fuOf (exR B) 0 none 0) 12 (caseL [11, 13]) = 900 := by
  rw [ex_fu0, ex_cases]
  unfold canLo
  simp only [List.foldl]
  rw [ex_wn0_0, ex_wn0_11, ex_wn0_13, ex_wn0_11_13]
  kernel_rfl
theorem ex_hi (B : Nat) : canHi (fuOf (exR B) 0 none 0) 12 (caseL [11, 13]) = 2250 := by
  rw [ex_fu0, ex_cases]
  unfold canHi
  simp only [List.foldl]
  rw [ex_wn0_0, ex_wn0_11, ex_wn0_13, ex_wn0_11_13]
  kernel_rfl
theorem ex_pz0 (B : Nat) : prizesL (exF0 B) = (List.range 5).map fun i => (⟨((exF0 B).rs.getD i default).bird, wonAt [(11, 2250), (12, 900), (13, 900), (14, 0)] ((exF0 B).rs.getD i default).bird, shareI (lefI (exF0 B) - sndS [(11, 2250), (12, 900), (13, 900), (14, 0)]) 5 i⟩ : Pz) := by
  unfold prizesL resI
  rw [ex_wn0_0]
  rfl
theorem ex_pz1 (B : Nat) : prizesL (exF1 B) = (List.range 4).map fun i => (⟨((exF1 B).rs.getD i default).bird, wonAt [(11, 666), (12, 333), (13, 333), (14, 0)] ((exF1 B).rs.getD i default).bird, shareI (lefI (exF1 B) - sndS [(11, 666), (12, 333), (13, 333), (14, 0)]) 4 i⟩ : Pz) := by
  unfold prizesL resI
  rw [ex_wn1_0]
  rfl
theorem ex_pz2 (B : Nat) : prizesL (exF2 B) = (List.range 3).map fun i => (⟨((exF2 B).rs.getD i default).bird, wonAt [(11, 1500), (13, 0)] ((exF2 B).rs.getD i default).bird, shareI (lefI (exF2 B) - sndS [(11, 1500), (13, 0)]) 3 i⟩ : Pz) := by
  unfold prizesL resI
  rw [ex_wn2_0]
  rfl
def puG (rs : List Rc) (stake : Int) (PL : List Pz) (acc : List Pu) : Nat → List Pu
  | 0 => acc
  | j + 1 => putP (puG rs stake PL acc j) (addP (atP (puG rs stake PL acc j) (rs.getD j default).owner) stake ((PL.getD j default).won + (PL.getD j default).back))
theorem puIn_G (f : Fu) (acc : List Pu) : ∀ j, puIn f acc j = puG f.rs f.po.stake (prizesL f) acc j
  | 0 => rfl
  | j + 1 => by unfold puIn puG; rw [puIn_G f acc j]
theorem ex_pu (B : Nat) : puTo (exR B) 3 = [⟨1, 3666, 5829⟩, ⟨2, 2833, 1413⟩, ⟨3, 1333, 90⟩] := by
  have h : puTo (exR B) 3 = puIn (fuOf (exR B) 2 none 0) (puIn (fuOf (exR B) 1 none 0) (puIn (fuOf (exR B) 0 none 0) (pu0 (exR B).racers 5) (runners (exR B) 0).length) (runners (exR B) 1).length) (runners (exR B) 2).length := rfl
  rw [h, ex_fu0, ex_fu1, ex_fu2, ex_run0, ex_run1, ex_run2]
  have l5 : ∀ a b c d e : Rc, [a, b, c, d, e].length = 5 := fun _ _ _ _ _ => rfl
  have l4 : ∀ a b c d : Rc, [a, b, c, d].length = 4 := fun _ _ _ _ => rfl
  have l3 : ∀ a b c : Rc, [a, b, c].length = 3 := fun _ _ _ => rfl
  rw [l5, l4, l3, puIn_G, puIn_G, puIn_G, ex_pz0, ex_pz1, ex_pz2]
  clear l5 l4 l3 h
  show puG _ _ _ _ _ = _
  kernel_rfl
theorem ex_purses (B : Nat) : pursesL (exR B) = [⟨1, 3666, 5829⟩, ⟨2, 2833, 1413⟩, ⟨3, 1333, 90⟩] := by
  unfold pursesL srtP
  rw [show (exR B).pools.length = 3 from rfl, ex_pu]
  exact List.mergeSort_of_pairwise (by simp)
end Go.Proofs.YtnkmcoljijmgpaaGreat
set_option linter.unusedSimpArgs false
set_option linter.unusedVariables false
namespace Go.Proofs.YtnkmcoljijmgpaaGreat
open Go.RowKit Go.Shelf Go.Sort Go.Maps
attribute [local go_sem] Oper.semAt_some
theorem ex_Pot (B : Nat) (W : World) (h : (exR B).At W) : Calls Tryz.prog 17 #[.agg (exR B).v, .int .i64 0] W fun e w' => e = .returned (.tuple #[.agg #[.int .i64 5000, .int .i64 500, .int .i64 4500, .int .i64 450], .int .i64 0]) ∧ G W w' := by
  refine (Pot_any (exR B) 0 W h).mono ?_
  rintro e w' ⟨hG, hh⟩
  rcases hh with ⟨a, _⟩ | ⟨_, a⟩
  · exact absurd (ex_q B) a
  · rw [ex_pot] at a
    exact ⟨a, hG⟩
theorem ex_Can (B : Nat) (W : World) (h : (exR B).At W) : Calls Tryz.prog 25 #[.agg (exR B).v, .int .i64 0, .int .i64 12] W fun e w' => e = .returned (.tuple #[.agg #[.int .i64 900, .int .i64 2250], .int .i64 0]) ∧ G W w' := by
  refine (Can_any (exR B) 0 12 W h).mono ?_
  rintro e w' ⟨hG, hh⟩
  rcases hh with ⟨a, _⟩ | ⟨_, a⟩
  · exact absurd (ex_q12 B) a
  · rw [show (exR B).protests = [11, 13] from rfl, ex_lo, ex_hi] at a
    exact ⟨a, hG⟩
theorem ex_Pur (B : Nat) (W : World) (h : (exR B).At W) : Calls Tryz.prog 19 #[.agg (exR B).v] W fun e w' => ∃ g c, e = .returned (.tuple #[.slice (some ⟨g, 0, none⟩) 3 c, .int .i64 0]) ∧ G W w' ∧ g < w'.heap.size ∧ w'.cell? ⟨g, 3, none⟩ = some (.int .i64 2) ∧ w'.cell? ⟨g, 4, none⟩ = some (.int .i64 2833) ∧ w'.cell? ⟨g, 5, none⟩ = some (.int .i64 1413) := by
  refine (Purses_any (exR B) W h).mono ?_
  rintro e w' ⟨hG, hh⟩
  rcases hh with ⟨a, _⟩ | ⟨_, v, rfl, a⟩
  · rw [ex_race] at a; cases a
  · rw [ex_purses] at a
    obtain ⟨g, cap, cur, rfl, hb, hl, ht⟩ := own_some a (by decide)
    exact ⟨g, cap, rfl, hG, hl, take_cell hb ht (by decide) rfl, take_cell hb ht (by decide) rfl, take_cell hb ht (by decide) rfl⟩
set_option maxRecDepth 100000 in
set_option maxHeartbeats 4000000 in
theorem works_any (w : World) : Calls Tryz.prog 15 #[] w fun e w' => e = .returned (.bool true) ∧ G w w' := by
  have HEX := Lib.hid (fun W : World => Example_any W)
  have HPO := Lib.hid ex_Pot
  have HCA := Lib.hid ex_Can
  have HPU := Lib.hid ex_Pur
  go_enter Tryz.func15, Tryz.ntmps15
  go_upto_region 2 with (first | (go_at_call 45; refine (HEX.out _).mono ?_; rintro e w1 ⟨rfl, hA1, hG1⟩) | (go_at_call 17; refine (HPO.out _ _ hA1).mono ?_; rintro e w2 ⟨rfl, hG2⟩))
  have g2 := hG1.t hG2
  have ga := (G.rf w2).a (.cells #[.int .i64 5000, .int .i64 500, .int .i64 4500, .int .i64 450] 33)
  have b2 : Blk (w2.alloc (.cells #[.int .i64 5000, .int .i64 500, .int .i64 4500, .int .i64 450] 33)) w2.heap.size 33 #[.int .i64 5000, .int .i64 500, .int .i64 4500, .int .i64 450] := Blk.new _ _ _
  have g3 := g2.t ga
  clear hA1 hG1 hG2 HPO g2 ga
  change Code.wp _ _ _ _ (w2.alloc (.cells #[.int .i64 5000, .int .i64 500, .int .i64 4500, .int .i64 450] 33))
  obtain ⟨K2, hK2⟩ : ∃ K2, K2 = w2.heap.size := ⟨_, rfl⟩
  rw [← hK2] at b2 ⊢
  clear hK2
  generalize w2.alloc (.cells #[.int .i64 5000, .int .i64 500, .int .i64 4500, .int .i64 450] 33) = w3 at *
  go_upto_region 3 with (first | (go_at_call 45; refine (HEX.out _).mono ?_; rintro e w4 ⟨rfl, hA4, hG4⟩) | (go_at_call 25; refine (HCA.out _ _ hA4).mono ?_; rintro e w5 ⟨rfl, hG5⟩))
  have g5 := hG4.t hG5
  have ga := (G.rf w5).a (.cells #[.int .i64 900, .int .i64 2250] 62)
  have b5 : Blk (w5.alloc (.cells #[.int .i64 900, .int .i64 2250] 62)) w5.heap.size 62 #[.int .i64 900, .int .i64 2250] := Blk.new _ _ _
  have g6 := g5.t ga
  have b26 := b2.keep g6
  have gw6 := g3.t g6
  clear hA4 hG4 hG5 HCA g5 ga g6 b2 g3
  change Code.wp _ _ _ _ (w5.alloc (.cells #[.int .i64 900, .int .i64 2250] 62))
  obtain ⟨K5, hK5⟩ : ∃ K5, K5 = w5.heap.size := ⟨_, rfl⟩
  rw [← hK5] at b5 ⊢
  clear hK5
  generalize w5.alloc (.cells #[.int .i64 900, .int .i64 2250] 62) = w6 at *
  go_upto_region 4 with (first | (go_at_call 45; refine (HEX.out _).mono ?_; rintro e w7 ⟨rfl, hA7, hG7⟩) | (go_at_call 19; refine (HPU.out _ _ hA7).mono ?_; rintro e w8 ⟨g8, c8, rfl, hG8, hl8, q0, q1, q2⟩))
  have g8w := hG7.t hG8
  have b28 := b26.keep g8w
  have b58 := b5.keep g8w
  have HF := Lib.hid (gw6.t g8w)
  clear hA7 hG7 hG8 HPU HEX b26 b5 gw6
  have m0 := b28.cell 0
  have m1 := b28.cell 1
  have m2 := b28.cell 2
  have m3 := b28.cell 3
  have lm := b28.lt
  have n0 := b58.cell 0
  have n1 := b58.cell 1
  have ln := b58.lt
  go_wp2_with fail
  first | (go_ret; exact ⟨rfl, HF.out⟩) | trace_state
end Go.Proofs.YtnkmcoljijmgpaaGreat
