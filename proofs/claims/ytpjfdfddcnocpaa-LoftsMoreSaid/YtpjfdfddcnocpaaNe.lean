import Derived.Test.YtpjfdfddcnocpaaNc
set_option linter.unusedSimpArgs false
set_option linter.unusedVariables false
namespace Go.Proofs.Ytpjfdfddcnocpaa
open Go.RowKit
attribute [local go_sem] Oper.semAt_some

def ops3 : Array Oper := #[{ dst := some 33, op := Op.load 25 (Operand.tmp 3), type := 25, pos := "outright.go:128", after := #[], guard := none }, { dst := some 34, op := Op.call { callee := Callee.value (Operand.func 28), args := #[Operand.tmp 33], argTypes := #[25] }, type := 25, pos := "outright.go:128", after := #[{ on := 0, ground := Ground.data }], guard := none }, { dst := some 35, op := Op.load 25 (Operand.tmp 3), type := 25, pos := "outright.go:128", after := #[], guard := none }, { dst := some 36, op := Op.call { callee := Callee.value (Operand.func 28), args := #[Operand.tmp 35], argTypes := #[25] }, type := 25, pos := "outright.go:128", after := #[{ on := 2, ground := Ground.data }, { on := 1, ground := Ground.chain }], guard := none }, { dst := some 7, op := Op.alloc 25, type := 0, pos := "outright.go:128", after := #[], guard := none }, { dst := some 8, op := Op.alloc 25, type := 0, pos := "outright.go:128", after := #[], guard := none }, { dst := none, op := Op.store 25 (Operand.tmp 7) (Operand.tmp 34), type := 0, pos := "outright.go:128", after := #[{ on := 4, ground := Ground.data }, { on := 1, ground := Ground.data }, { on := 3, ground := Ground.chain }, { on := 0, ground := Ground.phase }, { on := 1, ground := Ground.phase }, { on := 2, ground := Ground.textOnly Departure.lateStores }, { on := 3, ground := Ground.textOnly Departure.lateStoresUnsure }, { on := 4, ground := Ground.phase }, { on := 5, ground := Ground.phase }], guard := none }, { dst := none, op := Op.store 25 (Operand.tmp 8) (Operand.tmp 36), type := 0, pos := "outright.go:128", after := #[{ on := 5, ground := Ground.data }, { on := 3, ground := Ground.data }, { on := 6, ground := Ground.chain }, { on := 0, ground := Ground.phase }, { on := 1, ground := Ground.phase }, { on := 2, ground := Ground.phase }, { on := 3, ground := Ground.phase }, { on := 4, ground := Ground.phase }, { on := 5, ground := Ground.phase }, { on := 6, ground := Ground.phase }], guard := none }]
/-- a copy of the map lies in memory -/
def CpAt (north cols lofts wrong : Int) (east : List Int) (svs : List Sv) (B : Nat) (v : Value) (W : World) : Prop :=
  ∃ gE capE curE gS capS curS, v = .agg #[.int .i64 north, .int .i64 cols, .slice (some ⟨gE, 0, none⟩) east.length capE, .int .i64 lofts, .slice (some ⟨gS, 0, none⟩) svs.length capS, .int .i64 wrong] ∧ B ≤ gE ∧ Blk W gE 3 curE ∧ curE.toList.take east.length = east.map (Value.int .i64) ∧ B ≤ gS ∧ OwnSv W gS capS curS svs
theorem CpAt.keep {north cols lofts wrong : Int} {east : List Int} {svs : List Sv} {B : Nat} {v : Value} {W W' : World} (h : CpAt north cols lofts wrong east svs B v W) (k : G W W') : CpAt north cols lofts wrong east svs B v W' := by
  obtain ⟨gE, capE, curE, gS, capS, curS, h1, h2, h3, h4, h5, h6⟩ := h
  exact ⟨gE, capE, curE, gS, capS, curS, h1, h2, h3.keep k, h4, h5, h6.keep k⟩
theorem wpAnyY_at {P : Program} {md : Region.Mode} {ops : Array Oper} {Q : Exit → Act → World → Prop} {S : World → Prop} {z fuel : Nat} {l : Array Bool} {a : Act} {w : World} (rs : List Nat) (hr : Region.ready md ops l = rs) (hne : rs ≠ [])
    (h : ∀ j ∈ rs, wpOp P ops Q j (fun a' w' => ((l.setIfInBounds j true).getD z false = false → S w') ∧ wpAnyY P md ops Q S z fuel (l.setIfInBounds j true) a' w') a w) : wpAnyY P md ops Q S z (fuel + 1) l a w :=
  ⟨fun h0 => absurd (hr.symm.trans h0) hne, fun j hj => h j (by rw [hr] at hj; exact hj)⟩
/-- the block of a map's surveys -/
def ownS : Value → Option Nat
  | .agg cs => match (cs[4]? : Option Value) with
    | some (Value.slice (some a) _ _) => some a.block
    | _ => none
  | _ => none
section
variable {S : World → Prop} {north cols lofts wrong : Int} {east : List Int} {svs : List Sv} {ea sa : Option Addr} {ec sc : Nat} {w0 : World} {Q : Exit → Act → World → Prop} {T : Value → Value → Value → Value → Array Value}
/-- the state: the two copies, the two boxes -/
def S3 (north cols lofts wrong : Int) (east : List Int) (svs : List Sv) (w0 : World) (c : Nat) (x4 x5 : Bool) (v34 v36 v7 v8 : Value) (W : World) : Prop :=
  G w0 W ∧ (1 ≤ c → CpAt north cols lofts wrong east svs w0.heap.size v34 W) ∧ (2 ≤ c → CpAt north cols lofts wrong east svs w0.heap.size v36 W) ∧
  (x4 = true → ∃ n, v7 = .pointer (some ⟨n, 0, none⟩) ∧ w0.heap.size ≤ n ∧ Blk W n 25 #[.int .i64 0, .int .i64 0, .slice none 0 0, .int .i64 0, .slice none 0 0, .int .i64 0]) ∧ (x5 = true → ∃ n, v8 = .pointer (some ⟨n, 0, none⟩) ∧ w0.heap.size ≤ n ∧ Blk W n 25 #[.int .i64 0, .int .i64 0, .slice none 0 0, .int .i64 0, .slice none 0 0, .int .i64 0]) ∧
  (x4 = true → x5 = true → v7 ≠ v8) ∧ (2 ≤ c → ownS v34 ≠ ownS v36)
variable (hT34 : ∀ a b c d v, (T a b c d).setIfInBounds 34 v = T v b c d) (hT36 : ∀ a b c d v, (T a b c d).setIfInBounds 36 v = T a v c d) (hT7 : ∀ a b c d v, (T a b c d).setIfInBounds 7 v = T a b v d) (hT8 : ∀ a b c d v, (T a b c d).setIfInBounds 8 v = T a b c v)
  (h33 : ∀ a b c d, (T a b c d).getD 33 undef = .agg #[.int .i64 north, .int .i64 cols, .slice ea east.length ec, .int .i64 lofts, .slice sa svs.length sc, .int .i64 wrong]) (h35 : ∀ a b c d, (T a b c d).getD 35 undef = .agg #[.int .i64 north, .int .i64 cols, .slice ea east.length ec, .int .i64 lofts, .slice sa svs.length sc, .int .i64 wrong])
  (h34 : ∀ a b c d, (T a b c d).getD 34 undef = a) (h36 : ∀ a b c d, (T a b c d).getD 36 undef = b) (h7 : ∀ a b c d, (T a b c d).getD 7 undef = c) (h8 : ∀ a b c d, (T a b c d).getD 8 undef = d)
set_option maxRecDepth 100000 in
include hT34 h33 in
theorem op3_1 (HCp : ∀ W, G w0 W → Calls Try.prog 28 #[.agg #[.int .i64 north, .int .i64 cols, .slice ea east.length ec, .int .i64 lofts, .slice sa svs.length sc, .int .i64 wrong]] W (CopyFull north cols lofts wrong east svs W)) {x4 x5 : Bool} {v34 v36 v7 v8 : Value} {W : World} {K : Act → World → Prop} (hS : S3 north cols lofts wrong east svs w0 0 x4 x5 v34 v36 v7 v8 W)
    (hK : ∀ v W', S3 north cols lofts wrong east svs w0 1 x4 x5 v v36 v7 v8 W' → K ⟨T v v36 v7 v8, []⟩ W') : wpOp Try.prog ops3 Q 1 K ⟨T v34 v36 v7 v8, []⟩ W := by
  refine wpOp_step (o := { dst := some 34, op := Op.call { callee := Callee.value (Operand.func 28), args := #[Operand.tmp 33], argTypes := #[25] }, type := 25, pos := "outright.go:128", after := #[{ on := 0, ground := Ground.data }], guard := none }) rfl fun K' hK' => ?_
  rw [if_pos (show Region.wanted ({ dst := some 34, op := Op.call { callee := Callee.value (Operand.func 28), args := #[Operand.tmp 33], argTypes := #[25] }, type := 25, pos := "outright.go:128", after := #[{ on := 0, ground := Ground.data }], guard := none }) _ = true from rfl)]
  obtain ⟨g, p1, p2, p4, p5, p6, p7⟩ := hS
  have e33 := h33 v34 v36 v7 v8
  have eT := hT34 v34 v36 v7 v8
  have HC := Lib.hid (HCp W g)
  have HS := Lib.hid (And.intro p1 (And.intro p2 (And.intro p4 (And.intro p5 (And.intro p6 p7)))))
  clear p1 p2 p4 p5 p6 p7
  rw [Array.getD_eq_getD_getElem?] at e33
  go_simp
  refine HC.out.mono ?_
  rintro e w1 ⟨gE, capE, curE, gS, capS, curS, rfl, hgE, bE, hcE, hG1, hgS, bS⟩
  try simp only [Act.put, eT]
  obtain ⟨p1, p2, p4, p5, p6, p7⟩ := HS.out
  refine hK' _ _ (hK _ _ ⟨g.t hG1, fun _ => ⟨gE, capE, curE, gS, capS, curS, rfl, by have := g.size; omega, bE, hcE, by have := g.size; omega, bS⟩, fun h => by omega, fun h => (p4 h).imp fun n ⟨a, b, c⟩ => ⟨a, b, c.keep hG1⟩, fun h => (p5 h).imp fun n ⟨a, b, c⟩ => ⟨a, b, c.keep hG1⟩, p6, fun h => by omega⟩)
set_option maxRecDepth 100000 in
include hT36 h35 in
theorem op3_3 (HCp : ∀ W, G w0 W → Calls Try.prog 28 #[.agg #[.int .i64 north, .int .i64 cols, .slice ea east.length ec, .int .i64 lofts, .slice sa svs.length sc, .int .i64 wrong]] W (CopyFull north cols lofts wrong east svs W)) {x4 x5 : Bool} {v34 v36 v7 v8 : Value} {W : World} {K : Act → World → Prop} (hS : S3 north cols lofts wrong east svs w0 1 x4 x5 v34 v36 v7 v8 W)
    (hK : ∀ v W', S3 north cols lofts wrong east svs w0 2 x4 x5 v34 v v7 v8 W' → K ⟨T v34 v v7 v8, []⟩ W') : wpOp Try.prog ops3 Q 3 K ⟨T v34 v36 v7 v8, []⟩ W := by
  refine wpOp_step (o := { dst := some 36, op := Op.call { callee := Callee.value (Operand.func 28), args := #[Operand.tmp 35], argTypes := #[25] }, type := 25, pos := "outright.go:128", after := #[{ on := 2, ground := Ground.data }, { on := 1, ground := Ground.chain }], guard := none }) rfl fun K' hK' => ?_
  rw [if_pos (show Region.wanted ({ dst := some 36, op := Op.call { callee := Callee.value (Operand.func 28), args := #[Operand.tmp 35], argTypes := #[25] }, type := 25, pos := "outright.go:128", after := #[{ on := 2, ground := Ground.data }, { on := 1, ground := Ground.chain }], guard := none }) _ = true from rfl)]
  obtain ⟨g, p1, p2, p4, p5, p6, p7⟩ := hS
  have e33 := h35 v34 v36 v7 v8
  have eT := hT36 v34 v36 v7 v8
  have HC := Lib.hid (HCp W g)
  have HS := Lib.hid (And.intro p1 (And.intro p2 (And.intro p4 (And.intro p5 (And.intro p6 p7)))))
  clear p1 p2 p4 p5 p6 p7
  rw [Array.getD_eq_getD_getElem?] at e33
  go_simp
  refine HC.out.mono ?_
  rintro e w1 ⟨gE, capE, curE, gS, capS, curS, rfl, hgE, bE, hcE, hG1, hgS, bS⟩
  try simp only [Act.put, eT]
  obtain ⟨p1, p2, p4, p5, p6, p7⟩ := HS.out
  refine hK' _ _ (hK _ _ ⟨g.t hG1, fun _ => (p1 (by omega)).keep hG1, fun _ => ⟨gE, capE, curE, gS, capS, curS, rfl, by have := g.size; omega, bE, hcE, by have := g.size; omega, bS⟩, fun h => (p4 h).imp fun n ⟨a, b, c⟩ => ⟨a, b, c.keep hG1⟩, fun h => (p5 h).imp fun n ⟨a, b, c⟩ => ⟨a, b, c.keep hG1⟩, p6, fun _ => by obtain ⟨xE, yE, zE, xS, yS, zS, e, _, _, _, _, hx⟩ := p1 (by omega); subst e; have := hx.1.lt; intro e; have e : some xS = some gS := e; injection e with e; omega⟩)
set_option maxRecDepth 100000 in
include hT7 in
theorem op3_4 {c : Nat} {x4 x5 : Bool} {v34 v36 v7 v8 : Value} {W : World} {K : Act → World → Prop} (hS : S3 north cols lofts wrong east svs w0 c x4 x5 v34 v36 v7 v8 W)
    (hK : ∀ v W', S3 north cols lofts wrong east svs w0 c true x5 v34 v36 v v8 W' → K ⟨T v34 v36 v v8, []⟩ W') : wpOp Try.prog ops3 Q 4 K ⟨T v34 v36 v7 v8, []⟩ W := by
  refine wpOp_step (o := { dst := some 7, op := Op.alloc 25, type := 0, pos := "outright.go:128", after := #[], guard := none }) rfl fun K' hK' => ?_
  rw [if_pos (show Region.wanted ({ dst := some 7, op := Op.alloc 25, type := 0, pos := "outright.go:128", after := #[], guard := none }) _ = true from rfl)]
  have eT := hT7 v34 v36 v7 v8
  have HS := Lib.hid hS
  clear hS
  go_simp
  try simp only [Act.put, eT]
  obtain ⟨g, p1, p2, p4, p5, p6, p7⟩ := HS.out
  have hG1 : G W (W.alloc (.cells #[.int .i64 0, .int .i64 0, .slice none 0 0, .int .i64 0, .slice none 0 0, .int .i64 0] 25)) := (G.rf W).a _
  refine hK' _ _ (hK _ _ ⟨g.t hG1, fun h => (p1 h).keep hG1, fun h => (p2 h).keep hG1, fun _ => ⟨_, rfl, g.size, Blk.new W 25 _⟩, fun h => (p5 h).imp fun n ⟨a, b, c⟩ => ⟨a, b, c.keep hG1⟩, fun _ h e => by obtain ⟨n, e2, _, hb⟩ := p5 h; have := hb.lt; rw [e2] at e; cases e; omega, p7⟩)
set_option maxRecDepth 100000 in
include hT8 in
theorem op3_5 {c : Nat} {x4 x5 : Bool} {v34 v36 v7 v8 : Value} {W : World} {K : Act → World → Prop} (hS : S3 north cols lofts wrong east svs w0 c x4 x5 v34 v36 v7 v8 W)
    (hK : ∀ v W', S3 north cols lofts wrong east svs w0 c x4 true v34 v36 v7 v W' → K ⟨T v34 v36 v7 v, []⟩ W') : wpOp Try.prog ops3 Q 5 K ⟨T v34 v36 v7 v8, []⟩ W := by
  refine wpOp_step (o := { dst := some 8, op := Op.alloc 25, type := 0, pos := "outright.go:128", after := #[], guard := none }) rfl fun K' hK' => ?_
  rw [if_pos (show Region.wanted ({ dst := some 8, op := Op.alloc 25, type := 0, pos := "outright.go:128", after := #[], guard := none }) _ = true from rfl)]
  have eT := hT8 v34 v36 v7 v8
  have HS := Lib.hid hS
  clear hS
  go_simp
  try simp only [Act.put, eT]
  obtain ⟨g, p1, p2, p4, p5, p6, p7⟩ := HS.out
  have hG1 : G W (W.alloc (.cells #[.int .i64 0, .int .i64 0, .slice none 0 0, .int .i64 0, .slice none 0 0, .int .i64 0] 25)) := (G.rf W).a _
  refine hK' _ _ (hK _ _ ⟨g.t hG1, fun h => (p1 h).keep hG1, fun h => (p2 h).keep hG1, fun h => (p4 h).imp fun n ⟨a, b, c⟩ => ⟨a, b, c.keep hG1⟩, fun _ => ⟨_, rfl, g.size, Blk.new W 25 _⟩, fun h _ e => by obtain ⟨n, e2, _, hb⟩ := p4 h; have := hb.lt; rw [e2] at e; cases e; omega, p7⟩)
set_option maxRecDepth 100000 in
set_option maxHeartbeats 1000000 in
include h34 h36 h7 h8 in
theorem end3 {v34 v36 v7 v8 : Value} {W : World} (HSW : ∀ W, G w0 W → S W) (hS : S3 north cols lofts wrong east svs w0 2 true true v34 v36 v7 v8 W)
    (hfin : ∀ n7 n8 gE capE curE gS capS curS gE' capE' curE' gS' capS' curS' W', v34 = .agg #[.int .i64 north, .int .i64 cols, .slice (some ⟨gE, 0, none⟩) east.length capE, .int .i64 lofts, .slice (some ⟨gS, 0, none⟩) svs.length capS, .int .i64 wrong] → v36 = .agg #[.int .i64 north, .int .i64 cols, .slice (some ⟨gE', 0, none⟩) east.length capE', .int .i64 lofts, .slice (some ⟨gS', 0, none⟩) svs.length capS', .int .i64 wrong] → v7 = .pointer (some ⟨n7, 0, none⟩) → v8 = .pointer (some ⟨n8, 0, none⟩) → n7 ≠ n8 → gS ≠ gS' → w0.heap.size ≤ n7 → w0.heap.size ≤ n8 → G w0 W' → Blk W' n7 25 #[.int .i64 north, .int .i64 cols, .slice (some ⟨gE, 0, none⟩) east.length capE, .int .i64 lofts, .slice (some ⟨gS, 0, none⟩) svs.length capS, .int .i64 wrong] → Blk W' n8 25 #[.int .i64 north, .int .i64 cols, .slice (some ⟨gE', 0, none⟩) east.length capE', .int .i64 lofts, .slice (some ⟨gS', 0, none⟩) svs.length capS', .int .i64 wrong] →
      w0.heap.size ≤ gE → Blk W' gE 3 curE → curE.toList.take east.length = east.map (Value.int .i64) → w0.heap.size ≤ gS → OwnSv W' gS capS curS svs → w0.heap.size ≤ gE' → Blk W' gE' 3 curE' → curE'.toList.take east.length = east.map (Value.int .i64) → w0.heap.size ≤ gS' → OwnSv W' gS' capS' curS' svs → Q .normal ⟨T v34 v36 v7 v8, []⟩ W') :
    wpAnyY Try.prog .any ops3 Q S 7 2 #[true, true, true, true, true, true, false, false] ⟨T v34 v36 v7 v8, []⟩ W := by
  obtain ⟨g, p1, p2, p4, p5, p6, p7⟩ := hS
  obtain ⟨gE, capE, curE, gS, capS, curS, rfl, a1, a2, a3, a4, a5⟩ := p1 (by omega)
  obtain ⟨gE', capE', curE', gS', capS', curS', rfl, c1, c2, c3, c4, c5⟩ := p2 (by omega)
  obtain ⟨n7, rfl, l7, B7⟩ := p4 rfl
  obtain ⟨n8, rfl, l8, B8⟩ := p5 rfl
  have hne : n7 ≠ n8 := fun e => p6 rfl rfl (by rw [e])
  have hSS : gS ≠ gS' := fun e => p7 (by omega) (by rw [e]; rfl)
  clear p1 p2 p4 p5 p6 p7
  have e34 := h34 (.agg #[.int .i64 north, .int .i64 cols, .slice (some ⟨gE, 0, none⟩) east.length capE, .int .i64 lofts, .slice (some ⟨gS, 0, none⟩) svs.length capS, .int .i64 wrong]) (.agg #[.int .i64 north, .int .i64 cols, .slice (some ⟨gE', 0, none⟩) east.length capE', .int .i64 lofts, .slice (some ⟨gS', 0, none⟩) svs.length capS', .int .i64 wrong]) (.pointer (some ⟨n7, 0, none⟩)) (.pointer (some ⟨n8, 0, none⟩))
  have e36 := h36 (.agg #[.int .i64 north, .int .i64 cols, .slice (some ⟨gE, 0, none⟩) east.length capE, .int .i64 lofts, .slice (some ⟨gS, 0, none⟩) svs.length capS, .int .i64 wrong]) (.agg #[.int .i64 north, .int .i64 cols, .slice (some ⟨gE', 0, none⟩) east.length capE', .int .i64 lofts, .slice (some ⟨gS', 0, none⟩) svs.length capS', .int .i64 wrong]) (.pointer (some ⟨n7, 0, none⟩)) (.pointer (some ⟨n8, 0, none⟩))
  have e7 := h7 (.agg #[.int .i64 north, .int .i64 cols, .slice (some ⟨gE, 0, none⟩) east.length capE, .int .i64 lofts, .slice (some ⟨gS, 0, none⟩) svs.length capS, .int .i64 wrong]) (.agg #[.int .i64 north, .int .i64 cols, .slice (some ⟨gE', 0, none⟩) east.length capE', .int .i64 lofts, .slice (some ⟨gS', 0, none⟩) svs.length capS', .int .i64 wrong]) (.pointer (some ⟨n7, 0, none⟩)) (.pointer (some ⟨n8, 0, none⟩))
  have e8 := h8 (.agg #[.int .i64 north, .int .i64 cols, .slice (some ⟨gE, 0, none⟩) east.length capE, .int .i64 lofts, .slice (some ⟨gS, 0, none⟩) svs.length capS, .int .i64 wrong]) (.agg #[.int .i64 north, .int .i64 cols, .slice (some ⟨gE', 0, none⟩) east.length capE', .int .i64 lofts, .slice (some ⟨gS', 0, none⟩) svs.length capS', .int .i64 wrong]) (.pointer (some ⟨n7, 0, none⟩)) (.pointer (some ⟨n8, 0, none⟩))
  rw [Array.getD_eq_getD_getElem?] at e34 e36 e7 e8
  clear h34 h36 h7 h8
  generalize T (.agg #[.int .i64 north, .int .i64 cols, .slice (some ⟨gE, 0, none⟩) east.length capE, .int .i64 lofts, .slice (some ⟨gS, 0, none⟩) svs.length capS, .int .i64 wrong]) (.agg #[.int .i64 north, .int .i64 cols, .slice (some ⟨gE', 0, none⟩) east.length capE', .int .i64 lofts, .slice (some ⟨gS', 0, none⟩) svs.length capS', .int .i64 wrong]) (.pointer (some ⟨n7, 0, none⟩)) (.pointer (some ⟨n8, 0, none⟩)) = tm at *
  refine wpAnyY_at [6] (by kernel_rfl) (by simp) fun j hj => ?_
  obtain rfl : j = 6 := by simpa using hj
  refine wpOp_step (o := { dst := none, op := Op.store 25 (Operand.tmp 7) (Operand.tmp 34), type := 0, pos := "outright.go:128", after := #[{ on := 4, ground := Ground.data }, { on := 1, ground := Ground.data }, { on := 3, ground := Ground.chain }, { on := 0, ground := Ground.phase }, { on := 1, ground := Ground.phase }, { on := 2, ground := Ground.textOnly Departure.lateStores }, { on := 3, ground := Ground.textOnly Departure.lateStoresUnsure }, { on := 4, ground := Ground.phase }, { on := 5, ground := Ground.phase }], guard := none }) rfl fun K' hK' => ?_
  rw [if_pos (show Region.wanted ({ dst := none, op := Op.store 25 (Operand.tmp 7) (Operand.tmp 34), type := 0, pos := "outright.go:128", after := #[{ on := 4, ground := Ground.data }, { on := 1, ground := Ground.data }, { on := 3, ground := Ground.chain }, { on := 0, ground := Ground.phase }, { on := 1, ground := Ground.phase }, { on := 2, ground := Ground.textOnly Departure.lateStores }, { on := 3, ground := Ground.textOnly Departure.lateStoresUnsure }, { on := 4, ground := Ground.phase }, { on := 5, ground := Ground.phase }], guard := none }) _ = true from rfl)]
  have d0 := B7.cell 0
  have d1 := B7.cell 1
  have d2 := B7.cell 2
  have d3 := B7.cell 3
  have d4 := B7.cell 4
  have d5 := B7.cell 5
  have z0 := B7.frozen 0
  have z1 := B7.frozen 1
  have z2 := B7.frozen 2
  have z3 := B7.frozen 3
  have z4 := B7.frozen 4
  have z5 := B7.frozen 5
  have lB := B7.lt
  have HF := Lib.hid hfin
  clear hfin hj
  go_simp
  refine hK' _ _ ?_
  clear d0 d1 d2 d3 d4 d5 z0 z1 z2 z3 z4 z5 lB
  have k7 : Blk ((((((W.setCell ⟨n7, 0, none⟩ (.int .i64 north)).setCell ⟨n7, 1, none⟩ (.int .i64 cols)).setCell ⟨n7, 2, none⟩ (.slice (some ⟨gE, 0, none⟩) east.length capE)).setCell ⟨n7, 3, none⟩ (.int .i64 lofts)).setCell ⟨n7, 4, none⟩ (.slice (some ⟨gS, 0, none⟩) svs.length capS)).setCell ⟨n7, 5, none⟩ (.int .i64 wrong)) n7 25 #[.int .i64 north, .int .i64 cols, .slice (some ⟨gE, 0, none⟩) east.length capE, .int .i64 lofts, .slice (some ⟨gS, 0, none⟩) svs.length capS, .int .i64 wrong] := ((((((B7.set_ 0 (.int .i64 north)).set_ 1 (.int .i64 cols)).set_ 2 (.slice (some ⟨gE, 0, none⟩) east.length capE)).set_ 3 (.int .i64 lofts)).set_ 4 (.slice (some ⟨gS, 0, none⟩) svs.length capS)).set_ 5 (.int .i64 wrong))
  have k8 := ((((((B8.far (p := ⟨n7, 0, none⟩) (fun e => hne e.symm) (.int .i64 north)).far (p := ⟨n7, 1, none⟩) (fun e => hne e.symm) (.int .i64 cols)).far (p := ⟨n7, 2, none⟩) (fun e => hne e.symm) (.slice (some ⟨gE, 0, none⟩) east.length capE)).far (p := ⟨n7, 3, none⟩) (fun e => hne e.symm) (.int .i64 lofts)).far (p := ⟨n7, 4, none⟩) (fun e => hne e.symm) (.slice (some ⟨gS, 0, none⟩) svs.length capS)).far (p := ⟨n7, 5, none⟩) (fun e => hne e.symm) (.int .i64 wrong))
  have kE := ((((((a2.far (p := ⟨n7, 0, none⟩) (a2.ne B7 (by decide)) (.int .i64 north)).far (p := ⟨n7, 1, none⟩) (a2.ne B7 (by decide)) (.int .i64 cols)).far (p := ⟨n7, 2, none⟩) (a2.ne B7 (by decide)) (.slice (some ⟨gE, 0, none⟩) east.length capE)).far (p := ⟨n7, 3, none⟩) (a2.ne B7 (by decide)) (.int .i64 lofts)).far (p := ⟨n7, 4, none⟩) (a2.ne B7 (by decide)) (.slice (some ⟨gS, 0, none⟩) svs.length capS)).far (p := ⟨n7, 5, none⟩) (a2.ne B7 (by decide)) (.int .i64 wrong))
  have kS := ((((((a5.1.far (p := ⟨n7, 0, none⟩) (a5.1.ne B7 (by decide)) (.int .i64 north)).far (p := ⟨n7, 1, none⟩) (a5.1.ne B7 (by decide)) (.int .i64 cols)).far (p := ⟨n7, 2, none⟩) (a5.1.ne B7 (by decide)) (.slice (some ⟨gE, 0, none⟩) east.length capE)).far (p := ⟨n7, 3, none⟩) (a5.1.ne B7 (by decide)) (.int .i64 lofts)).far (p := ⟨n7, 4, none⟩) (a5.1.ne B7 (by decide)) (.slice (some ⟨gS, 0, none⟩) svs.length capS)).far (p := ⟨n7, 5, none⟩) (a5.1.ne B7 (by decide)) (.int .i64 wrong))
  have kE' := ((((((c2.far (p := ⟨n7, 0, none⟩) (c2.ne B7 (by decide)) (.int .i64 north)).far (p := ⟨n7, 1, none⟩) (c2.ne B7 (by decide)) (.int .i64 cols)).far (p := ⟨n7, 2, none⟩) (c2.ne B7 (by decide)) (.slice (some ⟨gE, 0, none⟩) east.length capE)).far (p := ⟨n7, 3, none⟩) (c2.ne B7 (by decide)) (.int .i64 lofts)).far (p := ⟨n7, 4, none⟩) (c2.ne B7 (by decide)) (.slice (some ⟨gS, 0, none⟩) svs.length capS)).far (p := ⟨n7, 5, none⟩) (c2.ne B7 (by decide)) (.int .i64 wrong))
  have kS' := ((((((c5.1.far (p := ⟨n7, 0, none⟩) (c5.1.ne B7 (by decide)) (.int .i64 north)).far (p := ⟨n7, 1, none⟩) (c5.1.ne B7 (by decide)) (.int .i64 cols)).far (p := ⟨n7, 2, none⟩) (c5.1.ne B7 (by decide)) (.slice (some ⟨gE, 0, none⟩) east.length capE)).far (p := ⟨n7, 3, none⟩) (c5.1.ne B7 (by decide)) (.int .i64 lofts)).far (p := ⟨n7, 4, none⟩) (c5.1.ne B7 (by decide)) (.slice (some ⟨gS, 0, none⟩) svs.length capS)).far (p := ⟨n7, 5, none⟩) (c5.1.ne B7 (by decide)) (.int .i64 wrong))
  have gg := ((((((g.s (p := ⟨n7, 0, none⟩) l7 (.int .i64 north)).s (p := ⟨n7, 1, none⟩) l7 (.int .i64 cols)).s (p := ⟨n7, 2, none⟩) l7 (.slice (some ⟨gE, 0, none⟩) east.length capE)).s (p := ⟨n7, 3, none⟩) l7 (.int .i64 lofts)).s (p := ⟨n7, 4, none⟩) l7 (.slice (some ⟨gS, 0, none⟩) svs.length capS)).s (p := ⟨n7, 5, none⟩) l7 (.int .i64 wrong))
  generalize ((((((W.setCell ⟨n7, 0, none⟩ (.int .i64 north)).setCell ⟨n7, 1, none⟩ (.int .i64 cols)).setCell ⟨n7, 2, none⟩ (.slice (some ⟨gE, 0, none⟩) east.length capE)).setCell ⟨n7, 3, none⟩ (.int .i64 lofts)).setCell ⟨n7, 4, none⟩ (.slice (some ⟨gS, 0, none⟩) svs.length capS)).setCell ⟨n7, 5, none⟩ (.int .i64 wrong)) = W6 at *
  refine ⟨fun _ => HSW _ gg, ?_⟩
  refine wpAnyY_at [7] (by kernel_rfl) (by simp) fun j hj => ?_
  obtain rfl : j = 7 := by simpa using hj
  refine wpOp_step (o := { dst := none, op := Op.store 25 (Operand.tmp 8) (Operand.tmp 36), type := 0, pos := "outright.go:128", after := #[{ on := 5, ground := Ground.data }, { on := 3, ground := Ground.data }, { on := 6, ground := Ground.chain }, { on := 0, ground := Ground.phase }, { on := 1, ground := Ground.phase }, { on := 2, ground := Ground.phase }, { on := 3, ground := Ground.phase }, { on := 4, ground := Ground.phase }, { on := 5, ground := Ground.phase }, { on := 6, ground := Ground.phase }], guard := none }) rfl fun K' hK' => ?_
  rw [if_pos (show Region.wanted ({ dst := none, op := Op.store 25 (Operand.tmp 8) (Operand.tmp 36), type := 0, pos := "outright.go:128", after := #[{ on := 5, ground := Ground.data }, { on := 3, ground := Ground.data }, { on := 6, ground := Ground.chain }, { on := 0, ground := Ground.phase }, { on := 1, ground := Ground.phase }, { on := 2, ground := Ground.phase }, { on := 3, ground := Ground.phase }, { on := 4, ground := Ground.phase }, { on := 5, ground := Ground.phase }, { on := 6, ground := Ground.phase }], guard := none }) _ = true from rfl)]
  have d0 := k8.cell 0
  have d1 := k8.cell 1
  have d2 := k8.cell 2
  have d3 := k8.cell 3
  have d4 := k8.cell 4
  have d5 := k8.cell 5
  have z0 := k8.frozen 0
  have z1 := k8.frozen 1
  have z2 := k8.frozen 2
  have z3 := k8.frozen 3
  have z4 := k8.frozen 4
  have z5 := k8.frozen 5
  have lB := k8.lt
  clear hj
  go_simp
  refine hK' _ _ ⟨fun h => (by cases h), ?_⟩
  refine ⟨by kernel_rfl, ?_⟩
  exact HF.out n7 n8 gE capE curE gS capS curS gE' capE' curE' gS' capS' curS' _ rfl rfl rfl rfl hne hSS l7 l8 (((((((gg.s (p := ⟨n8, 0, none⟩) l8 (.int .i64 north)).s (p := ⟨n8, 1, none⟩) l8 (.int .i64 cols)).s (p := ⟨n8, 2, none⟩) l8 (.slice (some ⟨gE', 0, none⟩) east.length capE')).s (p := ⟨n8, 3, none⟩) l8 (.int .i64 lofts)).s (p := ⟨n8, 4, none⟩) l8 (.slice (some ⟨gS', 0, none⟩) svs.length capS')).s (p := ⟨n8, 5, none⟩) l8 (.int .i64 wrong))) (((((((k7.far (p := ⟨n8, 0, none⟩) hne (.int .i64 north)).far (p := ⟨n8, 1, none⟩) hne (.int .i64 cols)).far (p := ⟨n8, 2, none⟩) hne (.slice (some ⟨gE', 0, none⟩) east.length capE')).far (p := ⟨n8, 3, none⟩) hne (.int .i64 lofts)).far (p := ⟨n8, 4, none⟩) hne (.slice (some ⟨gS', 0, none⟩) svs.length capS')).far (p := ⟨n8, 5, none⟩) hne (.int .i64 wrong))) (((((((k8.set_ 0 (.int .i64 north)).set_ 1 (.int .i64 cols)).set_ 2 (.slice (some ⟨gE', 0, none⟩) east.length capE')).set_ 3 (.int .i64 lofts)).set_ 4 (.slice (some ⟨gS', 0, none⟩) svs.length capS')).set_ 5 (.int .i64 wrong))) a1 (((((((kE.far (p := ⟨n8, 0, none⟩) (kE.ne k8 (by decide)) (.int .i64 north)).far (p := ⟨n8, 1, none⟩) (kE.ne k8 (by decide)) (.int .i64 cols)).far (p := ⟨n8, 2, none⟩) (kE.ne k8 (by decide)) (.slice (some ⟨gE', 0, none⟩) east.length capE')).far (p := ⟨n8, 3, none⟩) (kE.ne k8 (by decide)) (.int .i64 lofts)).far (p := ⟨n8, 4, none⟩) (kE.ne k8 (by decide)) (.slice (some ⟨gS', 0, none⟩) svs.length capS')).far (p := ⟨n8, 5, none⟩) (kE.ne k8 (by decide)) (.int .i64 wrong))) a3 a4 ⟨((((((kS.far (p := ⟨n8, 0, none⟩) (kS.ne k8 (by decide)) (.int .i64 north)).far (p := ⟨n8, 1, none⟩) (kS.ne k8 (by decide)) (.int .i64 cols)).far (p := ⟨n8, 2, none⟩) (kS.ne k8 (by decide)) (.slice (some ⟨gE', 0, none⟩) east.length capE')).far (p := ⟨n8, 3, none⟩) (kS.ne k8 (by decide)) (.int .i64 lofts)).far (p := ⟨n8, 4, none⟩) (kS.ne k8 (by decide)) (.slice (some ⟨gS', 0, none⟩) svs.length capS')).far (p := ⟨n8, 5, none⟩) (kS.ne k8 (by decide)) (.int .i64 wrong)), a5.2⟩ c1 (((((((kE'.far (p := ⟨n8, 0, none⟩) (kE'.ne k8 (by decide)) (.int .i64 north)).far (p := ⟨n8, 1, none⟩) (kE'.ne k8 (by decide)) (.int .i64 cols)).far (p := ⟨n8, 2, none⟩) (kE'.ne k8 (by decide)) (.slice (some ⟨gE', 0, none⟩) east.length capE')).far (p := ⟨n8, 3, none⟩) (kE'.ne k8 (by decide)) (.int .i64 lofts)).far (p := ⟨n8, 4, none⟩) (kE'.ne k8 (by decide)) (.slice (some ⟨gS', 0, none⟩) svs.length capS')).far (p := ⟨n8, 5, none⟩) (kE'.ne k8 (by decide)) (.int .i64 wrong))) c3 c4 ⟨((((((kS'.far (p := ⟨n8, 0, none⟩) (kS'.ne k8 (by decide)) (.int .i64 north)).far (p := ⟨n8, 1, none⟩) (kS'.ne k8 (by decide)) (.int .i64 cols)).far (p := ⟨n8, 2, none⟩) (kS'.ne k8 (by decide)) (.slice (some ⟨gE', 0, none⟩) east.length capE')).far (p := ⟨n8, 3, none⟩) (kS'.ne k8 (by decide)) (.int .i64 lofts)).far (p := ⟨n8, 4, none⟩) (kS'.ne k8 (by decide)) (.slice (some ⟨gS', 0, none⟩) svs.length capS')).far (p := ⟨n8, 5, none⟩) (kS'.ne k8 (by decide)) (.int .i64 wrong)), c5.2⟩
include hT34 hT36 hT7 hT8 h33 h35 h34 h36 h7 h8 in
set_option maxRecDepth 100000 in
set_option maxHeartbeats 2000000 in
theorem reg3 (HSW : ∀ W, G w0 W → S W) (HCp : ∀ W, G w0 W → Calls Try.prog 28 #[.agg #[.int .i64 north, .int .i64 cols, .slice ea east.length ec, .int .i64 lofts, .slice sa svs.length sc, .int .i64 wrong]] W (CopyFull north cols lofts wrong east svs W)) (HFIN : ∀ n7 n8 gE capE curE gS capS curS gE' capE' curE' gS' capS' curS' W', n7 ≠ n8 → gS ≠ gS' → w0.heap.size ≤ n7 → w0.heap.size ≤ n8 → G w0 W' → Blk W' n7 25 #[.int .i64 north, .int .i64 cols, .slice (some ⟨gE, 0, none⟩) east.length capE, .int .i64 lofts, .slice (some ⟨gS, 0, none⟩) svs.length capS, .int .i64 wrong] → Blk W' n8 25 #[.int .i64 north, .int .i64 cols, .slice (some ⟨gE', 0, none⟩) east.length capE', .int .i64 lofts, .slice (some ⟨gS', 0, none⟩) svs.length capS', .int .i64 wrong] → w0.heap.size ≤ gE → Blk W' gE 3 curE → curE.toList.take east.length = east.map (Value.int .i64) → w0.heap.size ≤ gS → OwnSv W' gS capS curS svs → w0.heap.size ≤ gE' → Blk W' gE' 3 curE' → curE'.toList.take east.length = east.map (Value.int .i64) → w0.heap.size ≤ gS' → OwnSv W' gS' capS' curS' svs → Q .normal ⟨T (.agg #[.int .i64 north, .int .i64 cols, .slice (some ⟨gE, 0, none⟩) east.length capE, .int .i64 lofts, .slice (some ⟨gS, 0, none⟩) svs.length capS, .int .i64 wrong]) (.agg #[.int .i64 north, .int .i64 cols, .slice (some ⟨gE', 0, none⟩) east.length capE', .int .i64 lofts, .slice (some ⟨gS', 0, none⟩) svs.length capS', .int .i64 wrong]) (.pointer (some ⟨n7, 0, none⟩)) (.pointer (some ⟨n8, 0, none⟩)), []⟩ W') {W : World} (hS : S3 north cols lofts wrong east svs w0 0 false false undef undef undef undef W) : wpAnyY Try.prog .any ops3 Q S 7 6 #[true, false, true, false, false, false, false, false] ⟨T undef undef undef undef, []⟩ W := by
  have s211 : ∀ v34 v36 v7 v8 W, S3 north cols lofts wrong east svs w0 2 true true v34 v36 v7 v8 W → wpAnyY Try.prog .any ops3 Q S 7 2 #[true, true, true, true, true, true, false, false] ⟨T v34 v36 v7 v8, []⟩ W := fun v34 v36 v7 v8 W hS => by
    refine end3 h34 h36 h7 h8 HSW hS fun n7 n8 gE capE curE gS capS curS gE' capE' curE' gS' capS' curS' W' h1 h2 h3 h4 r1 rS r2 r3 r4 r5 r6 r7 r8 r9 q1 q2 q3 q4 q5 q6 q7 => ?_
    subst h1 h2 h3 h4
    exact HFIN n7 n8 gE capE curE gS capS curS gE' capE' curE' gS' capS' curS' W' r1 rS r2 r3 r4 r5 r6 r7 r8 r9 q1 q2 q3 q4 q5 q6 q7
  have s210 : ∀ v34 v36 v7 v8 W, S3 north cols lofts wrong east svs w0 2 true false v34 v36 v7 v8 W → wpAnyY Try.prog .any ops3 Q S 7 3 #[true, true, true, true, true, false, false, false] ⟨T v34 v36 v7 v8, []⟩ W := fun v34 v36 v7 v8 W hS => by
    refine wpAnyY_at [5] (by kernel_rfl) (by simp) fun j hj => ?_
    obtain rfl : j = 5 := by simpa using hj
    · exact op3_5 hT8 hS fun v W' h => ⟨fun _ => HSW _ h.1, s211 v34 v36 v7 v W' h⟩
  have s201 : ∀ v34 v36 v7 v8 W, S3 north cols lofts wrong east svs w0 2 false true v34 v36 v7 v8 W → wpAnyY Try.prog .any ops3 Q S 7 3 #[true, true, true, true, false, true, false, false] ⟨T v34 v36 v7 v8, []⟩ W := fun v34 v36 v7 v8 W hS => by
    refine wpAnyY_at [4] (by kernel_rfl) (by simp) fun j hj => ?_
    obtain rfl : j = 4 := by simpa using hj
    · exact op3_4 hT7 hS fun v W' h => ⟨fun _ => HSW _ h.1, s211 v34 v36 v v8 W' h⟩
  have s200 : ∀ v34 v36 v7 v8 W, S3 north cols lofts wrong east svs w0 2 false false v34 v36 v7 v8 W → wpAnyY Try.prog .any ops3 Q S 7 4 #[true, true, true, true, false, false, false, false] ⟨T v34 v36 v7 v8, []⟩ W := fun v34 v36 v7 v8 W hS => by
    refine wpAnyY_at [4, 5] (by kernel_rfl) (by simp) fun j hj => ?_
    have hj2 : j = 4 ∨ j = 5 := by simpa using hj
    rcases hj2 with rfl | rfl
    · exact op3_4 hT7 hS fun v W' h => ⟨fun _ => HSW _ h.1, s210 v34 v36 v v8 W' h⟩
    · exact op3_5 hT8 hS fun v W' h => ⟨fun _ => HSW _ h.1, s201 v34 v36 v7 v W' h⟩
  have s111 : ∀ v34 v36 v7 v8 W, S3 north cols lofts wrong east svs w0 1 true true v34 v36 v7 v8 W → wpAnyY Try.prog .any ops3 Q S 7 3 #[true, true, true, false, true, true, false, false] ⟨T v34 v36 v7 v8, []⟩ W := fun v34 v36 v7 v8 W hS => by
    refine wpAnyY_at [3] (by kernel_rfl) (by simp) fun j hj => ?_
    obtain rfl : j = 3 := by simpa using hj
    · exact op3_3 hT36 h35 HCp hS fun v W' h => ⟨fun _ => HSW _ h.1, s211 v34 v v7 v8 W' h⟩
  have s110 : ∀ v34 v36 v7 v8 W, S3 north cols lofts wrong east svs w0 1 true false v34 v36 v7 v8 W → wpAnyY Try.prog .any ops3 Q S 7 4 #[true, true, true, false, true, false, false, false] ⟨T v34 v36 v7 v8, []⟩ W := fun v34 v36 v7 v8 W hS => by
    refine wpAnyY_at [3, 5] (by kernel_rfl) (by simp) fun j hj => ?_
    have hj2 : j = 3 ∨ j = 5 := by simpa using hj
    rcases hj2 with rfl | rfl
    · exact op3_3 hT36 h35 HCp hS fun v W' h => ⟨fun _ => HSW _ h.1, s210 v34 v v7 v8 W' h⟩
    · exact op3_5 hT8 hS fun v W' h => ⟨fun _ => HSW _ h.1, s111 v34 v36 v7 v W' h⟩
  have s101 : ∀ v34 v36 v7 v8 W, S3 north cols lofts wrong east svs w0 1 false true v34 v36 v7 v8 W → wpAnyY Try.prog .any ops3 Q S 7 4 #[true, true, true, false, false, true, false, false] ⟨T v34 v36 v7 v8, []⟩ W := fun v34 v36 v7 v8 W hS => by
    refine wpAnyY_at [3, 4] (by kernel_rfl) (by simp) fun j hj => ?_
    have hj2 : j = 3 ∨ j = 4 := by simpa using hj
    rcases hj2 with rfl | rfl
    · exact op3_3 hT36 h35 HCp hS fun v W' h => ⟨fun _ => HSW _ h.1, s201 v34 v v7 v8 W' h⟩
    · exact op3_4 hT7 hS fun v W' h => ⟨fun _ => HSW _ h.1, s111 v34 v36 v v8 W' h⟩
  have s100 : ∀ v34 v36 v7 v8 W, S3 north cols lofts wrong east svs w0 1 false false v34 v36 v7 v8 W → wpAnyY Try.prog .any ops3 Q S 7 5 #[true, true, true, false, false, false, false, false] ⟨T v34 v36 v7 v8, []⟩ W := fun v34 v36 v7 v8 W hS => by
    refine wpAnyY_at [3, 4, 5] (by kernel_rfl) (by simp) fun j hj => ?_
    have hj2 : j = 3 ∨ j = 4 ∨ j = 5 := by simpa using hj
    rcases hj2 with rfl | rfl | rfl
    · exact op3_3 hT36 h35 HCp hS fun v W' h => ⟨fun _ => HSW _ h.1, s200 v34 v v7 v8 W' h⟩
    · exact op3_4 hT7 hS fun v W' h => ⟨fun _ => HSW _ h.1, s110 v34 v36 v v8 W' h⟩
    · exact op3_5 hT8 hS fun v W' h => ⟨fun _ => HSW _ h.1, s101 v34 v36 v7 v W' h⟩
  have s011 : ∀ v34 v36 v7 v8 W, S3 north cols lofts wrong east svs w0 0 true true v34 v36 v7 v8 W → wpAnyY Try.prog .any ops3 Q S 7 4 #[true, false, true, false, true, true, false, false] ⟨T v34 v36 v7 v8, []⟩ W := fun v34 v36 v7 v8 W hS => by
    refine wpAnyY_at [1] (by kernel_rfl) (by simp) fun j hj => ?_
    obtain rfl : j = 1 := by simpa using hj
    · exact op3_1 hT34 h33 HCp hS fun v W' h => ⟨fun _ => HSW _ h.1, s111 v v36 v7 v8 W' h⟩
  have s010 : ∀ v34 v36 v7 v8 W, S3 north cols lofts wrong east svs w0 0 true false v34 v36 v7 v8 W → wpAnyY Try.prog .any ops3 Q S 7 5 #[true, false, true, false, true, false, false, false] ⟨T v34 v36 v7 v8, []⟩ W := fun v34 v36 v7 v8 W hS => by
    refine wpAnyY_at [1, 5] (by kernel_rfl) (by simp) fun j hj => ?_
    have hj2 : j = 1 ∨ j = 5 := by simpa using hj
    rcases hj2 with rfl | rfl
    · exact op3_1 hT34 h33 HCp hS fun v W' h => ⟨fun _ => HSW _ h.1, s110 v v36 v7 v8 W' h⟩
    · exact op3_5 hT8 hS fun v W' h => ⟨fun _ => HSW _ h.1, s011 v34 v36 v7 v W' h⟩
  have s001 : ∀ v34 v36 v7 v8 W, S3 north cols lofts wrong east svs w0 0 false true v34 v36 v7 v8 W → wpAnyY Try.prog .any ops3 Q S 7 5 #[true, false, true, false, false, true, false, false] ⟨T v34 v36 v7 v8, []⟩ W := fun v34 v36 v7 v8 W hS => by
    refine wpAnyY_at [1, 4] (by kernel_rfl) (by simp) fun j hj => ?_
    have hj2 : j = 1 ∨ j = 4 := by simpa using hj
    rcases hj2 with rfl | rfl
    · exact op3_1 hT34 h33 HCp hS fun v W' h => ⟨fun _ => HSW _ h.1, s101 v v36 v7 v8 W' h⟩
    · exact op3_4 hT7 hS fun v W' h => ⟨fun _ => HSW _ h.1, s011 v34 v36 v v8 W' h⟩
  have s000 : ∀ v34 v36 v7 v8 W, S3 north cols lofts wrong east svs w0 0 false false v34 v36 v7 v8 W → wpAnyY Try.prog .any ops3 Q S 7 6 #[true, false, true, false, false, false, false, false] ⟨T v34 v36 v7 v8, []⟩ W := fun v34 v36 v7 v8 W hS => by
    refine wpAnyY_at [1, 4, 5] (by kernel_rfl) (by simp) fun j hj => ?_
    have hj2 : j = 1 ∨ j = 4 ∨ j = 5 := by simpa using hj
    rcases hj2 with rfl | rfl | rfl
    · exact op3_1 hT34 h33 HCp hS fun v W' h => ⟨fun _ => HSW _ h.1, s100 v v36 v7 v8 W' h⟩
    · exact op3_4 hT7 hS fun v W' h => ⟨fun _ => HSW _ h.1, s010 v34 v36 v v8 W' h⟩
    · exact op3_5 hT8 hS fun v W' h => ⟨fun _ => HSW _ h.1, s001 v34 v36 v7 v W' h⟩
  exact s000 _ _ _ _ W hS
end
end Go.Proofs.Ytpjfdfddcnocpaa
