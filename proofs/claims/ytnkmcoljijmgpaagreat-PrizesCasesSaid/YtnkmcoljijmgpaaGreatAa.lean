import Derived.Test.YtnkmcoljijmgpaaGreatKa
set_option linter.unusedSimpArgs false
set_option linter.unusedVariables false
namespace Go.Proofs.YtnkmcoljijmgpaaGreat
open Go.RowKit Go.Shelf
attribute [local go_sem] Oper.semAt_some
/-- a racer as it lies -/
structure Rc where
  bird : Int
  owner : Int
  rank : Int
  day : Int
  pa : Option Addr
  pc : Nat
  pools : List Int
instance : Inhabited Rc := ⟨⟨0, 0, 0, 0, none, 0, []⟩⟩
def Rc.v (x : Rc) : Array Value := #[.int .i64 x.bird, .int .i64 x.owner, .int .i64 x.rank, .int .i64 x.day, .slice x.pa x.pools.length x.pc]
/-- a pool as it lies -/
structure Po where
  stake : Int
  cut : Int
  kind : Int
  ta : Option Addr
  tc : Nat
  table : List Int
  quota : Int
  first : Bool
instance : Inhabited Po := ⟨⟨0, 0, 0, none, 0, [], 0, false⟩⟩
def Po.v (x : Po) : Array Value := #[.int .i64 x.stake, .int .i64 x.cut, .int .i64 x.kind, .slice x.ta x.table.length x.tc, .int .i64 x.quota, .bool x.first]
/-- a row of structs: element i's cells -/
def RowE {α : Type} [Inhabited α] (v : α → Array Value) (k : Nat) (W : World) (a : Option Addr) (l : List α) : Prop :=
  l.length = 0 ∨ ∃ g off, a = some ⟨g, off, none⟩ ∧ g < W.heap.size ∧ ∀ i, i < l.length → ∀ r, r < k → W.cell? ⟨g, off + i * k + r, none⟩ = (v (l.getD i default))[r]?
theorem RowE.below {α : Type} [Inhabited α] {v : α → Array Value} {k : Nat} {W W' : World} {a : Option Addr} {l : List α} (h : RowE v k W a l) (hG : G W W') : RowE v k W' a l := by
  rcases h with h | ⟨g, off, h1, h2, h3⟩
  · exact .inl h
  · exact .inr ⟨g, off, h1, Nat.lt_of_lt_of_le h2 hG.size, fun i hi r hr => ((bcellB hG).1 g _ h2).trans (h3 i hi r hr)⟩
structure RcsAt (W : World) (a : Option Addr) (l : List Rc) : Prop where
  row : RowE Rc.v 5 W a l
  pools : ∀ i, i < l.length → IntsAt W (l.getD i default).pa (l.getD i default).pools
structure PosAt (W : World) (a : Option Addr) (l : List Po) : Prop where
  row : RowE Po.v 6 W a l
  tables : ∀ i, i < l.length → IntsAt W (l.getD i default).ta (l.getD i default).table
theorem RcsAt.below {W W' : World} {a : Option Addr} {l : List Rc} (h : RcsAt W a l) (hG : G W W') : RcsAt W' a l := ⟨h.row.below hG, fun i hi => (h.pools i hi).below hG⟩
theorem PosAt.below {W W' : World} {a : Option Addr} {l : List Po} (h : PosAt W a l) (hG : G W W') : PosAt W' a l := ⟨h.row.below hG, fun i hi => (h.tables i hi).below hG⟩
/-- a race as it lies -/
structure Ra where
  ra : Option Addr
  rc : Nat
  racers : List Rc
  pa : Option Addr
  pc : Nat
  pools : List Po
  ta : Option Addr
  tc : Nat
  protests : List Int
def Ra.v (r : Ra) : Array Value := #[.slice r.ra r.racers.length r.rc, .slice r.pa r.pools.length r.pc, .slice r.ta r.protests.length r.tc]
structure Ra.At (r : Ra) (W : World) : Prop where
  rs : RcsAt W r.ra r.racers
  ps : PosAt W r.pa r.pools
  ts : IntsAt W r.ta r.protests
  nr : r.racers.length ≤ 1000
  cr : r.racers.length ≤ r.rc
  ct : r.protests.length ≤ r.tc
  np : r.pools.length ≤ 1000
  nt : r.protests.length ≤ 1000
  nq : ∀ i, i < r.racers.length → (r.racers.getD i default).pools.length ≤ 1000
  nb : ∀ i, i < r.pools.length → (r.pools.getD i default).table.length ≤ 1000
theorem Ra.At.keep {r : Ra} {W W' : World} (h : r.At W) (hG : G W W') : r.At W' := ⟨h.rs.below hG, h.ps.below hG, h.ts.below hG, h.nr, h.cr, h.ct, h.np, h.nt, h.nq, h.nb⟩
/-- all elements -/
def allU (p : Nat → Bool) (n : Nat) : Bool := !anyU (fun i => !p i) n
theorem allU_iff {p : Nat → Bool} {n : Nat} : allU p n = true ↔ ∀ i, i < n → p i = true := by
  unfold allU anyU
  rw [Bool.not_eq_true', List.any_eq_false]
  exact ⟨fun h i hi => by simpa using h i (List.mem_range.2 hi), fun h i hi => by simpa using h i (List.mem_range.1 hi)⟩
theorem isIn_any (n lo hi : Int) (w : World) : Calls Tryz.prog 94 #[.int .i64 n, .int .i64 lo, .int .i64 hi] w fun e w' => e = .returned (.bool (isInB n lo hi)) ∧ G w w' := by
  by_cases h1 : lo ≤ n
  · go_enter Tryz.func94, Tryz.ntmps94
    go_wp2
    go_ret
    exact ⟨by simp [isInB, h1], G.rf _⟩
  · go_enter Tryz.func94, Tryz.ntmps94
    go_wp2
    go_ret
    exact ⟨by rw [show isInB n lo hi = false by unfold isInB; simp; omega]; rfl, G.rf _⟩
/-- sum of a list of small numbers -/
def sumTo (l : List Int) (k : Nat) : Int := (l.take k).sum
theorem sumTo_succ (l : List Int) (k : Nat) (h : k < l.length) : sumTo l (k + 1) = sumTo l k + l.getD k 0 := by
  unfold sumTo
  rw [List.take_add_one, List.sum_append]
  simp [List.getElem?_eq_getElem h, List.getD_eq_getElem?_getD]
set_option maxHeartbeats 1000000 in
theorem sum_any (l : List Int) (a : Option Addr) (cap : Nat) (w : World) (h : IntsAt w a l) (hl : l.length ≤ 1000) (hb : ∀ k, k ≤ l.length → -1000000000 ≤ sumTo l k ∧ sumTo l k ≤ 1000000000) :
    Calls Tryz.prog 75 #[.slice a l.length cap] w fun e w' => e = .returned (.int .i64 l.sum) ∧ G w w' := by
  have HB := Lib.hid hb
  have HF : Hid (sumTo l l.length = l.sum) := by show _ = _; unfold sumTo; rw [List.take_length]
  clear hb
  go_enter Tryz.func75, Tryz.ntmps75
  go_wp2_with fail
  go_loopw [3, 8] (fun s i wr => ∃ k : Nat, k ≤ l.length ∧ s = .int .i64 (sumTo l k) ∧ i = .int .i64 k ∧ G w wr) (fun _ i _ => l.length - (intOf i).toNat)
  case atStart => exact ⟨0, Nat.zero_le _, rfl, rfl, G.rf _⟩
  case round =>
    obtain ⟨k, hk, rfl, rfl, hG⟩ := hrel
    by_cases hlt : k < l.length
    · have hki : (k : Int) < l.length := by omega
      rcases h with rfl | ⟨g, off, rfl, hg, hcell⟩
      · simp at hlt
      have c0 := ((bcellB hG).1 g _ hg).trans (hcell k hlt)
      have lg := Nat.lt_of_lt_of_le hg hG.size
      have HS := Lib.hid (sumTo_succ l k hlt)
      have hb2 := HB.out (k + 1) (by omega)
      rw [HS.out] at hb2
      have x1 : IntKind.i64.wrap (sumTo l k + l.getD k 0) = sumTo l k + l.getD k 0 := IntWalk.i64_in _ (by omega)
      obtain ⟨y, hy⟩ : ∃ y, y = l.getD k 0 := ⟨_, rfl⟩
      rw [← hy] at c0 HS x1
      clear hcell hb2 hy
      go_wp2_with fail
      go_roundw
      case rel => exact ⟨k + 1, by omega, by rw [HS.out], by go_num, hG⟩
      case measure => simp [intOf] <;> omega
    · obtain rfl : k = l.length := by omega
      have hki : ¬ ((l.length : Nat) : Int) < l.length := by omega
      go_wp2_with fail
      go_ret
      exact ⟨by rw [HF.out]; rfl, hG⟩
set_option maxRecDepth 100000 in
set_option maxHeartbeats 4000000 in
theorem IdxInt_any (C : FuncId) (eg : ∀ args w, (callFunc C args).run Tryz.prog w = .ok (.enter C args) w) (lb : Array Value) (W : World) (a : Option Addr) (cap : Nat) (l : List Int) (p : Nat → Bool) (hn : l.length ≤ 1000) (ha : IntsAt W a l)
    (hc : ∀ W', G W W' → ∀ i, i < l.length → Calls Tryz.prog C (#[.int .i64 (l.getD i 0)] ++ lb) W' fun e w' => e = .returned (.bool (p i)) ∧ G W' w') :
    Calls Tryz.prog 117 #[.slice a l.length cap, .func (.func C) #[] lb] W fun e w' => ∃ r : Int, e = .returned (.int .i64 r) ∧ decide (0 ≤ r) = anyU p l.length ∧ G W w' := by
  have HC := Lib.hid hc
  clear hc
  go_enter Tryz.func117, Tryz.ntmps117
  go_wp2
  go_loopw [8] (fun i wr => ∃ k : Nat, k ≤ l.length ∧ i = .int .i64 k ∧ Hid (∀ j, j < k → p j = false) ∧ G W wr) (fun i _ => l.length - (intOf i).toNat)
  case atStart => exact ⟨0, Nat.zero_le _, rfl, fun j hj => by omega, G.rf _⟩
  case round =>
    obtain ⟨k, hk, rfl, hno, hG⟩ := hrel
    by_cases hlt : k < l.length
    · have hki : (k : Int) < l.length := by omega
      rcases ha with rfl | ⟨g, off, rfl, hg, hcell⟩
      · simp at hlt
      have lg := Nat.lt_of_lt_of_le hg hG.size
      have q0 := ((bcellB hG).1 g _ hg).trans (hcell k hlt)
      have HC2 := Lib.hid (HC.out wr hG k hlt)
      obtain ⟨y, hy⟩ : ∃ y, y = l.getD k 0 := ⟨_, rfl⟩
      rw [← hy] at q0 HC2
      clear hy
      clear hcell HC
      cases hp : p k
      · rw [hp] at HC2
        have HP := Lib.hid hp
        clear hp
        go_wp2_with (go_at_fn C; refine (HC2.out).mono ?_; rintro e w1 ⟨rfl, hG1⟩)
        go_roundw
        case rel => exact ⟨k + 1, by omega, by go_num, fun j hj => by
          rcases Nat.lt_or_ge j k with h | h
          · exact hno.out j h
          · obtain rfl : j = k := by omega
            exact HP.out, hG.t hG1⟩
        case measure => simp [intOf] <;> omega
      · rw [hp] at HC2
        have HP := Lib.hid (anyU_yes hlt hp)
        clear hp
        go_wp2_with (go_at_fn C; refine (HC2.out).mono ?_; rintro e w1 ⟨rfl, hG1⟩)
        go_ret
        exact ⟨k, rfl, by rw [HP.out]; simp, hG.t hG1⟩
    · have hki : ¬ (k : Int) < l.length := by omega
      obtain rfl : k = l.length := by omega
      have HP := Lib.hid (anyU_no hno.out)
      go_wp2
      go_ret
      exact ⟨-1, rfl, by rw [HP.out]; rfl, hG⟩
theorem CtInt_any (C : FuncId) (eg : ∀ args w, (callFunc C args).run Tryz.prog w = .ok (.enter C args) w) (lb : Array Value) (W : World) (a : Option Addr) (cap : Nat) (l : List Int) (p : Nat → Bool) (hn : l.length ≤ 1000) (ha : IntsAt W a l)
    (hc : ∀ W', G W W' → ∀ i, i < l.length → Calls Tryz.prog C (#[.int .i64 (l.getD i 0)] ++ lb) W' fun e w' => e = .returned (.bool (p i)) ∧ G W' w') :
    Calls Tryz.prog 95 #[.slice a l.length cap, .func (.func C) #[] lb] W fun e w' => e = .returned (.bool (anyU p l.length)) ∧ G W w' := by
  have HI := Lib.hid (IdxInt_any C eg lb W a cap l p hn ha hc)
  clear ha hc
  go_enter Tryz.func95, Tryz.ntmps95
  go_wp2_with (go_at_call 117; refine (HI.out).mono ?_; rintro e w1 ⟨r, rfl, hr, hG1⟩; have HR := Lib.hid hr; clear hr)
  go_ret
  exact ⟨by rw [← HR.out]; first | rfl | simp, hG1⟩
theorem negInt (C : FuncId) (eg : ∀ args w, (callFunc C args).run Tryz.prog w = .ok (.enter C args) w) (lb : Array Value) (B : Nat) (x : Int) (b : Bool) (W : World) (hB : Blk W B 118 #[.func (.func C) #[] lb])
    (hc : ∀ W', G W W' → Calls Tryz.prog C (#[.int .i64 x] ++ lb) W' fun e w' => e = .returned (.bool b) ∧ G W' w') :
    Calls Tryz.prog 96 #[.int .i64 x, .pointer (some ⟨B, 0, none⟩)] W fun e w' => e = .returned (.bool (!b)) ∧ G W w' := by
  have HC := Lib.hid (hc W (G.rf _))
  have m0 := hB.cell 0
  have l0 := hB.lt
  clear hc
  go_enter Tryz.func96, Tryz.ntmps96
  go_wp2_with (go_at_fn C; refine (HC.out).mono ?_; rintro e w1 ⟨rfl, hG1⟩)
  go_ret
  exact ⟨rfl, hG1⟩
theorem eachInt_any (C : FuncId) (eg : ∀ args w, (callFunc C args).run Tryz.prog w = .ok (.enter C args) w) (lb : Array Value) (W : World) (a : Option Addr) (cap : Nat) (l : List Int) (p : Nat → Bool) (hn : l.length ≤ 1000) (ha : IntsAt W a l)
    (hc : ∀ W', G W W' → ∀ i, i < l.length → Calls Tryz.prog C (#[.int .i64 (l.getD i 0)] ++ lb) W' fun e w' => e = .returned (.bool (p i)) ∧ G W' w') :
    Calls Tryz.prog 71 #[.slice a l.length cap, .func (.func C) #[] lb] W fun e w' => e = .returned (.bool (allU p l.length)) ∧ G W w' := by
  have g0 : G W (W.alloc (.cells #[.func (.func C) #[] lb] 118)) := (G.rf _).a _
  have b0 : Blk (W.alloc (.cells #[.func (.func C) #[] lb] 118)) W.heap.size 118 #[.func (.func C) #[] lb] := Blk.new _ _ _
  have HCT := Lib.hid (CtInt_any 96 (enters_of Tryz.func96 (by kernel_rfl) rfl) #[.pointer (some ⟨W.heap.size, 0, none⟩)] (W.alloc (.cells #[.func (.func C) #[] lb] 118)) a cap l (fun i => !p i) hn (ha.below g0) (fun W' hW i hi => negInt C eg lb W.heap.size _ (p i) W' (b0.keep hW) (fun W2 h2 => hc W2 (g0.t (hW.t h2)) i hi)))
  clear ha hc
  go_enter Tryz.func71, Tryz.ntmps71
  go_wp2_with (go_at_call 95; refine (HCT.out).mono ?_; rintro e w1 ⟨rfl, hG1⟩)
  go_ret
  exact ⟨rfl, g0.t hG1⟩
set_option maxRecDepth 100000 in
set_option maxHeartbeats 4000000 in
theorem IdxPo_any (C : FuncId) (eg : ∀ args w, (callFunc C args).run Tryz.prog w = .ok (.enter C args) w) (lb : Array Value) (W : World) (a : Option Addr) (cap : Nat) (l : List Po) (p : Nat → Bool) (hn : l.length ≤ 1000) (ha : RowE Po.v 6 W a l)
    (hc : ∀ W', G W W' → ∀ i, i < l.length → Calls Tryz.prog C (#[.agg (l.getD i default).v] ++ lb) W' fun e w' => e = .returned (.bool (p i)) ∧ G W' w') :
    Calls Tryz.prog 147 #[.slice a l.length cap, .func (.func C) #[] lb] W fun e w' => ∃ r : Int, e = .returned (.int .i64 r) ∧ decide (0 ≤ r) = anyU p l.length ∧ G W w' := by
  have HC := Lib.hid hc
  clear hc
  go_enter Tryz.func147, Tryz.ntmps147
  go_wp2
  go_loopw [8] (fun i wr => ∃ k : Nat, k ≤ l.length ∧ i = .int .i64 k ∧ Hid (∀ j, j < k → p j = false) ∧ G W wr) (fun i _ => l.length - (intOf i).toNat)
  case atStart => exact ⟨0, Nat.zero_le _, rfl, fun j hj => by omega, G.rf _⟩
  case round =>
    obtain ⟨k, hk, rfl, hno, hG⟩ := hrel
    by_cases hlt : k < l.length
    · have hki : (k : Int) < l.length := by omega
      rcases ha with h | ⟨g, off, rfl, hg, hcell⟩
      · omega
      have lg := Nat.lt_of_lt_of_le hg hG.size
      have hcl := fun r hr => ((bcellB hG).1 g _ hg).trans (hcell k hlt r hr)
      have HC2 := Lib.hid (HC.out wr hG k hlt)
      obtain ⟨y, hy⟩ : ∃ y, y = l.getD k default := ⟨_, rfl⟩
      rw [← hy] at hcl HC2
      clear hy
      obtain ⟨ystake, ycut, ykind, yta, ytc, ytable, yquota, yfirst⟩ := y
      unfold Po.v at HC2 hcl
      have q0 : wr.cell? ⟨g, off + k * 6, none⟩ = some (.int .i64 ystake) := hcl 0 (by omega)
      have q1 : wr.cell? ⟨g, off + k * 6 + 1, none⟩ = some (.int .i64 ycut) := hcl 1 (by omega)
      have q2 : wr.cell? ⟨g, off + k * 6 + 2, none⟩ = some (.int .i64 ykind) := hcl 2 (by omega)
      have q3 : wr.cell? ⟨g, off + k * 6 + 3, none⟩ = some (.slice yta ytable.length ytc) := hcl 3 (by omega)
      have q4 : wr.cell? ⟨g, off + k * 6 + 4, none⟩ = some (.int .i64 yquota) := hcl 4 (by omega)
      have q5 : wr.cell? ⟨g, off + k * 6 + 5, none⟩ = some (.bool yfirst) := hcl 5 (by omega)
      clear hcl
      clear hcell HC
      cases hp : p k
      · rw [hp] at HC2
        have HP := Lib.hid hp
        clear hp
        go_wp2_with (go_at_fn C; refine (HC2.out).mono ?_; rintro e w1 ⟨rfl, hG1⟩)
        go_roundw
        case rel => exact ⟨k + 1, by omega, by go_num, fun j hj => by
          rcases Nat.lt_or_ge j k with h | h
          · exact hno.out j h
          · obtain rfl : j = k := by omega
            exact HP.out, hG.t hG1⟩
        case measure => simp [intOf] <;> omega
      · rw [hp] at HC2
        have HP := Lib.hid (anyU_yes hlt hp)
        clear hp
        go_wp2_with (go_at_fn C; refine (HC2.out).mono ?_; rintro e w1 ⟨rfl, hG1⟩)
        go_ret
        exact ⟨k, rfl, by rw [HP.out]; simp, hG.t hG1⟩
    · have hki : ¬ (k : Int) < l.length := by omega
      obtain rfl : k = l.length := by omega
      have HP := Lib.hid (anyU_no hno.out)
      go_wp2
      go_ret
      exact ⟨-1, rfl, by rw [HP.out]; rfl, hG⟩
theorem CtPo_any (C : FuncId) (eg : ∀ args w, (callFunc C args).run Tryz.prog w = .ok (.enter C args) w) (lb : Array Value) (W : World) (a : Option Addr) (cap : Nat) (l : List Po) (p : Nat → Bool) (hn : l.length ≤ 1000) (ha : RowE Po.v 6 W a l)
    (hc : ∀ W', G W W' → ∀ i, i < l.length → Calls Tryz.prog C (#[.agg (l.getD i default).v] ++ lb) W' fun e w' => e = .returned (.bool (p i)) ∧ G W' w') :
    Calls Tryz.prog 113 #[.slice a l.length cap, .func (.func C) #[] lb] W fun e w' => e = .returned (.bool (anyU p l.length)) ∧ G W w' := by
  have HI := Lib.hid (IdxPo_any C eg lb W a cap l p hn ha hc)
  clear ha hc
  go_enter Tryz.func113, Tryz.ntmps113
  go_wp2_with (go_at_call 147; refine (HI.out).mono ?_; rintro e w1 ⟨r, rfl, hr, hG1⟩; have HR := Lib.hid hr; clear hr)
  go_ret
  exact ⟨by rw [← HR.out]; first | rfl | simp, hG1⟩
theorem negPo (C : FuncId) (eg : ∀ args w, (callFunc C args).run Tryz.prog w = .ok (.enter C args) w) (lb : Array Value) (B : Nat) (x : Po) (b : Bool) (W : World) (hB : Blk W B 82 #[.func (.func C) #[] lb])
    (hc : ∀ W', G W W' → Calls Tryz.prog C (#[.agg x.v] ++ lb) W' fun e w' => e = .returned (.bool b) ∧ G W' w') :
    Calls Tryz.prog 114 #[.agg x.v, .pointer (some ⟨B, 0, none⟩)] W fun e w' => e = .returned (.bool (!b)) ∧ G W w' := by
  obtain ⟨ystake, ycut, ykind, yta, ytc, ytable, yquota, yfirst⟩ := x
  unfold Po.v at *
  have g0 : G W (W.alloc (.cells #[.int .i64 ystake, .int .i64 ycut, .int .i64 ykind, .slice yta ytable.length ytc, .int .i64 yquota, .bool yfirst] 42)) := (G.rf _).a _
  have HC := Lib.hid (hc _ g0)
  have b0 := hB.keep g0
  have m0 := b0.cell 0
  have l0 := b0.lt
  clear hc
  go_enter Tryz.func114, Tryz.ntmps114
  go_wp2_with (go_at_fn C; refine (HC.out).mono ?_; rintro e w1 ⟨rfl, hG1⟩)
  go_ret
  exact ⟨rfl, g0.t hG1⟩
theorem eachPo_any (C : FuncId) (eg : ∀ args w, (callFunc C args).run Tryz.prog w = .ok (.enter C args) w) (lb : Array Value) (W : World) (a : Option Addr) (cap : Nat) (l : List Po) (p : Nat → Bool) (hn : l.length ≤ 1000) (ha : RowE Po.v 6 W a l)
    (hc : ∀ W', G W W' → ∀ i, i < l.length → Calls Tryz.prog C (#[.agg (l.getD i default).v] ++ lb) W' fun e w' => e = .returned (.bool (p i)) ∧ G W' w') :
    Calls Tryz.prog 89 #[.slice a l.length cap, .func (.func C) #[] lb] W fun e w' => e = .returned (.bool (allU p l.length)) ∧ G W w' := by
  have g0 : G W (W.alloc (.cells #[.func (.func C) #[] lb] 82)) := (G.rf _).a _
  have b0 : Blk (W.alloc (.cells #[.func (.func C) #[] lb] 82)) W.heap.size 82 #[.func (.func C) #[] lb] := Blk.new _ _ _
  have HCT := Lib.hid (CtPo_any 114 (enters_of Tryz.func114 (by kernel_rfl) rfl) #[.pointer (some ⟨W.heap.size, 0, none⟩)] (W.alloc (.cells #[.func (.func C) #[] lb] 82)) a cap l (fun i => !p i) hn (ha.below g0) (fun W' hW i hi => negPo C eg lb W.heap.size _ (p i) W' (b0.keep hW) (fun W2 h2 => hc W2 (g0.t (hW.t h2)) i hi)))
  clear ha hc
  go_enter Tryz.func89, Tryz.ntmps89
  go_wp2_with (go_at_call 113; refine (HCT.out).mono ?_; rintro e w1 ⟨rfl, hG1⟩)
  go_ret
  exact ⟨rfl, g0.t hG1⟩
set_option maxRecDepth 100000 in
set_option maxHeartbeats 4000000 in
theorem IdxRc_any (C : FuncId) (eg : ∀ args w, (callFunc C args).run Tryz.prog w = .ok (.enter C args) w) (lb : Array Value) (W : World) (a : Option Addr) (cap : Nat) (l : List Rc) (p : Nat → Bool) (hn : l.length ≤ 1000) (ha : RowE Rc.v 5 W a l)
    (hc : ∀ W', G W W' → ∀ i, i < l.length → Calls Tryz.prog C (#[.agg (l.getD i default).v] ++ lb) W' fun e w' => e = .returned (.bool (p i)) ∧ G W' w') :
    Calls Tryz.prog 118 #[.slice a l.length cap, .func (.func C) #[] lb] W fun e w' => ∃ r : Int, e = .returned (.int .i64 r) ∧ decide (0 ≤ r) = anyU p l.length ∧ G W w' := by
  have HC := Lib.hid hc
  clear hc
  go_enter Tryz.func118, Tryz.ntmps118
  go_wp2
  go_loopw [8] (fun i wr => ∃ k : Nat, k ≤ l.length ∧ i = .int .i64 k ∧ Hid (∀ j, j < k → p j = false) ∧ G W wr) (fun i _ => l.length - (intOf i).toNat)
  case atStart => exact ⟨0, Nat.zero_le _, rfl, fun j hj => by omega, G.rf _⟩
  case round =>
    obtain ⟨k, hk, rfl, hno, hG⟩ := hrel
    by_cases hlt : k < l.length
    · have hki : (k : Int) < l.length := by omega
      rcases ha with h | ⟨g, off, rfl, hg, hcell⟩
      · omega
      have lg := Nat.lt_of_lt_of_le hg hG.size
      have hcl := fun r hr => ((bcellB hG).1 g _ hg).trans (hcell k hlt r hr)
      have HC2 := Lib.hid (HC.out wr hG k hlt)
      obtain ⟨y, hy⟩ : ∃ y, y = l.getD k default := ⟨_, rfl⟩
      rw [← hy] at hcl HC2
      clear hy
      obtain ⟨ybird, yowner, yrank, yday, ypa, ypc, ypools⟩ := y
      unfold Rc.v at HC2 hcl
      have q0 : wr.cell? ⟨g, off + k * 5, none⟩ = some (.int .i64 ybird) := hcl 0 (by omega)
      have q1 : wr.cell? ⟨g, off + k * 5 + 1, none⟩ = some (.int .i64 yowner) := hcl 1 (by omega)
      have q2 : wr.cell? ⟨g, off + k * 5 + 2, none⟩ = some (.int .i64 yrank) := hcl 2 (by omega)
      have q3 : wr.cell? ⟨g, off + k * 5 + 3, none⟩ = some (.int .i64 yday) := hcl 3 (by omega)
      have q4 : wr.cell? ⟨g, off + k * 5 + 4, none⟩ = some (.slice ypa ypools.length ypc) := hcl 4 (by omega)
      clear hcl
      clear hcell HC
      cases hp : p k
      · rw [hp] at HC2
        have HP := Lib.hid hp
        clear hp
        go_wp2_with (go_at_fn C; refine (HC2.out).mono ?_; rintro e w1 ⟨rfl, hG1⟩)
        go_roundw
        case rel => exact ⟨k + 1, by omega, by go_num, fun j hj => by
          rcases Nat.lt_or_ge j k with h | h
          · exact hno.out j h
          · obtain rfl : j = k := by omega
            exact HP.out, hG.t hG1⟩
        case measure => simp [intOf] <;> omega
      · rw [hp] at HC2
        have HP := Lib.hid (anyU_yes hlt hp)
        clear hp
        go_wp2_with (go_at_fn C; refine (HC2.out).mono ?_; rintro e w1 ⟨rfl, hG1⟩)
        go_ret
        exact ⟨k, rfl, by rw [HP.out]; simp, hG.t hG1⟩
    · have hki : ¬ (k : Int) < l.length := by omega
      obtain rfl : k = l.length := by omega
      have HP := Lib.hid (anyU_no hno.out)
      go_wp2
      go_ret
      exact ⟨-1, rfl, by rw [HP.out]; rfl, hG⟩
theorem CtRc_any (C : FuncId) (eg : ∀ args w, (callFunc C args).run Tryz.prog w = .ok (.enter C args) w) (lb : Array Value) (W : World) (a : Option Addr) (cap : Nat) (l : List Rc) (p : Nat → Bool) (hn : l.length ≤ 1000) (ha : RowE Rc.v 5 W a l)
    (hc : ∀ W', G W W' → ∀ i, i < l.length → Calls Tryz.prog C (#[.agg (l.getD i default).v] ++ lb) W' fun e w' => e = .returned (.bool (p i)) ∧ G W' w') :
    Calls Tryz.prog 97 #[.slice a l.length cap, .func (.func C) #[] lb] W fun e w' => e = .returned (.bool (anyU p l.length)) ∧ G W w' := by
  have HI := Lib.hid (IdxRc_any C eg lb W a cap l p hn ha hc)
  clear ha hc
  go_enter Tryz.func97, Tryz.ntmps97
  go_wp2_with (go_at_call 118; refine (HI.out).mono ?_; rintro e w1 ⟨r, rfl, hr, hG1⟩; have HR := Lib.hid hr; clear hr)
  go_ret
  exact ⟨by rw [← HR.out]; first | rfl | simp, hG1⟩
end Go.Proofs.YtnkmcoljijmgpaaGreat
set_option linter.unusedSimpArgs false
set_option linter.unusedVariables false
namespace Go.Proofs.YtnkmcoljijmgpaaGreat
open Go.RowKit Go.Shelf
attribute [local go_sem] Oper.semAt_some
/-- ascending, each above the one before -/
def ascB (l : List Int) : Bool := allU (fun i => decide (i = 0) || decide (l.getD (i - 1) 0 < l.getD i 0)) l.length
set_option maxRecDepth 100000 in
set_option maxHeartbeats 4000000 in
theorem asc_any (l : List Int) (a : Option Addr) (cap : Nat) (w : World) (h : IntsAt w a l) (hl : l.length ≤ 1000) : Calls Tryz.prog 92 #[.slice a l.length cap] w fun e w' => e = .returned (.bool (ascB l)) ∧ G w w' := by
  go_enter Tryz.func92, Tryz.ntmps92
  go_wp2_with fail
  go_loopw [6] (fun i wr => ∃ k : Nat, k ≤ l.length ∧ i = .int .i64 k ∧ Hid (∀ j, j < k → (decide (j = 0) || decide (l.getD (j - 1) 0 < l.getD j 0)) = true) ∧ G w wr) (fun i _ => l.length - (intOf i).toNat)
  case atStart => exact ⟨0, Nat.zero_le _, rfl, fun j hj => by omega, G.rf _⟩
  case round =>
    obtain ⟨k, hk, rfl, hno, hG⟩ := hrel
    obtain ⟨wo, rfl⟩ : ∃ wo, wo = wr := ⟨_, rfl⟩
    by_cases hlt : k < l.length
    · have hki : (k : Int) < l.length := by omega
      rcases h with rfl | ⟨g, off, rfl, hg, hcell⟩
      · simp at hlt
      have lg := Nat.lt_of_lt_of_le hg hG.size
      by_cases h0 : k = 0
      · subst h0
        have hki0 : ¬ (0 : Int) < ((0 : Nat) : Int) := by omega
        clear hcell
        go_upto_region 4 with fail
        refine wp_region_Y (S := fun W' => True) 13 14 rfl (by kernel_rfl) trivial (fun hS => ?_)
        have ga := (G.rf wo).d
        refine wpAnyY_take (i := 0) (v := ?_) rfl (by kernel_rfl) (by kernel_rfl) (by kernel_rfl) (by kernel_rfl) (fun _ _ _ h => h) (Or.inl ⟨by kernel_rfl, ?_⟩) hS ?_
        rotate_left
        · intro w' hSw; go_simp; with_reducible rfl
        try simp only [Act.put, List.getElem_toArray, List.getElem_cons_zero, List.getElem_cons_succ, List.setIfInBounds_toArray, List.set_cons_zero, List.set_cons_succ]
        refine wpAnyY_take (i := 1) (v := ?_) rfl (by kernel_rfl) (by kernel_rfl) (by kernel_rfl) (by kernel_rfl) (fun _ _ _ h => h) (Or.inl ⟨by kernel_rfl, ?_⟩) hS ?_
        rotate_left
        · intro w' hSw; go_simp; with_reducible rfl
        try simp only [Act.put, List.getElem_toArray, List.getElem_cons_zero, List.getElem_cons_succ, List.setIfInBounds_toArray, List.set_cons_zero, List.set_cons_succ]
        refine wpAnyY_take (i := 2) (v := ?_) rfl (by kernel_rfl) (by kernel_rfl) (by kernel_rfl) (by kernel_rfl) (fun _ _ _ h => h) (Or.inl ⟨by kernel_rfl, ?_⟩) hS ?_
        rotate_left
        · intro w' hSw; go_simp; with_reducible rfl
        try simp only [Act.put, List.getElem_toArray, List.getElem_cons_zero, List.getElem_cons_succ, List.setIfInBounds_toArray, List.set_cons_zero, List.set_cons_succ]
        refine wpAnyY_take (i := 3) (v := undef) rfl (by kernel_rfl) (by kernel_rfl) (by kernel_rfl) (by kernel_rfl) (fun _ _ _ h => h) (Or.inr ⟨by kernel_rfl, rfl⟩) hS ?_
        try simp only [Act.put, List.getElem_toArray, List.getElem_cons_zero, List.getElem_cons_succ, List.setIfInBounds_toArray, List.set_cons_zero, List.set_cons_succ]
        refine wpAnyY_take (i := 4) (v := undef) rfl (by kernel_rfl) (by kernel_rfl) (by kernel_rfl) (by kernel_rfl) (fun _ _ _ h => h) (Or.inr ⟨by kernel_rfl, rfl⟩) hS ?_
        try simp only [Act.put, List.getElem_toArray, List.getElem_cons_zero, List.getElem_cons_succ, List.setIfInBounds_toArray, List.set_cons_zero, List.set_cons_succ]
        refine wpAnyY_take (i := 5) (v := undef) rfl (by kernel_rfl) (by kernel_rfl) (by kernel_rfl) (by kernel_rfl) (fun _ _ _ h => h) (Or.inr ⟨by kernel_rfl, rfl⟩) hS ?_
        try simp only [Act.put, List.getElem_toArray, List.getElem_cons_zero, List.getElem_cons_succ, List.setIfInBounds_toArray, List.set_cons_zero, List.set_cons_succ]
        refine wpAnyY_take (i := 6) (v := undef) rfl (by kernel_rfl) (by kernel_rfl) (by kernel_rfl) (by kernel_rfl) (fun _ _ _ h => h) (Or.inr ⟨by kernel_rfl, rfl⟩) hS ?_
        try simp only [Act.put, List.getElem_toArray, List.getElem_cons_zero, List.getElem_cons_succ, List.setIfInBounds_toArray, List.set_cons_zero, List.set_cons_succ]
        refine wpAnyY_take (i := 7) (v := undef) rfl (by kernel_rfl) (by kernel_rfl) (by kernel_rfl) (by kernel_rfl) (fun _ _ _ h => h) (Or.inr ⟨by kernel_rfl, rfl⟩) hS ?_
        try simp only [Act.put, List.getElem_toArray, List.getElem_cons_zero, List.getElem_cons_succ, List.setIfInBounds_toArray, List.set_cons_zero, List.set_cons_succ]
        refine wpAnyY_take (i := 8) (v := undef) rfl (by kernel_rfl) (by kernel_rfl) (by kernel_rfl) (by kernel_rfl) (fun _ _ _ h => h) (Or.inr ⟨by kernel_rfl, rfl⟩) hS ?_
        try simp only [Act.put, List.getElem_toArray, List.getElem_cons_zero, List.getElem_cons_succ, List.setIfInBounds_toArray, List.set_cons_zero, List.set_cons_succ]
        refine wpAnyY_take (i := 9) (v := undef) rfl (by kernel_rfl) (by kernel_rfl) (by kernel_rfl) (by kernel_rfl) (fun _ _ _ h => h) (Or.inr ⟨by kernel_rfl, rfl⟩) hS ?_
        try simp only [Act.put, List.getElem_toArray, List.getElem_cons_zero, List.getElem_cons_succ, List.setIfInBounds_toArray, List.set_cons_zero, List.set_cons_succ]
        refine wpAnyY_take (i := 10) (v := undef) rfl (by kernel_rfl) (by kernel_rfl) (by kernel_rfl) (by kernel_rfl) (fun _ _ _ h => h) (Or.inr ⟨by kernel_rfl, rfl⟩) hS ?_
        try simp only [Act.put, List.getElem_toArray, List.getElem_cons_zero, List.getElem_cons_succ, List.setIfInBounds_toArray, List.set_cons_zero, List.set_cons_succ]
        refine wpAnyY_take (i := 11) (v := undef) rfl (by kernel_rfl) (by kernel_rfl) (by kernel_rfl) (by kernel_rfl) (fun _ _ _ h => h) (Or.inr ⟨by kernel_rfl, rfl⟩) hS ?_
        try simp only [Act.put, List.getElem_toArray, List.getElem_cons_zero, List.getElem_cons_succ, List.setIfInBounds_toArray, List.set_cons_zero, List.set_cons_succ]
        refine wpAnyY_take (i := 12) (v := undef) rfl (by kernel_rfl) (by kernel_rfl) (by kernel_rfl) (by kernel_rfl) (fun _ _ _ h => h) (Or.inr ⟨by kernel_rfl, rfl⟩) hS ?_
        try simp only [Act.put, List.getElem_toArray, List.getElem_cons_zero, List.getElem_cons_succ, List.setIfInBounds_toArray, List.set_cons_zero, List.set_cons_succ]
        refine wpAnyY_oneW (i := 13) (by kernel_rfl) rfl (by kernel_rfl) (by kernel_rfl) (fun K13 hK13 => ?_)
        go_simp
        refine hK13.out _ _ ?_
        clear hK13
        try simp only [Act.put, List.getElem_toArray, List.getElem_cons_zero, List.getElem_cons_succ, List.setIfInBounds_toArray, List.set_cons_zero, List.set_cons_succ]
        refine wpAnyY_done (by kernel_rfl) ?_ _
        go_wp2_with fail
        go_roundw
        case rel => exact ⟨1, by omega, by go_num, fun j hj => by
          obtain rfl : j = 0 := by omega
          rfl, hG.t ga⟩
        case measure => simp [intOf] <;> omega
      · have hki0 : (0 : Int) < (k : Int) := by omega
        have hn0 : 0 < k := by omega
        have hd1 : decide ((0 : Int) < (k : Int)) = true := decide_eq_true hki0
        have hd2 : decide (0 < k) = true := decide_eq_true hn0
        obtain ⟨q, hq⟩ : ∃ q, q = k - 1 := ⟨_, rfl⟩
        have x1 : IntKind.i64.wrap ((k : Int) - 1) = (q : Nat) := by rw [IntWalk.i64_in _ (by omega)]; omega
        have hqi : (q : Int) < l.length := by omega
        have hck := hcell k hlt
        have hcq := hcell q (by omega)
        obtain ⟨x, hx⟩ : ∃ x, x = l.getD k 0 := ⟨_, rfl⟩
        obtain ⟨y, hy⟩ : ∃ y, y = l.getD q 0 := ⟨_, rfl⟩
        rw [← hx] at hck
        rw [← hy] at hcq
        have HXY : Hid ((decide (k = 0) || decide (l.getD (k - 1) 0 < l.getD k 0)) = decide (y < x)) := by
          show _ = _
          rw [← hq, hx, hy, decide_eq_false h0]
          rfl
        have hSk : ∀ W', G wo W' → (W'.cell? ⟨g, off + k, none⟩ = some (.int .i64 x) ∧ W'.cell? ⟨g, off + q, none⟩ = some (.int .i64 y)) := fun W' hW => ⟨((bcellB (hG.t hW)).1 g _ hg).trans hck, ((bcellB (hG.t hW)).1 g _ hg).trans hcq⟩
        clear hcell hck hcq hx hy hq h0
        go_upto_region 4 with fail
        refine wp_region_Y (S := fun W' => W'.cell? ⟨g, off + k, none⟩ = some (.int .i64 x) ∧ W'.cell? ⟨g, off + q, none⟩ = some (.int .i64 y)) 13 14 rfl (by kernel_rfl) (hSk _ (G.rf _).d) (fun hS => ?_)
        have ga := (G.rf wo).d
        refine wpAnyY_take (i := 0) (v := ?_) rfl (by kernel_rfl) (by kernel_rfl) (by kernel_rfl) (by kernel_rfl) (fun _ _ _ h => h) (Or.inl ⟨by kernel_rfl, ?_⟩) hS ?_
        rotate_left
        · intro w' hSw; go_simp; with_reducible rfl
        try simp only [Act.put, List.getElem_toArray, List.getElem_cons_zero, List.getElem_cons_succ, List.setIfInBounds_toArray, List.set_cons_zero, List.set_cons_succ]
        refine wpAnyY_take (i := 1) (v := ?_) rfl (by kernel_rfl) (by kernel_rfl) (by kernel_rfl) (by kernel_rfl) (fun _ _ _ h => h) (Or.inl ⟨by kernel_rfl, ?_⟩) hS ?_
        rotate_left
        · intro w' hSw; go_simp; with_reducible rfl
        try simp only [Act.put, List.getElem_toArray, List.getElem_cons_zero, List.getElem_cons_succ, List.setIfInBounds_toArray, List.set_cons_zero, List.set_cons_succ]
        refine wpAnyY_take (i := 2) (v := ?_) rfl (by kernel_rfl) (by kernel_rfl) (by kernel_rfl) (by kernel_rfl) (fun _ _ _ h => h) (Or.inl ⟨by kernel_rfl, ?_⟩) hS ?_
        rotate_left
        · intro w' hSw; go_simp; with_reducible rfl
        try simp only [Act.put, List.getElem_toArray, List.getElem_cons_zero, List.getElem_cons_succ, List.setIfInBounds_toArray, List.set_cons_zero, List.set_cons_succ]
        refine wpAnyY_take (i := 3) (v := ?_) rfl (by kernel_rfl) (by kernel_rfl) (by kernel_rfl) (by kernel_rfl) (fun _ _ _ h => h) (Or.inl ⟨by kernel_rfl, ?_⟩) hS ?_
        rotate_left
        · intro w' hSw; go_simp; with_reducible rfl
        try simp only [Act.put, List.getElem_toArray, List.getElem_cons_zero, List.getElem_cons_succ, List.setIfInBounds_toArray, List.set_cons_zero, List.set_cons_succ]
        refine wpAnyY_take (i := 4) (v := ?_) rfl (by kernel_rfl) (by kernel_rfl) (by kernel_rfl) (by kernel_rfl) (fun _ _ _ h => h) (Or.inl ⟨by kernel_rfl, ?_⟩) hS ?_
        rotate_left
        · intro w' hSw; go_simp; with_reducible rfl
        try simp only [Act.put, List.getElem_toArray, List.getElem_cons_zero, List.getElem_cons_succ, List.setIfInBounds_toArray, List.set_cons_zero, List.set_cons_succ]
        refine wpAnyY_take (i := 5) (v := ?_) rfl (by kernel_rfl) (by kernel_rfl) (by kernel_rfl) (by kernel_rfl) (fun _ _ _ h => h) (Or.inl ⟨by kernel_rfl, ?_⟩) hS ?_
        rotate_left
        · intro w' hSw; go_simp; with_reducible rfl
        try simp only [Act.put, List.getElem_toArray, List.getElem_cons_zero, List.getElem_cons_succ, List.setIfInBounds_toArray, List.set_cons_zero, List.set_cons_succ]
        refine wpAnyY_take (i := 6) (v := ?_) rfl (by kernel_rfl) (by kernel_rfl) (by kernel_rfl) (by kernel_rfl) (fun _ _ _ h => h) (Or.inl ⟨by kernel_rfl, ?_⟩) hS ?_
        rotate_left
        · intro w' hSw; obtain ⟨y0, y1⟩ := hSw; go_simp; with_reducible rfl
        try simp only [Act.put, List.getElem_toArray, List.getElem_cons_zero, List.getElem_cons_succ, List.setIfInBounds_toArray, List.set_cons_zero, List.set_cons_succ]
        refine wpAnyY_take (i := 7) (v := ?_) rfl (by kernel_rfl) (by kernel_rfl) (by kernel_rfl) (by kernel_rfl) (fun _ _ _ h => h) (Or.inl ⟨by kernel_rfl, ?_⟩) hS ?_
        rotate_left
        · intro w' hSw; go_simp; with_reducible rfl
        try simp only [Act.put, List.getElem_toArray, List.getElem_cons_zero, List.getElem_cons_succ, List.setIfInBounds_toArray, List.set_cons_zero, List.set_cons_succ]
        refine wpAnyY_take (i := 8) (v := ?_) rfl (by kernel_rfl) (by kernel_rfl) (by kernel_rfl) (by kernel_rfl) (fun _ _ _ h => h) (Or.inl ⟨by kernel_rfl, ?_⟩) hS ?_
        rotate_left
        · intro w' hSw; go_simp; with_reducible rfl
        try simp only [Act.put, List.getElem_toArray, List.getElem_cons_zero, List.getElem_cons_succ, List.setIfInBounds_toArray, List.set_cons_zero, List.set_cons_succ]
        refine wpAnyY_take (i := 9) (v := ?_) rfl (by kernel_rfl) (by kernel_rfl) (by kernel_rfl) (by kernel_rfl) (fun _ _ _ h => h) (Or.inl ⟨by kernel_rfl, ?_⟩) hS ?_
        rotate_left
        · intro w' hSw; go_simp; with_reducible rfl
        try simp only [Act.put, List.getElem_toArray, List.getElem_cons_zero, List.getElem_cons_succ, List.setIfInBounds_toArray, List.set_cons_zero, List.set_cons_succ]
        refine wpAnyY_take (i := 10) (v := ?_) rfl (by kernel_rfl) (by kernel_rfl) (by kernel_rfl) (by kernel_rfl) (fun _ _ _ h => h) (Or.inl ⟨by kernel_rfl, ?_⟩) hS ?_
        rotate_left
        · intro w' hSw; go_simp; with_reducible rfl
        try simp only [Act.put, List.getElem_toArray, List.getElem_cons_zero, List.getElem_cons_succ, List.setIfInBounds_toArray, List.set_cons_zero, List.set_cons_succ]
        refine wpAnyY_take (i := 11) (v := ?_) rfl (by kernel_rfl) (by kernel_rfl) (by kernel_rfl) (by kernel_rfl) (fun _ _ _ h => h) (Or.inl ⟨by kernel_rfl, ?_⟩) hS ?_
        rotate_left
        · intro w' hSw; obtain ⟨y0, y1⟩ := hSw; go_simp; with_reducible rfl
        try simp only [Act.put, List.getElem_toArray, List.getElem_cons_zero, List.getElem_cons_succ, List.setIfInBounds_toArray, List.set_cons_zero, List.set_cons_succ]
        refine wpAnyY_take (i := 12) (v := ?_) rfl (by kernel_rfl) (by kernel_rfl) (by kernel_rfl) (by kernel_rfl) (fun _ _ _ h => h) (Or.inl ⟨by kernel_rfl, ?_⟩) hS ?_
        rotate_left
        · intro w' hSw; go_simp; with_reducible rfl
        try simp only [Act.put, List.getElem_toArray, List.getElem_cons_zero, List.getElem_cons_succ, List.setIfInBounds_toArray, List.set_cons_zero, List.set_cons_succ]
        refine wpAnyY_oneW (i := 13) (by kernel_rfl) rfl (by kernel_rfl) (by kernel_rfl) (fun K13 hK13 => ?_)
        go_simp
        refine hK13.out _ _ ?_
        clear hK13
        try simp only [Act.put, List.getElem_toArray, List.getElem_cons_zero, List.getElem_cons_succ, List.setIfInBounds_toArray, List.set_cons_zero, List.set_cons_succ]
        refine wpAnyY_done (by kernel_rfl) ?_ _
        clear hS hSk
        by_cases hyx : y < x
        · have hxy : ¬ x ≤ y := by omega
          go_wp2_with fail
          go_roundw
          case rel => exact ⟨k + 1, by omega, by go_num, fun j hj => by
            rcases Nat.lt_or_ge j k with h | h
            · exact hno.out j h
            · obtain rfl : j = k := by omega
              rw [HXY.out]; exact decide_eq_true hyx, hG.t ga⟩
          case measure => simp [intOf] <;> omega
        · have hxy : x ≤ y := by omega
          have HF : Hid (ascB l = false) := by
            show _ = _
            unfold ascB
            cases hv : allU (fun i => decide (i = 0) || decide (l.getD (i - 1) 0 < l.getD i 0)) l.length
            · rfl
            · have := allU_iff.1 hv k hlt
              rw [HXY.out] at this
              exact absurd (of_decide_eq_true this) hyx
          go_wp2_with fail
          go_ret
          exact ⟨by rw [HF.out]; rfl, hG.t ga⟩
    · obtain rfl : k = l.length := by omega
      have hki : ¬ ((l.length : Nat) : Int) < l.length := by omega
      have HT : Hid (ascB l = true) := allU_iff.2 hno.out
      go_wp2_with fail
      go_ret
      exact ⟨by rw [HT.out]; rfl, hG⟩
/-- a bird is among the first racers -/
def hasB (l : List Rc) (b : Int) : Bool := anyU (fun i => (l.getD i default).bird == b) l.length
theorem has98 (x : Rc) (b : Int) (B : Nat) (W : World) (hB : Blk W B 3 #[.int .i64 b]) : Calls Tryz.prog 98 #[.agg x.v, .pointer (some ⟨B, 0, none⟩)] W fun e w' => e = .returned (.bool (x.bird == b)) ∧ G W w' := by
  obtain ⟨ybird, yowner, yrank, yday, ypa, ypc, ypools⟩ := x
  unfold Rc.v
  have g0 : G W (W.alloc (.cells #[.int .i64 ybird, .int .i64 yowner, .int .i64 yrank, .int .i64 yday, .slice ypa ypools.length ypc] 60)) := (G.rf _).a _
  have b0 := hB.keep g0
  have m0 := b0.cell 0
  have l0 := b0.lt
  go_enter Tryz.func98, Tryz.ntmps98
  go_wp2
  go_ret
  exact ⟨rfl, g0⟩
theorem has_any (l : List Rc) (a : Option Addr) (cap : Nat) (b : Int) (w : World) (h : RowE Rc.v 5 w a l) (hl : l.length ≤ 1000) : Calls Tryz.prog 73 #[.slice a l.length cap, .int .i64 b] w fun e w' => e = .returned (.bool (hasB l b)) ∧ G w w' := by
  have g0 : G w (w.alloc (.cells #[.int .i64 b] 3)) := (G.rf _).a _
  have b0 : Blk (w.alloc (.cells #[.int .i64 b] 3)) w.heap.size 3 #[.int .i64 b] := Blk.new _ _ _
  have HCT := Lib.hid (CtRc_any 98 (enters_of Tryz.func98 (by kernel_rfl) rfl) #[.pointer (some ⟨w.heap.size, 0, none⟩)] (w.alloc (.cells #[.int .i64 b] 3)) a cap l (fun i => (l.getD i default).bird == b) hl (h.below g0) (fun W' hW i hi => has98 _ b w.heap.size W' (b0.keep hW)))
  clear h
  go_enter Tryz.func73, Tryz.ntmps73
  go_wp2_with (go_at_call 97; refine (HCT.out).mono ?_; rintro e w1 ⟨rfl, hG1⟩)
  go_ret
  exact ⟨rfl, g0.t hG1⟩
def rankB (x : Rc) : Bool := if x.day = 0 then decide (x.rank = 0) else isInB x.day 1 2 && isInB x.rank 1 12
theorem rank_any (x : Rc) (w : World) : Calls Tryz.prog 149 #[.agg x.v] w fun e w' => e = .returned (.bool (rankB x)) ∧ G w w' := by
  obtain ⟨ybird, yowner, yrank, yday, ypa, ypc, ypools⟩ := x
  unfold rankB Rc.v
  have g0 : G w (w.alloc (.cells #[.int .i64 ybird, .int .i64 yowner, .int .i64 yrank, .int .i64 yday, .slice ypa ypools.length ypc] 60)) := (G.rf _).a _
  have b0 : Blk (w.alloc (.cells #[.int .i64 ybird, .int .i64 yowner, .int .i64 yrank, .int .i64 yday, .slice ypa ypools.length ypc] 60)) w.heap.size 60 #[.int .i64 ybird, .int .i64 yowner, .int .i64 yrank, .int .i64 yday, .slice ypa ypools.length ypc] := Blk.new _ _ _
  have HD := Lib.hid (fun (W : World) => isIn_any yday 1 2 W)
  have HR := Lib.hid (fun (W : World) => isIn_any yrank 1 12 W)
  dsimp only
  by_cases h0 : yday = 0
  · subst h0
    rw [if_pos rfl]
    go_enter Tryz.func149, Tryz.ntmps149
    go_wp2_with fail
    go_ret
    exact ⟨by first | rfl | simp, g0⟩
  · rw [if_neg h0]
    have h1 : (yday == 0) = false := by simpa using h0
    generalize isInB yday 1 2 = A at *
    generalize isInB yrank 1 12 = B at *
    cases A
    all_goals
      go_enter Tryz.func149, Tryz.ntmps149
      go_wp2_with (first | (go_at_call 94; refine (HD.out _).mono ?_; rintro e w1 ⟨rfl, hG1⟩; clear HD; replace b0 := b0.keep hG1; replace g0 := g0.t hG1; clear hG1; have m2 := b0.cell 2; have l0 := b0.lt) | (go_at_call 94; refine (HR.out _).mono ?_; rintro e w2 ⟨rfl, hG1⟩; replace g0 := g0.t hG1; clear hG1))
      go_ret
      exact ⟨rfl, g0⟩
theorem in163 (n : Int) (w : World) : Calls Tryz.prog 163 #[.int .i64 n] w fun e w' => e = .returned (.bool (isInB n 0 1000)) ∧ G w w' := by
  have HD := Lib.hid (fun (W : World) => isIn_any n 0 1000 W)
  go_enter Tryz.func163, Tryz.ntmps163
  go_wp2_with (go_at_call 94; refine (HD.out _).mono ?_; rintro e w1 ⟨rfl, hG1⟩)
  go_ret
  exact ⟨rfl, hG1⟩
def tableB (l : List Int) : Bool := isInB l.length 1 8 && (allU (fun i => isInB (l.getD i 0) 0 1000) l.length && decide (l.sum ≤ 1000))
theorem sumTo_bd {l : List Int} (h : ∀ i, i < l.length → 0 ≤ l.getD i 0 ∧ l.getD i 0 ≤ 1000) : ∀ k, k ≤ l.length → 0 ≤ sumTo l k ∧ sumTo l k ≤ k * 1000
  | 0, _ => by simp [sumTo]
  | k + 1, hk => by
    have a := sumTo_bd h k (by omega)
    have b := h k (by omega)
    rw [sumTo_succ l k (by omega)]
    omega
theorem table_any (l : List Int) (a : Option Addr) (cap : Nat) (w : World) (h : IntsAt w a l) (hl : l.length ≤ 1000) : Calls Tryz.prog 148 #[.slice a l.length cap] w fun e w' => e = .returned (.bool (tableB l)) ∧ G w w' := by
  have HL := Lib.hid (fun (W : World) => isIn_any (l.length : Nat) 1 8 W)
  have HE := Lib.hid (fun (W : World) (hW : G w W) => eachInt_any 163 (enters_of Tryz.func163 (by kernel_rfl) rfl) #[] W a cap l (fun i => isInB (l.getD i 0) 0 1000) hl (h.below hW) (fun W' _ i _ => in163 _ W'))
  have HS := Lib.hid (fun (hb : allU (fun i => isInB (l.getD i 0) 0 1000) l.length = true) (W : World) (hW : G w W) => sum_any l a cap W (h.below hW) hl (fun k hk => by
    have hb2 : ∀ i, i < l.length → 0 ≤ l.getD i 0 ∧ l.getD i 0 ≤ 1000 := fun i hi => by
      have := allU_iff.1 hb i hi
      unfold isInB at this
      simp only [Bool.and_eq_true, decide_eq_true_eq] at this
      exact this
    have := sumTo_bd hb2 k hk
    omega))
  clear h
  have g0 := G.rf w
  unfold tableB
  generalize isInB (l.length : Nat) 1 8 = A at *
  generalize allU (fun i => isInB (l.getD i 0) 0 1000) l.length = B at *
  cases A
  · clear HE HS
    go_enter Tryz.func148, Tryz.ntmps148
    go_wp2_with (go_at_call 94; refine (HL.out _).mono ?_; rintro e w1 ⟨rfl, hG1⟩; replace g0 := g0.t hG1)
    go_ret
    exact ⟨rfl, g0⟩
  · cases B
    · clear HS
      go_enter Tryz.func148, Tryz.ntmps148
      go_wp2_with (first | (go_at_call 94; refine (HL.out _).mono ?_; rintro e w1 ⟨rfl, hG1⟩; replace g0 := g0.t hG1; clear hG1) | (go_at_call 71; refine (HE.out _ g0).mono ?_; rintro e w2 ⟨rfl, hG1⟩; replace g0 := g0.t hG1; clear hG1))
      go_ret
      exact ⟨rfl, g0⟩
    · have HS2 := Lib.hid (HS.out rfl)
      clear HS
      go_enter Tryz.func148, Tryz.ntmps148
      go_wp2_with (first | (go_at_call 94; refine (HL.out _).mono ?_; rintro e w1 ⟨rfl, hG1⟩; replace g0 := g0.t hG1; clear hG1) | (go_at_call 71; refine (HE.out _ g0).mono ?_; rintro e w2 ⟨rfl, hG1⟩; replace g0 := g0.t hG1; clear hG1) | (go_at_call 75; refine (HS2.out _ g0).mono ?_; rintro e w3 ⟨rfl, hG1⟩; replace g0 := g0.t hG1; clear hG1))
      go_ret
      exact ⟨rfl, g0⟩
def kindB (x : Po) : Bool := if x.kind = 1 then tableB x.table && decide (x.quota = 0) else if x.kind = 2 then decide (x.table.length = 0) && isInB x.quota 1 20 else if x.kind = 3 then decide (x.table.length = 0) && decide (x.quota = 0) else false
set_option maxHeartbeats 1000000 in
theorem kind_any (x : Po) (w : World) (h : IntsAt w x.ta x.table) (hl : x.table.length ≤ 1000) : Calls Tryz.prog 115 #[.agg x.v] w fun e w' => e = .returned (.bool (kindB x)) ∧ G w w' := by
  obtain ⟨ystake, ycut, ykind, yta, ytc, ytable, yquota, yfirst⟩ := x
  dsimp only at h hl
  have HT := Lib.hid (fun (W : World) (hW : G w W) => table_any ytable yta ytc W (h.below hW) hl)
  have HQ := Lib.hid (fun (W : World) => isIn_any yquota 1 20 W)
  clear h
  unfold kindB Po.v
  dsimp only
  have g0 : G w (w.alloc (.cells #[.int .i64 ystake, .int .i64 ycut, .int .i64 ykind, .slice yta ytable.length ytc, .int .i64 yquota, .bool yfirst] 42)) := (G.rf _).a _
  have b0 : Blk (w.alloc (.cells #[.int .i64 ystake, .int .i64 ycut, .int .i64 ykind, .slice yta ytable.length ytc, .int .i64 yquota, .bool yfirst] 42)) w.heap.size 42 #[.int .i64 ystake, .int .i64 ycut, .int .i64 ykind, .slice yta ytable.length ytc, .int .i64 yquota, .bool yfirst] := Blk.new _ _ _
  by_cases h1 : ykind = 1
  · subst h1
    rw [if_pos rfl]
    generalize tableB ytable = A at *
    cases A
    all_goals
      go_enter Tryz.func115, Tryz.ntmps115
      go_wp2_with (go_at_call 148; refine (HT.out _ g0).mono ?_; rintro e w1 ⟨rfl, hG1⟩; replace b0 := b0.keep hG1; replace g0 := g0.t hG1; clear hG1; have m4 := b0.cell 4; have l0 := b0.lt)
      go_ret
      exact ⟨by first | rfl | (simp; done) | (congr 1; simp), g0⟩
  have k1 : (ykind == 1) = false := by simpa using h1
  rw [if_neg h1]
  by_cases h2 : ykind = 2
  · subst h2
    rw [if_pos rfl]
    clear HT
    generalize ytable.length = n at *
    rcases n with _ | n
    · go_enter Tryz.func115, Tryz.ntmps115
      go_wp2_with (go_at_call 94; refine (HQ.out _).mono ?_; rintro e w1 ⟨rfl, hG1⟩; replace g0 := g0.t hG1; clear hG1)
      go_ret
      exact ⟨by first | rfl | (simp; done) | (congr 1; simp), g0⟩
    · have t1 : (((n + 1 : Nat) : Int) == 0) = false := by simp; omega
      have t2 : ((n : Int) + 1 == 0) = false := by simp; omega
      go_enter Tryz.func115, Tryz.ntmps115
      go_wp2_with fail
      go_ret
      exact ⟨by first | rfl | (simp; done) | (congr 1; simp), g0⟩
  have k2 : (ykind == 2) = false := by simpa using h2
  rw [if_neg h2]
  by_cases h3 : ykind = 3
  · subst h3
    rw [if_pos rfl]
    clear HT
    generalize ytable.length = n at *
    rcases n with _ | n
    · go_enter Tryz.func115, Tryz.ntmps115
      go_wp2_with fail
      go_ret
      exact ⟨by first | rfl | (simp; done) | (congr 1; simp), g0⟩
    · have t1 : (((n + 1 : Nat) : Int) == 0) = false := by simp; omega
      have t2 : ((n : Int) + 1 == 0) = false := by simp; omega
      go_enter Tryz.func115, Tryz.ntmps115
      go_wp2_with fail
      go_ret
      exact ⟨by first | rfl | (simp; done) | (congr 1; simp), g0⟩
  have k3 : (ykind == 3) = false := by simpa using h3
  rw [if_neg h3]
  go_enter Tryz.func115, Tryz.ntmps115
  go_wp2_with fail
  go_ret
  exact ⟨rfl, g0⟩
def poolB (x : Po) : Bool := isInB x.stake 0 100000 && (isInB x.cut 0 1000 && kindB x)
set_option maxHeartbeats 1000000 in
theorem pool_any (x : Po) (w : World) (h : IntsAt w x.ta x.table) (hl : x.table.length ≤ 1000) : Calls Tryz.prog 90 #[.agg x.v] w fun e w' => e = .returned (.bool (poolB x)) ∧ G w w' := by
  have HK := Lib.hid (fun (W : World) (hW : G w W) => kind_any x W (h.below hW) hl)
  have HS := Lib.hid (fun (W : World) => isIn_any x.stake 0 100000 W)
  have HC := Lib.hid (fun (W : World) => isIn_any x.cut 0 1000 W)
  clear h
  unfold poolB
  generalize kindB x = C at *
  obtain ⟨ystake, ycut, ykind, yta, ytc, ytable, yquota, yfirst⟩ := x
  unfold Po.v at *
  dsimp only at *
  have g0 : G w (w.alloc (.cells #[.int .i64 ystake, .int .i64 ycut, .int .i64 ykind, .slice yta ytable.length ytc, .int .i64 yquota, .bool yfirst] 42)) := (G.rf _).a _
  have b0 : Blk (w.alloc (.cells #[.int .i64 ystake, .int .i64 ycut, .int .i64 ykind, .slice yta ytable.length ytc, .int .i64 yquota, .bool yfirst] 42)) w.heap.size 42 #[.int .i64 ystake, .int .i64 ycut, .int .i64 ykind, .slice yta ytable.length ytc, .int .i64 yquota, .bool yfirst] := Blk.new _ _ _
  generalize isInB ystake 0 100000 = A at *
  generalize isInB ycut 0 1000 = B at *
  cases A
  · go_enter Tryz.func90, Tryz.ntmps90
    go_wp2_with (go_at_call 94; refine (HS.out _).mono ?_; rintro e w1 ⟨rfl, hG1⟩; replace g0 := g0.t hG1; clear hG1)
    go_ret
    exact ⟨rfl, g0⟩
  · cases B
    all_goals
      go_enter Tryz.func90, Tryz.ntmps90
      go_wp2_with (first | (go_at_call 94; refine (HS.out _).mono ?_; rintro e w1 ⟨rfl, hG1⟩; clear HS; replace b0 := b0.keep hG1; replace g0 := g0.t hG1; clear hG1; have m1 := b0.cell 1; have l0 := b0.lt) | (go_at_call 94; refine (HC.out _).mono ?_; rintro e w2 ⟨rfl, hG1⟩; clear HC m1 l0; replace b0 := b0.keep hG1; replace g0 := g0.t hG1; clear hG1; have m0 := b0.cell 0; have m1 := b0.cell 1; have m2 := b0.cell 2; have m3 := b0.cell 3; have m4 := b0.cell 4; have m5 := b0.cell 5; have l0 := b0.lt) | (go_at_call 115; refine (HK.out _ g0).mono ?_; rintro e w3 ⟨rfl, hG1⟩; replace g0 := g0.t hG1; clear hG1))
      go_ret
      exact ⟨rfl, g0⟩
end Go.Proofs.YtnkmcoljijmgpaaGreat
set_option linter.unusedSimpArgs false
set_option linter.unusedVariables false
namespace Go.Proofs.YtnkmcoljijmgpaaGreat
open Go.RowKit Go.Shelf
attribute [local go_sem] Oper.semAt_some
theorem isPool_any (r : Ra) (n : Int) (w : World) (hp : r.pools.length ≤ 1000) : Calls Tryz.prog 70 #[.agg r.v, .int .i64 n] w fun e w' => e = .returned (.bool (isInB n 0 ((r.pools.length : Int) - 1))) ∧ G w w' := by
  obtain ⟨ra, rc, racers, pa, pc, pools, ta, tc, protests⟩ := r
  unfold Ra.v
  dsimp only at *
  have HI := Lib.hid (fun (W : World) => isIn_any n 0 ((pools.length : Int) - 1) W)
  have x1 : IntKind.i64.wrap ((pools.length : Int) - 1) = (pools.length : Int) - 1 := IntWalk.i64_in _ (by omega)
  have g0 : G w (w.alloc (.cells #[.slice ra racers.length rc, .slice pa pools.length pc, .slice ta protests.length tc] 26)) := (G.rf _).a _
  go_enter Tryz.func70, Tryz.ntmps70
  go_wp2_with (go_at_call 94; refine (HI.out _).mono ?_; rintro e w1 ⟨rfl, hG1⟩)
  go_ret
  exact ⟨rfl, g0.t hG1⟩
theorem in150 (r : Ra) (n : Int) (B : Nat) (W : World) (hp : r.pools.length ≤ 1000) (hB : Blk W B 26 r.v) : Calls Tryz.prog 150 #[.int .i64 n, .pointer (some ⟨B, 0, none⟩)] W fun e w' => e = .returned (.bool (isInB n 0 ((r.pools.length : Int) - 1))) ∧ G W w' := by
  have HI := Lib.hid (isPool_any r n W hp)
  generalize isInB n 0 ((r.pools.length : Int) - 1) = A at *
  obtain ⟨ra, rc, racers, pa, pc, pools, ta, tc, protests⟩ := r
  unfold Ra.v at *
  have m0 := hB.cell 0; have m1 := hB.cell 1; have m2 := hB.cell 2
  have l0 := hB.lt
  go_enter Tryz.func150, Tryz.ntmps150
  go_wp2_with (go_at_call 70; refine (HI.out).mono ?_; rintro e w1 ⟨rfl, hG1⟩)
  go_ret
  exact ⟨rfl, hG1⟩
theorem has93 (r : Ra) (b : Int) (B : Nat) (W : World) (h : RowE Rc.v 5 W r.ra r.racers) (hl : r.racers.length ≤ 1000) (hB : Blk W B 26 r.v) : Calls Tryz.prog 93 #[.int .i64 b, .pointer (some ⟨B, 0, none⟩)] W fun e w' => e = .returned (.bool (hasB r.racers b)) ∧ G W w' := by
  have HI := Lib.hid (has_any r.racers r.ra r.rc b W h hl)
  generalize hasB r.racers b = A at *
  obtain ⟨ra, rc, racers, pa, pc, pools, ta, tc, protests⟩ := r
  unfold Ra.v at *
  dsimp only at *
  have m0 := hB.cell 0
  have l0 := hB.lt
  clear h
  go_enter Tryz.func93, Tryz.ntmps93
  go_wp2_with (go_at_call 73; refine (HI.out).mono ?_; rintro e w1 ⟨rfl, hG1⟩)
  go_ret
  exact ⟨rfl, hG1⟩
def racerB (np : Nat) (x : Rc) : Bool := isInB x.bird 0 9999 && (isInB x.owner 0 99 && (rankB x && (ascB x.pools && allU (fun i => isInB (x.pools.getD i 0) 0 ((np : Int) - 1)) x.pools.length)))
set_option maxHeartbeats 4000000 in
theorem racer_any (r : Ra) (x : Rc) (w : World) (h : IntsAt w x.pa x.pools) (hl : x.pools.length ≤ 1000) (hp : r.pools.length ≤ 1000) : Calls Tryz.prog 116 #[.agg r.v, .agg x.v] w fun e w' => e = .returned (.bool (racerB r.pools.length x)) ∧ G w w' := by
  have HB := Lib.hid (fun (W : World) => isIn_any x.bird 0 9999 W)
  have HO := Lib.hid (fun (W : World) => isIn_any x.owner 0 99 W)
  have HR := Lib.hid (fun (W : World) => rank_any x W)
  have HA := Lib.hid (fun (W : World) (hW : G w W) => asc_any x.pools x.pa x.pc W (h.below hW) hl)
  have HE := Lib.hid (fun (W : World) (hW : G w W) (hB : Blk W w.heap.size 26 r.v) => eachInt_any 150 (enters_of Tryz.func150 (by kernel_rfl) rfl) #[.pointer (some ⟨w.heap.size, 0, none⟩)] W x.pa x.pc x.pools (fun i => isInB (x.pools.getD i 0) 0 ((r.pools.length : Int) - 1)) hl (h.below hW) (fun W' hW' i _ => in150 r _ w.heap.size W' hp (hB.keep hW')))
  clear h
  unfold racerB
  generalize rankB x = C at *
  generalize ascB x.pools = D at *
  generalize allU (fun i => isInB (x.pools.getD i 0) 0 ((r.pools.length : Int) - 1)) x.pools.length = E at *
  generalize isInB x.bird 0 9999 = A at *
  generalize isInB x.owner 0 99 = B at *
  obtain ⟨ra, rc, racers, pa, pc, pools, ta, tc, protests⟩ := r
  obtain ⟨ybird, yowner, yrank, yday, ypa, ypc, ypools⟩ := x
  unfold Ra.v Rc.v at *
  dsimp only at *
  have g0 : G w ((w.alloc (.cells #[.slice ra racers.length rc, .slice pa pools.length pc, .slice ta protests.length tc] 26)).alloc (.cells #[.int .i64 ybird, .int .i64 yowner, .int .i64 yrank, .int .i64 yday, .slice ypa ypools.length ypc] 60)) := ((G.rf _).a _).a _
  have b0 : Blk ((w.alloc (.cells #[.slice ra racers.length rc, .slice pa pools.length pc, .slice ta protests.length tc] 26)).alloc (.cells #[.int .i64 ybird, .int .i64 yowner, .int .i64 yrank, .int .i64 yday, .slice ypa ypools.length ypc] 60)) w.heap.size 26 #[.slice ra racers.length rc, .slice pa pools.length pc, .slice ta protests.length tc] := (Blk.new w _ _).alloc _
  have d0 : Blk ((w.alloc (.cells #[.slice ra racers.length rc, .slice pa pools.length pc, .slice ta protests.length tc] 26)).alloc (.cells #[.int .i64 ybird, .int .i64 yowner, .int .i64 yrank, .int .i64 yday, .slice ypa ypools.length ypc] 60)) (w.heap.size + 1) 60 #[.int .i64 ybird, .int .i64 yowner, .int .i64 yrank, .int .i64 yday, .slice ypa ypools.length ypc] := Blk.new1 w _ 60 _
  have key : A = false ∨ (A = true ∧ B = false) ∨ (A = true ∧ B = true ∧ C = false) ∨ (A = true ∧ B = true ∧ C = true ∧ D = false) ∨ (A = true ∧ B = true ∧ C = true ∧ D = true) := by
    cases A <;> cases B <;> cases C <;> cases D <;> simp
  rcases key with rfl | ⟨rfl, rfl⟩ | ⟨rfl, rfl, rfl⟩ | ⟨rfl, rfl, rfl, rfl⟩ | ⟨rfl, rfl, rfl, rfl⟩
  all_goals
    go_enter Tryz.func116, Tryz.ntmps116
    go_wp2_with (first | (go_at_call 94; refine (HB.out _).mono ?_; rintro e w1 ⟨rfl, hG1⟩; clear HB; replace b0 := b0.keep hG1; replace d0 := d0.keep hG1; replace g0 := g0.t hG1; clear hG1; have m0 := b0.cell 0; have m1 := b0.cell 1; have m2 := b0.cell 2; have n0 := d0.cell 0; have n1 := d0.cell 1; have n2 := d0.cell 2; have n3 := d0.cell 3; have n4 := d0.cell 4; have l0 := b0.lt; have l1 := d0.lt) | (go_at_call 94; refine (HO.out _).mono ?_; rintro e w2 ⟨rfl, hG1⟩; clear HO; clear m0 m1 m2 n0 n1 n2 n3 n4 l0 l1; replace b0 := b0.keep hG1; replace d0 := d0.keep hG1; replace g0 := g0.t hG1; clear hG1; have m0 := b0.cell 0; have m1 := b0.cell 1; have m2 := b0.cell 2; have n0 := d0.cell 0; have n1 := d0.cell 1; have n2 := d0.cell 2; have n3 := d0.cell 3; have n4 := d0.cell 4; have l0 := b0.lt; have l1 := d0.lt) | (go_at_call 149; refine (HR.out _).mono ?_; rintro e w3 ⟨rfl, hG1⟩; clear m0 m1 m2 n0 n1 n2 n3 n4 l0 l1; replace b0 := b0.keep hG1; replace d0 := d0.keep hG1; replace g0 := g0.t hG1; clear hG1; have m0 := b0.cell 0; have m1 := b0.cell 1; have m2 := b0.cell 2; have n0 := d0.cell 0; have n1 := d0.cell 1; have n2 := d0.cell 2; have n3 := d0.cell 3; have n4 := d0.cell 4; have l0 := b0.lt; have l1 := d0.lt) | (go_at_call 92; refine (HA.out _ g0).mono ?_; rintro e w4 ⟨rfl, hG1⟩; clear m0 m1 m2 n0 n1 n2 n3 n4 l0 l1; replace b0 := b0.keep hG1; replace d0 := d0.keep hG1; replace g0 := g0.t hG1; clear hG1; have m0 := b0.cell 0; have m1 := b0.cell 1; have m2 := b0.cell 2; have n0 := d0.cell 0; have n1 := d0.cell 1; have n2 := d0.cell 2; have n3 := d0.cell 3; have n4 := d0.cell 4; have l0 := b0.lt; have l1 := d0.lt) | (go_at_call 71; refine (HE.out _ g0 b0).mono ?_; rintro e w5 ⟨rfl, hG1⟩; replace g0 := g0.t hG1; clear hG1))
    go_ret
    exact ⟨rfl, g0⟩
/-- the first racers of a row -/
theorem RowE.take {α : Type} [Inhabited α] {v : α → Array Value} {k : Nat} {W : World} {a : Option Addr} {l : List α} (h : RowE v k W a l) (i : Nat) : RowE v k W a (l.take i) := by
  rcases h with h | ⟨g, off, h1, h2, h3⟩
  · exact .inl (by rw [List.length_take]; omega)
  · refine .inr ⟨g, off, h1, h2, fun j hj r hr => ?_⟩
    rw [List.length_take] at hj
    have e : (l.take i).getD j default = l.getD j default := by
      rw [List.getD_eq_getElem?_getD, List.getD_eq_getElem?_getD, List.getElem?_take_of_lt (by omega)]
    rw [e]
    exact h3 j (by omega) r hr
def racersB (r : Ra) : Bool := decide (r.racers.length ≤ 12) && allU (fun i => !hasB (r.racers.take i) (r.racers.getD i default).bird && racerB r.pools.length (r.racers.getD i default)) r.racers.length
set_option maxRecDepth 100000 in
set_option maxHeartbeats 8000000 in
theorem racers_any (r : Ra) (w : World) (h : r.At w) : Calls Tryz.prog 91 #[.agg r.v] w fun e w' => e = .returned (.bool (racersB r)) ∧ G w w' := by
  have HH := Lib.hid (fun (i : Nat) (hi : i < r.racers.length) (W : World) (hW : G w W) (cap : Nat) => has_any (r.racers.take i) r.ra cap (r.racers.getD i default).bird W ((h.rs.below hW).row.take i) (by rw [List.length_take]; have := h.nr; omega))
  have HX := Lib.hid (fun (i : Nat) (hi : i < r.racers.length) (W : World) (hW : G w W) => racer_any r (r.racers.getD i default) W ((h.rs.below hW).pools i hi) (h.nq i hi) h.np)
  have hrow := h.rs.row
  have hnr := h.nr
  have hcr := h.cr
  have HT : Hid (r.racers.length ≤ 12 → (∀ i, i < r.racers.length → (!hasB (r.racers.take i) (r.racers.getD i default).bird && racerB r.pools.length (r.racers.getD i default)) = true) → racersB r = true) := fun a b => by
    unfold racersB
    rw [decide_eq_true a, allU_iff.2 b]
    rfl
  have HF : Hid (∀ i, i < r.racers.length → (!hasB (r.racers.take i) (r.racers.getD i default).bird && racerB r.pools.length (r.racers.getD i default)) = false → racersB r = false) := fun i hi hb => by
    unfold racersB
    cases hv : allU (fun i => !hasB (r.racers.take i) (r.racers.getD i default).bird && racerB r.pools.length (r.racers.getD i default)) r.racers.length
    · simp
    · rw [allU_iff.1 hv i hi] at hb; cases hb
  have HN : Hid (12 < r.racers.length → racersB r = false) := fun a => by
    unfold racersB
    rw [decide_eq_false (by omega)]
    rfl
  clear h
  generalize racersB r = RES at *
  obtain ⟨hasF, hhas⟩ : ∃ hasF : Nat → Bool, hasF = fun i => hasB (r.racers.take i) (r.racers.getD i default).bird := ⟨_, rfl⟩
  obtain ⟨okF, hok⟩ : ∃ okF : Nat → Bool, okF = fun i => racerB r.pools.length (r.racers.getD i default) := ⟨_, rfl⟩
  have HH2 : Hid (∀ (i : Nat) (hi : i < r.racers.length) (W : World) (hW : G w W) (cap : Nat), Calls Tryz.prog 73 #[.slice r.ra i cap, .int .i64 (r.racers.getD i default).bird] W fun e w' => e = .returned (.bool (hasF i)) ∧ G W w') := fun i hi W hW cap => by
    have := HH.out i hi W hW cap
    rw [List.length_take, Nat.min_eq_left (by omega)] at this
    rw [hhas]
    exact this
  have HX2 : Hid (∀ (i : Nat) (hi : i < r.racers.length) (W : World) (hW : G w W), Calls Tryz.prog 116 #[.agg r.v, .agg (r.racers.getD i default).v] W fun e w' => e = .returned (.bool (okF i)) ∧ G W w') := fun i hi W hW => by
    rw [hok]
    exact HX.out i hi W hW
  have HT2 : Hid (r.racers.length ≤ 12 → (∀ i, i < r.racers.length → (!hasF i && okF i) = true) → RES = true) := by rw [hhas, hok]; exact HT
  have HF2 : Hid (∀ i, i < r.racers.length → (!hasF i && okF i) = false → RES = false) := by rw [hhas, hok]; exact HF
  clear HH HX HT HF hhas hok
  obtain ⟨ra, rc, racers, pa, pc, pools, ta, tc, protests⟩ := r
  unfold Ra.v at *
  dsimp only at *
  have g0 : G w (w.alloc (.cells #[.slice ra racers.length rc, .slice pa pools.length pc, .slice ta protests.length tc] 26)) := (G.rf _).a _
  have b0 : Blk (w.alloc (.cells #[.slice ra racers.length rc, .slice pa pools.length pc, .slice ta protests.length tc] 26)) w.heap.size 26 #[.slice ra racers.length rc, .slice pa pools.length pc, .slice ta protests.length tc] := Blk.new _ _ _
  by_cases h12 : 12 < racers.length
  · have t1 : (12 : Int) < racers.length := by omega
    have HZ := Lib.hid (HN.out h12)
    go_enter Tryz.func91, Tryz.ntmps91
    go_wp2_with fail
    go_ret
    exact ⟨by rw [HZ.out]; rfl, g0⟩
  have t1 : ¬ (12 : Int) < racers.length := by omega
  go_enter Tryz.func91, Tryz.ntmps91
  go_upto_region 3 with fail
  change Code.wp _ _ _ _ (w.alloc (.cells #[.slice ra racers.length rc, .slice pa pools.length pc, .slice ta protests.length tc] 26))
  generalize w.alloc (.cells #[.slice ra racers.length rc, .slice pa pools.length pc, .slice ta protests.length tc] 26) = w1 at *
  have m0 := b0.cell 0
  have lb := b0.lt
  go_wp2_with fail
  clear m0 lb
  go_loopw [12] (fun i wr => ∃ k : Nat, k ≤ racers.length ∧ i = .int .i64 k ∧ Hid (∀ j, j < k → (!hasF j && okF j) = true) ∧ G w1 wr) (fun i _ => racers.length - (intOf i).toNat)
  case atStart => exact ⟨0, Nat.zero_le _, rfl, fun j hj => by omega, G.rf _⟩
  case round =>
    obtain ⟨k, hk, rfl, hno, hG⟩ := hrel
    obtain ⟨wo, rfl⟩ : ∃ wo, wo = wr := ⟨_, rfl⟩
    by_cases hlt : k < racers.length
    · have hki : (k : Int) < racers.length := by omega
      rcases hrow with h | ⟨g, off, rfl, hg, hcell⟩
      · omega
      have lg := Nat.lt_of_lt_of_le hg (g0.t hG).size
      have hcl := fun r hr => ((bcellB (g0.t hG)).1 g _ hg).trans (hcell k hlt r hr)
      have HH3 := Lib.hid (HH2.out k hlt)
      have HX3 := Lib.hid (HX2.out k hlt)
      have HF3 := Lib.hid (HF2.out k hlt)
      obtain ⟨y, hy⟩ : ∃ y, y = racers.getD k default := ⟨_, rfl⟩
      rw [← hy] at hcl HH3 HX3
      clear hy hcell
      obtain ⟨ybird, yowner, yrank, yday, ypa, ypc, ypools⟩ := y
      unfold Rc.v at hcl HX3
      dsimp only at HH3
      have q0 : wo.cell? ⟨g, off + k * 5, none⟩ = some (.int .i64 ybird) := hcl 0 (by omega)
      have q1 : wo.cell? ⟨g, off + k * 5 + 1, none⟩ = some (.int .i64 yowner) := hcl 1 (by omega)
      have q2 : wo.cell? ⟨g, off + k * 5 + 2, none⟩ = some (.int .i64 yrank) := hcl 2 (by omega)
      have q3 : wo.cell? ⟨g, off + k * 5 + 3, none⟩ = some (.int .i64 yday) := hcl 3 (by omega)
      have q4 : wo.cell? ⟨g, off + k * 5 + 4, none⟩ = some (.slice ypa ypools.length ypc) := hcl 4 (by omega)
      clear hcl
      go_upto_region 6 with fail
      have b1 := b0.keep hG
      have hgo : G w1 (wo.alloc (.cells #[.int .i64 ybird, .int .i64 yowner, .int .i64 yrank, .int .i64 yday, .slice ypa ypools.length ypc] 60)) := hG.a _
      have bx : Blk (wo.alloc (.cells #[.int .i64 ybird, .int .i64 yowner, .int .i64 yrank, .int .i64 yday, .slice ypa ypools.length ypc] 60)) wo.heap.size 60 #[.int .i64 ybird, .int .i64 yowner, .int .i64 yrank, .int .i64 yday, .slice ypa ypools.length ypc] := Blk.new _ _ _
      have bb := b0.keep hgo
      clear q0 q1 q2 q3 q4 lg
      change Code.wp _ _ _ _ (wo.alloc (.cells #[.int .i64 ybird, .int .i64 yowner, .int .i64 yrank, .int .i64 yday, .slice ypa ypools.length ypc] 60))
      obtain ⟨gx, hgx⟩ : ∃ gx, gx = wo.heap.size := ⟨_, rfl⟩
      rw [← hgx] at bx ⊢
      clear hgx
      generalize wo.alloc (.cells #[.int .i64 ybird, .int .i64 yowner, .int .i64 yrank, .int .i64 yday, .slice ypa ypools.length ypc] 60) = w2 at *
      have hSk : ∀ W', G w2 W' → ((W'.cell? ⟨w.heap.size, 0, none⟩ = some (.slice (some ⟨g, off, none⟩) racers.length rc) ∧ W'.cell? ⟨w.heap.size, 1, none⟩ = some (.slice pa pools.length pc) ∧ W'.cell? ⟨w.heap.size, 2, none⟩ = some (.slice ta protests.length tc)) ∧ Blk W' gx 60 #[.int .i64 ybird, .int .i64 yowner, .int .i64 yrank, .int .i64 yday, .slice ypa ypools.length ypc]) := fun W' hW => ⟨⟨(bb.keep hW).cell 0, (bb.keep hW).cell 1, (bb.keep hW).cell 2⟩, bx.keep hW⟩
      refine wp_region_Y (S := fun W' => (W'.cell? ⟨w.heap.size, 0, none⟩ = some (.slice (some ⟨g, off, none⟩) racers.length rc) ∧ W'.cell? ⟨w.heap.size, 1, none⟩ = some (.slice pa pools.length pc) ∧ W'.cell? ⟨w.heap.size, 2, none⟩ = some (.slice ta protests.length tc)) ∧ Blk W' gx 60 #[.int .i64 ybird, .int .i64 yowner, .int .i64 yrank, .int .i64 yday, .slice ypa ypools.length ypc]) 12 13 rfl (by kernel_rfl) (hSk _ (G.rf _).d) (fun hS => ?_)
      have ga := (G.rf w2).d
      refine wpAnyY_take (i := 0) (v := ?_) rfl (by kernel_rfl) (by kernel_rfl) (by kernel_rfl) (by kernel_rfl) (fun _ _ _ h => h) (Or.inl ⟨by kernel_rfl, ?_⟩) hS ?_
      rotate_left
      · intro w' hSw; obtain ⟨⟨s0, s1, s2⟩, hx⟩ := hSw; go_simp; with_reducible rfl
      try simp only [Act.put, List.getElem_toArray, List.getElem_cons_zero, List.getElem_cons_succ, List.setIfInBounds_toArray, List.set_cons_zero, List.set_cons_succ]
      refine wpAnyY_take (i := 1) (v := ?_) rfl (by kernel_rfl) (by kernel_rfl) (by kernel_rfl) (by kernel_rfl) (fun _ _ _ h => h) (Or.inl ⟨by kernel_rfl, ?_⟩) hS ?_
      rotate_left
      · intro w' hSw; obtain ⟨⟨s0, s1, s2⟩, hx⟩ := hSw; go_simp; with_reducible rfl
      try simp only [Act.put, List.getElem_toArray, List.getElem_cons_zero, List.getElem_cons_succ, List.setIfInBounds_toArray, List.set_cons_zero, List.set_cons_succ]
      refine wpAnyY_take (i := 2) (v := ?_) rfl (by kernel_rfl) (by kernel_rfl) (by kernel_rfl) (by kernel_rfl) (fun _ _ _ h => h) (Or.inl ⟨by kernel_rfl, ?_⟩) hS ?_
      rotate_left
      · intro w' hSw; go_simp; with_reducible rfl
      try simp only [Act.put, List.getElem_toArray, List.getElem_cons_zero, List.getElem_cons_succ, List.setIfInBounds_toArray, List.set_cons_zero, List.set_cons_succ]
      refine wpAnyY_take (i := 4) (v := ?_) rfl (by kernel_rfl) (by kernel_rfl) (by kernel_rfl) (by kernel_rfl) (fun _ _ _ h => h) (Or.inl ⟨by kernel_rfl, ?_⟩) hS ?_
      rotate_left
      · intro w' hSw; go_simp; with_reducible rfl
      try simp only [Act.put, List.getElem_toArray, List.getElem_cons_zero, List.getElem_cons_succ, List.setIfInBounds_toArray, List.set_cons_zero, List.set_cons_succ]
      refine wpAnyY_take (i := 5) (v := ?_) rfl (by kernel_rfl) (by kernel_rfl) (by kernel_rfl) (by kernel_rfl) (fun _ _ _ h => h) (Or.inl ⟨by kernel_rfl, ?_⟩) hS ?_
      rotate_left
      · intro w' hSw; have n0 := hSw.2.cell 0; have ln := hSw.2.lt; go_simp; with_reducible rfl
      try simp only [Act.put, List.getElem_toArray, List.getElem_cons_zero, List.getElem_cons_succ, List.setIfInBounds_toArray, List.set_cons_zero, List.set_cons_succ]
      have hkc : (k : Int) ≤ rc := by omega
      have hkc2 : k ≤ rc := by omega
      refine wpAnyY_oneSW (i := 3) (by kernel_rfl) rfl (by kernel_rfl) (fun K3 hK3 => ?_)
      go_simp
      refine hK3.out _ _ (hSk _ ga) (fun hS => ?_)
      clear hK3
      try simp only [Act.put, List.getElem_toArray, List.getElem_cons_zero, List.getElem_cons_succ, List.setIfInBounds_toArray, List.set_cons_zero, List.set_cons_succ]
      refine wpAnyY_oneSW (i := 6) (by kernel_rfl) rfl (by kernel_rfl) (fun K6 hK6 => ?_)
      go_simp
      refine (HH3.out _ (g0.t (hgo.t ga)) _).mono ?_
      rintro e w3 ⟨rfl, hG3⟩
      replace ga := ga.t hG3
      refine hK6.out _ _ (hSk _ ga) (fun hS => ?_)
      clear hK6
      try simp only [Act.put, List.getElem_toArray, List.getElem_cons_zero, List.getElem_cons_succ, List.setIfInBounds_toArray, List.set_cons_zero, List.set_cons_succ]
      refine wpAnyY_take (i := 7) (v := ?_) rfl (by kernel_rfl) (by kernel_rfl) (by kernel_rfl) (by kernel_rfl) (fun _ _ _ h => h) (Or.inl ⟨by kernel_rfl, ?_⟩) hS ?_
      rotate_left
      · intro w' hSw; go_simp; with_reducible rfl
      try simp only [Act.put, List.getElem_toArray, List.getElem_cons_zero, List.getElem_cons_succ, List.setIfInBounds_toArray, List.set_cons_zero, List.set_cons_succ]
      obtain ⟨hv, hhv⟩ : ∃ hv, hv = hasF k := ⟨_, rfl⟩
      obtain ⟨ov, hov⟩ : ∃ ov, ov = okF k := ⟨_, rfl⟩
      have HKV : Hid ((!hasF k && okF k) = (!hv && ov)) := by rw [hhv, hov]; rfl
      have HX4 := Lib.hid HX3.out
      rw [← hov] at HX4
      rw [← hhv]
      clear hhv hov HX3 HH3
      cases hv
      ·
        refine wpAnyY_take (i := 8) (v := ?_) rfl (by kernel_rfl) (by kernel_rfl) (by kernel_rfl) (by kernel_rfl) (fun _ _ _ h => h) (Or.inl ⟨by kernel_rfl, ?_⟩) hS ?_
        rotate_left
        · intro w' hSw; obtain ⟨⟨s0, s1, s2⟩, hx⟩ := hSw; go_simp; with_reducible rfl
        try simp only [Act.put, List.getElem_toArray, List.getElem_cons_zero, List.getElem_cons_succ, List.setIfInBounds_toArray, List.set_cons_zero, List.set_cons_succ]
        refine wpAnyY_take (i := 9) (v := ?_) rfl (by kernel_rfl) (by kernel_rfl) (by kernel_rfl) (by kernel_rfl) (fun _ _ _ h => h) (Or.inl ⟨by kernel_rfl, ?_⟩) hS ?_
        rotate_left
        · intro w' hSw; have n0 := hSw.2.cell 0; have n1 := hSw.2.cell 1; have n2 := hSw.2.cell 2; have n3 := hSw.2.cell 3; have n4 := hSw.2.cell 4; go_simp; with_reducible rfl
        try simp only [Act.put, List.getElem_toArray, List.getElem_cons_zero, List.getElem_cons_succ, List.setIfInBounds_toArray, List.set_cons_zero, List.set_cons_succ]
        refine wpAnyY_oneSW (i := 10) (by kernel_rfl) rfl (by kernel_rfl) (fun K10 hK10 => ?_)
        go_simp
        refine (HX4.out _ (g0.t (hgo.t ga))).mono ?_
        rintro e w4 ⟨rfl, hG4⟩
        replace ga := ga.t hG4
        refine hK10.out _ _ (hSk _ ga) (fun hS => ?_)
        clear hK10
        try simp only [Act.put, List.getElem_toArray, List.getElem_cons_zero, List.getElem_cons_succ, List.setIfInBounds_toArray, List.set_cons_zero, List.set_cons_succ]
        refine wpAnyY_take (i := 11) (v := ?_) rfl (by kernel_rfl) (by kernel_rfl) (by kernel_rfl) (by kernel_rfl) (fun _ _ _ h => h) (Or.inl ⟨by kernel_rfl, ?_⟩) hS ?_
        rotate_left
        · intro w' hSw; go_simp; with_reducible rfl
        try simp only [Act.put, List.getElem_toArray, List.getElem_cons_zero, List.getElem_cons_succ, List.setIfInBounds_toArray, List.set_cons_zero, List.set_cons_succ]
        refine wpAnyY_oneW (i := 12) (by kernel_rfl) rfl (by kernel_rfl) (by kernel_rfl) (fun K12 hK12 => ?_)
        go_simp
        refine hK12.out _ _ ?_
        clear hK12
        try simp only [Act.put, List.getElem_toArray, List.getElem_cons_zero, List.getElem_cons_succ, List.setIfInBounds_toArray, List.set_cons_zero, List.set_cons_succ]
        refine wpAnyY_done (by kernel_rfl) ?_ _
        clear hS hSk HX4
        cases ov
        · have HZ := Lib.hid (HF3.out (by rw [HKV.out]; rfl))
          go_wp2_with fail
          go_ret
          exact ⟨by rw [HZ.out]; rfl, g0.t (hgo.t ga)⟩
        · clear HF3
          go_wp2_with fail
          go_roundw
          case rel => exact ⟨k + 1, by omega, by go_num, fun j hj => by
            rcases Nat.lt_or_ge j k with h | h
            · exact hno.out j h
            · obtain rfl : j = k := by omega
              rw [HKV.out]; rfl, hgo.t ga⟩
          case measure => simp [intOf] <;> omega
      ·
        refine wpAnyY_take (i := 8) (v := undef) rfl (by kernel_rfl) (by kernel_rfl) (by kernel_rfl) (by kernel_rfl) (fun _ _ _ h => h) (Or.inr ⟨by kernel_rfl, rfl⟩) hS ?_
        try simp only [Act.put, List.getElem_toArray, List.getElem_cons_zero, List.getElem_cons_succ, List.setIfInBounds_toArray, List.set_cons_zero, List.set_cons_succ]
        refine wpAnyY_take (i := 9) (v := undef) rfl (by kernel_rfl) (by kernel_rfl) (by kernel_rfl) (by kernel_rfl) (fun _ _ _ h => h) (Or.inr ⟨by kernel_rfl, rfl⟩) hS ?_
        try simp only [Act.put, List.getElem_toArray, List.getElem_cons_zero, List.getElem_cons_succ, List.setIfInBounds_toArray, List.set_cons_zero, List.set_cons_succ]
        refine wpAnyY_take (i := 10) (v := undef) rfl (by kernel_rfl) (by kernel_rfl) (by kernel_rfl) (by kernel_rfl) (fun _ _ _ h => h) (Or.inr ⟨by kernel_rfl, rfl⟩) hS ?_
        try simp only [Act.put, List.getElem_toArray, List.getElem_cons_zero, List.getElem_cons_succ, List.setIfInBounds_toArray, List.set_cons_zero, List.set_cons_succ]
        refine wpAnyY_take (i := 11) (v := undef) rfl (by kernel_rfl) (by kernel_rfl) (by kernel_rfl) (by kernel_rfl) (fun _ _ _ h => h) (Or.inr ⟨by kernel_rfl, rfl⟩) hS ?_
        try simp only [Act.put, List.getElem_toArray, List.getElem_cons_zero, List.getElem_cons_succ, List.setIfInBounds_toArray, List.set_cons_zero, List.set_cons_succ]
        refine wpAnyY_oneW (i := 12) (by kernel_rfl) rfl (by kernel_rfl) (by kernel_rfl) (fun K12 hK12 => ?_)
        go_simp
        refine hK12.out _ _ ?_
        clear hK12
        try simp only [Act.put, List.getElem_toArray, List.getElem_cons_zero, List.getElem_cons_succ, List.setIfInBounds_toArray, List.set_cons_zero, List.set_cons_succ]
        refine wpAnyY_done (by kernel_rfl) ?_ _
        clear hS hSk HX4
        have HZ := Lib.hid (HF3.out (by rw [HKV.out]; rfl))
        go_wp2_with fail
        go_ret
        exact ⟨by rw [HZ.out]; rfl, g0.t (hgo.t ga)⟩
    · obtain rfl : k = racers.length := by omega
      have hki : ¬ ((racers.length : Nat) : Int) < racers.length := by omega
      have HZ := Lib.hid (HT2.out (by omega) hno.out)
      go_wp2_with fail
      go_ret
      exact ⟨by rw [HZ.out]; rfl, g0.t hG⟩
end Go.Proofs.YtnkmcoljijmgpaaGreat
set_option linter.unusedSimpArgs false
set_option linter.unusedVariables false
namespace Go.Proofs.YtnkmcoljijmgpaaGreat
open Go.RowKit Go.Shelf
attribute [local go_sem] Oper.semAt_some
def raceB (r : Ra) : Bool := decide (r.pools.length ≤ 6) && (allU (fun i => poolB (r.pools.getD i default)) r.pools.length && (racersB r && (decide (r.protests.length ≤ 4) && (ascB r.protests && allU (fun i => hasB r.racers (r.protests.getD i 0)) r.protests.length))))
set_option maxRecDepth 100000 in
set_option maxHeartbeats 8000000 in
theorem race_any (r : Ra) (w : World) (h : r.At w) : Calls Tryz.prog 68 #[.agg r.v] w fun e w' => e = .returned (.bool (raceB r)) ∧ G w w' := by
  have HP := Lib.hid (fun (W : World) (hW : G w W) => eachPo_any 90 (enters_of Tryz.func90 (by kernel_rfl) rfl) #[] W r.pa r.pc r.pools (fun i => poolB (r.pools.getD i default)) h.np (h.ps.row.below hW) (fun W' hW' i hi => pool_any _ W' (((h.ps.below hW).below hW').tables i hi) (h.nb i hi)))
  have HR := Lib.hid (fun (W : World) (hW : G w W) => racers_any r W (h.keep hW))
  have HA := Lib.hid (fun (W : World) (hW : G w W) => asc_any r.protests r.ta r.tc W (h.ts.below hW) h.nt)
  have HE := Lib.hid (fun (W : World) (hW : G w W) (hB : Blk W w.heap.size 26 r.v) => eachInt_any 93 (enters_of Tryz.func93 (by kernel_rfl) rfl) #[.pointer (some ⟨w.heap.size, 0, none⟩)] W r.ta r.tc r.protests (fun i => hasB r.racers (r.protests.getD i 0)) h.nt (h.ts.below hW) (fun W' hW' i hi => has93 r _ w.heap.size W' ((h.rs.below hW).below hW').row h.nr (hB.keep hW')))
  clear h
  unfold raceB
  generalize allU (fun i => poolB (r.pools.getD i default)) r.pools.length = B at *
  generalize racersB r = C at *
  generalize ascB r.protests = E at *
  generalize allU (fun i => hasB r.racers (r.protests.getD i 0)) r.protests.length = F at *
  obtain ⟨ra, rc, racers, pa, pc, pools, ta, tc, protests⟩ := r
  unfold Ra.v at *
  dsimp only at *
  have g0 : G w (w.alloc (.cells #[.slice ra racers.length rc, .slice pa pools.length pc, .slice ta protests.length tc] 26)) := (G.rf _).a _
  have b0 : Blk (w.alloc (.cells #[.slice ra racers.length rc, .slice pa pools.length pc, .slice ta protests.length tc] 26)) w.heap.size 26 #[.slice ra racers.length rc, .slice pa pools.length pc, .slice ta protests.length tc] := Blk.new _ _ _
  by_cases h6 : pools.length ≤ 6
  · have t6 : (pools.length : Int) ≤ 6 := by omega
    rw [decide_eq_true h6]
    by_cases h4 : protests.length ≤ 4
    · have t4 : (protests.length : Int) ≤ 4 := by omega
      rw [decide_eq_true h4]
      have key : B = false ∨ (B = true ∧ C = false) ∨ (B = true ∧ C = true ∧ E = false) ∨ (B = true ∧ C = true ∧ E = true) := by
        cases B <;> cases C <;> cases E <;> simp
      rcases key with rfl | ⟨rfl, rfl⟩ | ⟨rfl, rfl, rfl⟩ | ⟨rfl, rfl, rfl⟩
      all_goals
        go_enter Tryz.func68, Tryz.ntmps68
        go_wp2_with (first | (go_at_call 89; refine (HP.out _ g0).mono ?_; rintro e w1 ⟨rfl, hG1⟩; replace b0 := b0.keep hG1; replace g0 := g0.t hG1; clear hG1; have m0 := b0.cell 0; have m1 := b0.cell 1; have m2 := b0.cell 2; have l0 := b0.lt) | (go_at_call 91; refine (HR.out _ g0).mono ?_; rintro e w2 ⟨rfl, hG1⟩; clear m0 m1 m2 l0; replace b0 := b0.keep hG1; replace g0 := g0.t hG1; clear hG1; have m0 := b0.cell 0; have m1 := b0.cell 1; have m2 := b0.cell 2; have l0 := b0.lt) | (go_at_call 92; refine (HA.out _ g0).mono ?_; rintro e w3 ⟨rfl, hG1⟩; clear m0 m1 m2 l0; replace b0 := b0.keep hG1; replace g0 := g0.t hG1; clear hG1; have m0 := b0.cell 0; have m1 := b0.cell 1; have m2 := b0.cell 2; have l0 := b0.lt) | (go_at_call 71; refine (HE.out _ g0 b0).mono ?_; rintro e w4 ⟨rfl, hG1⟩; clear m0 m1 m2 l0; replace b0 := b0.keep hG1; replace g0 := g0.t hG1; clear hG1; have m0 := b0.cell 0; have m1 := b0.cell 1; have m2 := b0.cell 2; have l0 := b0.lt))
        go_ret
        exact ⟨rfl, g0⟩
    · have t4 : ¬ (protests.length : Int) ≤ 4 := by omega
      rw [decide_eq_false h4]
      have key : B = false ∨ (B = true ∧ C = false) ∨ (B = true ∧ C = true) := by
        cases B <;> cases C <;> simp
      rcases key with rfl | ⟨rfl, rfl⟩ | ⟨rfl, rfl⟩
      all_goals
        go_enter Tryz.func68, Tryz.ntmps68
        go_wp2_with (first | (go_at_call 89; refine (HP.out _ g0).mono ?_; rintro e w1 ⟨rfl, hG1⟩; replace b0 := b0.keep hG1; replace g0 := g0.t hG1; clear hG1; have m0 := b0.cell 0; have m1 := b0.cell 1; have m2 := b0.cell 2; have l0 := b0.lt) | (go_at_call 91; refine (HR.out _ g0).mono ?_; rintro e w2 ⟨rfl, hG1⟩; clear m0 m1 m2 l0; replace b0 := b0.keep hG1; replace g0 := g0.t hG1; clear hG1; have m0 := b0.cell 0; have m1 := b0.cell 1; have m2 := b0.cell 2; have l0 := b0.lt))
        go_ret
        exact ⟨rfl, g0⟩
  · have t6 : ¬ (pools.length : Int) ≤ 6 := by omega
    rw [decide_eq_false h6]
    go_enter Tryz.func68, Tryz.ntmps68
    go_wp2_with fail
    go_ret
    exact ⟨rfl, g0⟩
def chk8 (r : Ra) : Int := if raceB r = true then 0 else 80
theorem Check_any (r : Ra) (w : World) (h : r.At w) : Calls Tryz.prog 34 #[.agg r.v] w fun e w' => e = .returned (.int .i64 (chk8 r)) ∧ G w w' := by
  have HR := Lib.hid (fun (W : World) (hW : G w W) => race_any r W (h.keep hW))
  clear h
  unfold chk8
  generalize raceB r = B at *
  obtain ⟨ra, rc, racers, pa, pc, pools, ta, tc, protests⟩ := r
  unfold Ra.v at *
  have g0 : G w (w.alloc (.cells #[.slice ra racers.length rc, .slice pa pools.length pc, .slice ta protests.length tc] 26)) := (G.rf _).a _
  cases B
  all_goals
    go_enter Tryz.func34, Tryz.ntmps34
    go_wp2_with (go_at_call 68; refine (HR.out _ g0).mono ?_; rintro e w1 ⟨rfl, hG1⟩)
    go_ret
    exact ⟨rfl, g0.t hG1⟩
end Go.Proofs.YtnkmcoljijmgpaaGreat
