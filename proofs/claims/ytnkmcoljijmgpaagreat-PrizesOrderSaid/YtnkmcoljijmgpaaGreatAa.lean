import Derived.Test.YtnkmcoljijmgpaaGreatKa
set_option linter.unusedSimpArgs false
set_option linter.unusedVariables false
namespace Go.Proofs.YtnkmcoljijmgpaaGreat
open Go.RowKit Go.Shelf
attribute [local go_sem] Oper.semAt_some
/-- a racer as it lies -/
structure Rc where
  bird : Int
  owner : Int
  rank : Int
  day : Int
  pa : Option Addr
  pc : Nat
  pools : List Int
instance : Inhabited Rc := ⟨⟨0, 0, 0, 0, none, 0, []⟩⟩
def Rc.v (x : Rc) : Array Value := #[.int .i64 x.bird, .int .i64 x.owner, .int .i64 x.rank, .int .i64 x.day, .slice x.pa x.pools.length x.pc]
/-- a pool as it lies -/
structure Po where
  stake : Int
  cut : Int
  kind : Int
  ta : Option Addr
  tc : Nat
  table : List Int
  quota : Int
  first : Bool
instance : Inhabited Po := ⟨⟨0, 0, 0, none, 0, [], 0, false⟩⟩
def Po.v (x : Po) : Array Value := #[.int .i64 x.stake, .int .i64 x.cut, .int .i64 x.kind, .slice x.ta x.table.length x.tc, .int .i64 x.quota, .bool x.first]
/-- a row of structs: element i's cells -/
def RowE {α : Type} [Inhabited α] (v : α → Array Value) (k : Nat) (W : World) (a : Option Addr) (l : List α) : Prop :=
  l.length = 0 ∨ ∃ g off, a = some ⟨g, off, none⟩ ∧ g < W.heap.size ∧ ∀ i, i < l.length → ∀ r, r < k → W.cell? ⟨g, off + i * k + r, none⟩ = (v (l.getD i default))[r]?
theorem RowE.below {α : Type} [Inhabited α] {v : α → Array Value} {k : Nat} {W W' : World} {a : Option Addr} {l : List α} (h : RowE v k W a l) (hG : G W W') : RowE v k W' a l := by
  rcases h with h | ⟨g, off, h1, h2, h3⟩
  · exact .inl h
  · exact .inr ⟨g, off, h1, Nat.lt_of_lt_of_le h2 hG.size, fun i hi r hr => ((bcellB hG).1 g _ h2).trans (h3 i hi r hr)⟩
structure RcsAt (W : World) (a : Option Addr) (l : List Rc) : Prop where
  row : RowE Rc.v 5 W a l
  pools : ∀ i, i < l.length → IntsAt W (l.getD i default).pa (l.getD i default).pools
structure PosAt (W : World) (a : Option Addr) (l : List Po) : Prop where
  row : RowE Po.v 6 W a l
  tables : ∀ i, i < l.length → IntsAt W (l.getD i default).ta (l.getD i default).table
theorem RcsAt.below {W W' : World} {a : Option Addr} {l : List Rc} (h : RcsAt W a l) (hG : G W W') : RcsAt W' a l := ⟨h.row.below hG, fun i hi => (h.pools i hi).below hG⟩
theorem PosAt.below {W W' : World} {a : Option Addr} {l : List Po} (h : PosAt W a l) (hG : G W W') : PosAt W' a l := ⟨h.row.below hG, fun i hi => (h.tables i hi).below hG⟩
/-- a race as it lies -/
structure Ra where
  ra : Option Addr
  rc : Nat
  racers : List Rc
  pa : Option Addr
  pc : Nat
  pools : List Po
  ta : Option Addr
  tc : Nat
  protests : List Int
def Ra.v (r : Ra) : Array Value := #[.slice r.ra r.racers.length r.rc, .slice r.pa r.pools.length r.pc, .slice r.ta r.protests.length r.tc]
structure Ra.At (r : Ra) (W : World) : Prop where
  rs : RcsAt W r.ra r.racers
  ps : PosAt W r.pa r.pools
  ts : IntsAt W r.ta r.protests
  nr : r.racers.length ≤ 1000
  cr : r.racers.length ≤ r.rc
  ct : r.protests.length ≤ r.tc
  np : r.pools.length ≤ 1000
  nt : r.protests.length ≤ 1000
  nq : ∀ i, i < r.racers.length → (r.racers.getD i default).pools.length ≤ 1000
  nb : ∀ i, i < r.pools.length → (r.pools.getD i default).table.length ≤ 1000
theorem Ra.At.keep {r : Ra} {W W' : World} (h : r.At W) (hG : G W W') : r.At W' := ⟨h.rs.below hG, h.ps.below hG, h.ts.below hG, h.nr, h.cr, h.ct, h.np, h.nt, h.nq, h.nb⟩
/-- all elements -/
def allU (p : Nat → Bool) (n : Nat) : Bool := !anyU (fun i => !p i) n
theorem allU_iff {p : Nat → Bool} {n : Nat} : allU p n = true ↔ ∀ i, i < n → p i = true := by
  unfold allU anyU
  rw [Bool.not_eq_true', List.any_eq_false]
  exact ⟨fun h i hi => by simpa using h i (List.mem_range.2 hi), fun h i hi => by simpa using h i (List.mem_range.1 hi)⟩
theorem isIn_any (n lo hi : Int) (w : World) : Calls Tryz.prog 94 #[.int .i64 n, .int .i64 lo, .int .i64 hi] w fun e w' => e = .returned (.bool (isInB n lo hi)) ∧ G w w' := by
  by_cases h1 : lo ≤ n
  · go_enter Tryz.func94, Tryz.ntmps94
    go_wp2
    go_ret
    exact ⟨by simp [isInB, h1], G.rf _⟩
  · go_enter Tryz.func94, Tryz.ntmps94
    go_wp2
    go_ret
    exact ⟨by rw [show isInB n lo hi = false by unfold isInB; simp; omega]; rfl, G.rf _⟩
/-- sum of a list of small numbers -/
def sumTo (l : List Int) (k : Nat) : Int := (l.take k).sum
theorem sumTo_succ (l : List Int) (k : Nat) (h : k < l.length) : sumTo l (k + 1) = sumTo l k + l.getD k 0 := by
  unfold sumTo
  rw [List.take_add_one, List.sum_append]
  simp [List.getElem?_eq_getElem h, List.getD_eq_getElem?_getD]
set_option maxHeartbeats 1000000 in
theorem sum_any (l : List Int) (a : Option Addr) (cap : Nat) (w : World) (h : IntsAt w a l) (hl : l.length ≤ 1000) (hb : ∀ k, k ≤ l.length → -1000000000 ≤ sumTo l k ∧ sumTo l k ≤ 1000000000) :
    Calls Tryz.prog 75 #[.slice a l.length cap] w fun e w' => e = .returned (.int .i64 l.sum) ∧ G w w' := by
  have HB := Lib.hid hb
  have HF : Hid (sumTo l l.length = l.sum) := by show _ = _; unfold sumTo; rw [List.take_length]
  clear hb
  go_enter Tryz.func75, Tryz.ntmps75
  go_wp2_with fail
  go_loopw [3, 8] (fun s i wr => ∃ k : Nat, k ≤ l.length ∧ s = .int .i64 (sumTo l k) ∧ i = .int .i64 k ∧ G w wr) (fun _ i _ => l.length - (intOf i).toNat)
  case atStart => exact ⟨0, Nat.zero_le _, rfl, rfl, G.rf _⟩
  case round =>
    obtain ⟨k, hk, rfl, rfl, hG⟩ := hrel
    by_cases hlt : k < l.length
    · have hki : (k : Int) < l.length := by omega
      rcases h with rfl | ⟨g, off, rfl, hg, hcell⟩
      · simp at hlt
      have c0 := ((bcellB hG).1 g _ hg).trans (hcell k hlt)
      have lg := Nat.lt_of_lt_of_le hg hG.size
      have HS := Lib.hid (sumTo_succ l k hlt)
      have hb2 := HB.out (k + 1) (by omega)
      rw [HS.out] at hb2
      have x1 : IntKind.i64.wrap (sumTo l k + l.getD k 0) = sumTo l k + l.getD k 0 := IntWalk.i64_in _ (by omega)
      obtain ⟨y, hy⟩ : ∃ y, y = l.getD k 0 := ⟨_, rfl⟩
      rw [← hy] at c0 HS x1
      clear hcell hb2 hy
      go_wp2_with fail
      go_roundw
      case rel => exact ⟨k + 1, by omega, by rw [HS.out], by go_num, hG⟩
      case measure => simp [intOf] <;> omega
    · obtain rfl : k = l.length := by omega
      have hki : ¬ ((l.length : Nat) : Int) < l.length := by omega
      go_wp2_with fail
      go_ret
      exact ⟨by rw [HF.out]; rfl, hG⟩
set_option maxRecDepth 100000 in
set_option maxHeartbeats 4000000 in
theorem IdxInt_any (C : FuncId) (eg : ∀ args w, (callFunc C args).run Tryz.prog w = .ok (.enter C args) w) (lb : Array Value) (W : World) (a : Option Addr) (cap : Nat) (l : List Int) (p : Nat → Bool) (hn : l.length ≤ 1000) (ha : IntsAt W a l)
    (hc : ∀ W', G W W' → ∀ i, i < l.length → Calls Tryz.prog C (#[.int .i64 (l.getD i 0)] ++ lb) W' fun e w' => e = .returned (.bool (p i)) ∧ G W' w') :
    Calls Tryz.prog 117 #[.slice a l.length cap, .func (.func C) #[] lb] W fun e w' => ∃ r : Int, e = .returned (.int .i64 r) ∧ decide (0 ≤ r) = anyU p l.length ∧ G W w' := by
  have HC := Lib.hid hc
  clear hc
  go_enter Tryz.func117, Tryz.ntmps117
  go_wp2
  go_loopw [8] (fun i wr => ∃ k : Nat, k ≤ l.length ∧ i = .int .i64 k ∧ Hid (∀ j, j < k → p j = false) ∧ G W wr) (fun i _ => l.length - (intOf i).toNat)
  case atStart => exact ⟨0, Nat.zero_le _, rfl, fun j hj => by omega, G.rf _⟩
  case round =>
    obtain ⟨k, hk, rfl, hno, hG⟩ := hrel
    by_cases hlt : k < l.length
    · have hki : (k : Int) < l.length := by omega
      rcases ha with rfl | ⟨g, off, rfl, hg, hcell⟩
      · simp at hlt
      have lg := Nat.lt_of_lt_of_le hg hG.size
      have q0 := ((bcellB hG).1 g _ hg).trans (hcell k hlt)
      have HC2 := Lib.hid (HC.out wr hG k hlt)
      obtain ⟨y, hy⟩ : ∃ y, y = l.getD k 0 := ⟨_, rfl⟩
      rw [← hy] at q0 HC2
      clear hy
      clear hcell HC
      cases hp : p k
      · rw [hp] at HC2
        have HP := Lib.hid hp
        clear hp
        go_wp2_with (go_at_fn C; refine (HC2.out).mono ?_; rintro e w1 ⟨rfl, hG1⟩)
        go_roundw
        case rel => exact ⟨k + 1, by omega, by go_num, fun j hj => by
          rcases Nat.lt_or_ge j k with h | h
          · exact hno.out j h
          · obtain rfl : j = k := by omega
            exact HP.out, hG.t hG1⟩
        case measure => simp [intOf] <;> omega
      · rw [hp] at HC2
        have HP := Lib.hid (anyU_yes hlt hp)
        clear hp
        go_wp2_with (go_at_fn C; refine (HC2.out).mono ?_; rintro e w1 ⟨rfl, hG1⟩)
        go_ret
        exact ⟨k, rfl, by rw [HP.out]; simp, hG.t hG1⟩
    · have hki : ¬ (k : Int) < l.length := by omega
      obtain rfl : k = l.length := by omega
      have HP := Lib.hid (anyU_no hno.out)
      go_wp2
      go_ret
      exact ⟨-1, rfl, by rw [HP.out]; rfl, hG⟩
theorem CtInt_any (C : FuncId) (eg : ∀ args w, (callFunc C args).run Tryz.prog w = .ok (.enter C args) w) (lb : Array Value) (W : World) (a : Option Addr) (cap : Nat) (l : List Int) (p : Nat → Bool) (hn : l.length ≤ 1000) (ha : IntsAt W a l)
    (hc : ∀ W', G W W' → ∀ i, i < l.length → Calls Tryz.prog C (#[.int .i64 (l.getD i 0)] ++ lb) W' fun e w' => e = .returned (.bool (p i)) ∧ G W' w') :
    Calls Tryz.prog 95 #[.slice a l.length cap, .func (.func C) #[] lb] W fun e w' => e = .returned (.bool (anyU p l.length)) ∧ G W w' := by
  have HI := Lib.hid (IdxInt_any C eg lb W a cap l p hn ha hc)
  clear ha hc
  go_enter Tryz.func95, Tryz.ntmps95
  go_wp2_with (go_at_call 117; refine (HI.out).mono ?_; rintro e w1 ⟨r, rfl, hr, hG1⟩; have HR := Lib.hid hr; clear hr)
  go_ret
  exact ⟨by rw [← HR.out]; first | rfl | simp, hG1⟩
theorem negInt (C : FuncId) (eg : ∀ args w, (callFunc C args).run Tryz.prog w = .ok (.enter C args) w) (lb : Array Value) (B : Nat) (x : Int) (b : Bool) (W : World) (hB : Blk W B 118 #[.func (.func C) #[] lb])
    (hc : ∀ W', G W W' → Calls Tryz.prog C (#[.int .i64 x] ++ lb) W' fun e w' => e = .returned (.bool b) ∧ G W' w') :
    Calls Tryz.prog 96 #[.int .i64 x, .pointer (some ⟨B, 0, none⟩)] W fun e w' => e = .returned (.bool (!b)) ∧ G W w' := by
  have HC := Lib.hid (hc W (G.rf _))
  have m0 := hB.cell 0
  have l0 := hB.lt
  clear hc
  go_enter Tryz.func96, Tryz.ntmps96
  go_wp2_with (go_at_fn C; refine (HC.out).mono ?_; rintro e w1 ⟨rfl, hG1⟩)
  go_ret
  exact ⟨rfl, hG1⟩
theorem eachInt_any (C : FuncId) (eg : ∀ args w, (callFunc C args).run Tryz.prog w = .ok (.enter C args) w) (lb : Array Value) (W : World) (a : Option Addr) (cap : Nat) (l : List Int) (p : Nat → Bool) (hn : l.length ≤ 1000) (ha : IntsAt W a l)
    (hc : ∀ W', G W W' → ∀ i, i < l.length → Calls Tryz.prog C (#[.int .i64 (l.getD i 0)] ++ lb) W' fun e w' => e = .returned (.bool (p i)) ∧ G W' w') :
    Calls Tryz.prog 71 #[.slice a l.length cap, .func (.func C) #[] lb] W fun e w' => e = .returned (.bool (allU p l.length)) ∧ G W w' := by
  have g0 : G W (W.alloc (.cells #[.func (.func C) #[] lb] 118)) := (G.rf _).a _
  have b0 : Blk (W.alloc (.cells #[.func (.func C) #[] lb] 118)) W.heap.size 118 #[.func (.func C) #[] lb] := Blk.new _ _ _
  have HCT := Lib.hid (CtInt_any 96 (enters_of Tryz.func96 (by kernel_rfl) rfl) #[.pointer (some ⟨W.heap.size, 0, none⟩)] (W.alloc (.cells #[.func (.func C) #[] lb] 118)) a cap l (fun i => !p i) hn (ha.below g0) (fun W' hW i hi => negInt C eg lb W.heap.size _ (p i) W' (b0.keep hW) (fun W2 h2 => hc W2 (g0.t (hW.t h2)) i hi)))
  clear ha hc
  go_enter Tryz.func71, Tryz.ntmps71
  go_wp2_with (go_at_call 95; refine (HCT.out).mono ?_; rintro e w1 ⟨rfl, hG1⟩)
  go_ret
  exact ⟨rfl, g0.t hG1⟩
set_option maxRecDepth 100000 in
set_option maxHeartbeats 4000000 in
theorem IdxPo_any (C : FuncId) (eg : ∀ args w, (callFunc C args).run Tryz.prog w = .ok (.enter C args) w) (lb : Array Value) (W : World) (a : Option Addr) (cap : Nat) (l : List Po) (p : Nat → Bool) (hn : l.length ≤ 1000) (ha : RowE Po.v 6 W a l)
    (hc : ∀ W', G W W' → ∀ i, i < l.length → Calls Tryz.prog C (#[.agg (l.getD i default).v] ++ lb) W' fun e w' => e = .returned (.bool (p i)) ∧ G W' w') :
    Calls Tryz.prog 147 #[.slice a l.length cap, .func (.func C) #[] lb] W fun e w' => ∃ r : Int, e = .returned (.int .i64 r) ∧ decide (0 ≤ r) = anyU p l.length ∧ G W w' := by
  have HC := Lib.hid hc
  clear hc
  go_enter Tryz.func147, Tryz.ntmps147
  go_wp2
  go_loopw [8] (fun i wr => ∃ k : Nat, k ≤ l.length ∧ i = .int .i64 k ∧ Hid (∀ j, j < k → p j = false) ∧ G W wr) (fun i _ => l.length - (intOf i).toNat)
  case atStart => exact ⟨0, Nat.zero_le _, rfl, fun j hj => by omega, G.rf _⟩
  case round =>
    obtain ⟨k, hk, rfl, hno, hG⟩ := hrel
    by_cases hlt : k < l.length
    · have hki : (k : Int) < l.length := by omega
      rcases ha with h | ⟨g, off, rfl, hg, hcell⟩
      · omega
      have lg := Nat.lt_of_lt_of_le hg hG.size
      have hcl := fun r hr => ((bcellB hG).1 g _ hg).trans (hcell k hlt r hr)
      have HC2 := Lib.hid (HC.out wr hG k hlt)
      obtain ⟨y, hy⟩ : ∃ y, y = l.getD k default := ⟨_, rfl⟩
      rw [← hy] at hcl HC2
      clear hy
      obtain ⟨ystake, ycut, ykind, yta, ytc, ytable, yquota, yfirst⟩ := y
      unfold Po.v at HC2 hcl
      have q0 : wr.cell? ⟨g, off + k * 6, none⟩ = some (.int .i64 ystake) := hcl 0 (by omega)
      have q1 : wr.cell? ⟨g, off + k * 6 + 1, none⟩ = some (.int .i64 ycut) := hcl 1 (by omega)
      have q2 : wr.cell? ⟨g, off + k * 6 + 2, none⟩ = some (.int .i64 ykind) := hcl 2 (by omega)
      have q3 : wr.cell? ⟨g, off + k * 6 + 3, none⟩ = some (.slice yta ytable.length ytc) := hcl 3 (by omega)
      have q4 : wr.cell? ⟨g, off + k * 6 + 4, none⟩ = some (.int .i64 yquota) := hcl 4 (by omega)
      have q5 : wr.cell? ⟨g, off + k * 6 + 5, none⟩ = some (.bool yfirst) := hcl 5 (by omega)
      clear hcl
      clear hcell HC
      cases hp : p k
      · rw [hp] at HC2
        have HP := Lib.hid hp
        clear hp
        go_wp2_with (go_at_fn C; refine (HC2.out).mono ?_; rintro e w1 ⟨rfl, hG1⟩)
        go_roundw
        case rel => exact ⟨k + 1, by omega, by go_num, fun j hj => by
          rcases Nat.lt_or_ge j k with h | h
          · exact hno.out j h
          · obtain rfl : j = k := by omega
            exact HP.out, hG.t hG1⟩
        case measure => simp [intOf] <;> omega
      · rw [hp] at HC2
        have HP := Lib.hid (anyU_yes hlt hp)
        clear hp
        go_wp2_with (go_at_fn C; refine (HC2.out).mono ?_; rintro e w1 ⟨rfl, hG1⟩)
        go_ret
        exact ⟨k, rfl, by rw [HP.out]; simp, hG.t hG1⟩
    · have hki : ¬ (k : Int) < l.length := by omega
      obtain rfl : k = l.length := by omega
      have HP := Lib.hid (anyU_no hno.out)
      go_wp2
      go_ret
      exact ⟨-1, rfl, by rw [HP.out]; rfl, hG⟩
theorem CtPo_any (C : FuncId) (eg : ∀ args w, (callFunc C args).run Tryz.prog w = .ok (.enter C args) w) (lb : Array Value) (W : World) (a : Option Addr) (cap : Nat) (l : List Po) (p : Nat → Bool) (hn : l.length ≤ 1000) (ha : RowE Po.v 6 W a l)
    (hc : ∀ W', G W W' → ∀ i, i < l.length → Calls Tryz.prog C (#[.agg (l.getD i default).v] ++ lb) W' fun e w' => e = .returned (.bool (p i)) ∧ G W' w') :
    Calls Tryz.prog 113 #[.slice a l.length cap, .func (.func C) #[] lb] W fun e w' => e = .returned (.bool (anyU p l.length)) ∧ G W w' := by
  have HI := Lib.hid (IdxPo_any C eg lb W a cap l p hn ha hc)
  clear ha hc
  go_enter Tryz.func113, Tryz.ntmps113
  go_wp2_with (go_at_call 147; refine (HI.out).mono ?_; rintro e w1 ⟨r, rfl, hr, hG1⟩; have HR := Lib.hid hr; clear hr)
  go_ret
  exact ⟨by rw [← HR.out]; first | rfl | simp, hG1⟩
theorem negPo (C : FuncId) (eg : ∀ args w, (callFunc C args).run Tryz.prog w = .ok (.enter C args) w) (lb : Array Value) (B : Nat) (x : Po) (b : Bool) (W : World) (hB : Blk W B 82 #[.func (.func C) #[] lb])
    (hc : ∀ W', G W W' → Calls Tryz.prog C (#[.agg x.v] ++ lb) W' fun e w' => e = .returned (.bool b) ∧ G W' w') :
    Calls Tryz.prog 114 #[.agg x.v, .pointer (some ⟨B, 0, none⟩)] W fun e w' => e = .returned (.bool (!b)) ∧ G W w' := by
  obtain ⟨ystake, ycut, ykind, yta, ytc, ytable, yquota, yfirst⟩ := x
  unfold Po.v at *
  have g0 : G W (W.alloc (.cells #[.int .i64 ystake, .int .i64 ycut, .int .i64 ykind, .slice yta ytable.length ytc, .int .i64 yquota, .bool yfirst] 42)) := (G.rf _).a _
  have HC := Lib.hid (hc _ g0)
  have b0 := hB.keep g0
  have m0 := b0.cell 0
  have l0 := b0.lt
  clear hc
  go_enter Tryz.func114, Tryz.ntmps114
  go_wp2_with (go_at_fn C; refine (HC.out).mono ?_; rintro e w1 ⟨rfl, hG1⟩)
  go_ret
  exact ⟨rfl, g0.t hG1⟩
theorem eachPo_any (C : FuncId) (eg : ∀ args w, (callFunc C args).run Tryz.prog w = .ok (.enter C args) w) (lb : Array Value) (W : World) (a : Option Addr) (cap : Nat) (l : List Po) (p : Nat → Bool) (hn : l.length ≤ 1000) (ha : RowE Po.v 6 W a l)
    (hc : ∀ W', G W W' → ∀ i, i < l.length → Calls Tryz.prog C (#[.agg (l.getD i default).v] ++ lb) W' fun e w' => e = .returned (.bool (p i)) ∧ G W' w') :
    Calls Tryz.prog 89 #[.slice a l.length cap, .func (.func C) #[] lb] W fun e w' => e = .returned (.bool (allU p l.length)) ∧ G W w' := by
  have g0 : G W (W.alloc (.cells #[.func (.func C) #[] lb] 82)) := (G.rf _).a _
  have b0 : Blk (W.alloc (.cells #[.func (.func C) #[] lb] 82)) W.heap.size 82 #[.func (.func C) #[] lb] := Blk.new _ _ _
  have HCT := Lib.hid (CtPo_any 114 (enters_of Tryz.func114 (by kernel_rfl) rfl) #[.pointer (some ⟨W.heap.size, 0, none⟩)] (W.alloc (.cells #[.func (.func C) #[] lb] 82)) a cap l (fun i => !p i) hn (ha.below g0) (fun W' hW i hi => negPo C eg lb W.heap.size _ (p i) W' (b0.keep hW) (fun W2 h2 => hc W2 (g0.t (hW.t h2)) i hi)))
  clear ha hc
  go_enter Tryz.func89, Tryz.ntmps89
  go_wp2_with (go_at_call 113; refine (HCT.out).mono ?_; rintro e w1 ⟨rfl, hG1⟩)
  go_ret
  exact ⟨rfl, g0.t hG1⟩
set_option maxRecDepth 100000 in
set_option maxHeartbeats 4000000 in
theorem IdxRc_any (C : FuncId) (eg : ∀ args w, (callFunc C args).run Tryz.prog w = .ok (.enter C args) w) (lb : Array Value) (W : World) (a : Option Addr) (cap : Nat) (l : List Rc) (p : Nat → Bool) (hn : l.length ≤ 1000) (ha : RowE Rc.v 5 W a l)
    (hc : ∀ W', G W W' → ∀ i, i < l.length → Calls Tryz.prog C (#[.agg (l.getD i default).v] ++ lb) W' fun e w' => e = .returned (.bool (p i)) ∧ G W' w') :
    Calls Tryz.prog 118 #[.slice a l.length cap, .func (.func C) #[] lb] W fun e w' => ∃ r : Int, e = .returned (.int .i64 r) ∧ decide (0 ≤ r) = anyU p l.length ∧ G W w' := by
  have HC := Lib.hid hc
  clear hc
  go_enter Tryz.func118, Tryz.ntmps118
  go_wp2
  go_loopw [8] (fun i wr => ∃ k : Nat, k ≤ l.length ∧ i = .int .i64 k ∧ Hid (∀ j, j < k → p j = false) ∧ G W wr) (fun i _ => l.length - (intOf i).toNat)
  case atStart => exact ⟨0, Nat.zero_le _, rfl, fun j hj => by omega, G.rf _⟩
  case round =>
    obtain ⟨k, hk, rfl, hno, hG⟩ := hrel
    by_cases hlt : k < l.length
    · have hki : (k : Int) < l.length := by omega
      rcases ha with h | ⟨g, off, rfl, hg, hcell⟩
      · omega
      have lg := Nat.lt_of_lt_of_le hg hG.size
      have hcl := fun r hr => ((bcellB hG).1 g _ hg).trans (hcell k hlt r hr)
      have HC2 := Lib.hid (HC.out wr hG k hlt)
      obtain ⟨y, hy⟩ : ∃ y, y = l.getD k default := ⟨_, rfl⟩
      rw [← hy] at hcl HC2
      clear hy
      obtain ⟨ybird, yowner, yrank, yday, ypa, ypc, ypools⟩ := y
      unfold Rc.v at HC2 hcl
      have q0 : wr.cell? ⟨g, off + k * 5, none⟩ = some (.int .i64 ybird) := hcl 0 (by omega)
      have q1 : wr.cell? ⟨g, off + k * 5 + 1, none⟩ = some (.int .i64 yowner) := hcl 1 (by omega)
      have q2 : wr.cell? ⟨g, off + k * 5 + 2, none⟩ = some (.int .i64 yrank) := hcl 2 (by omega)
      have q3 : wr.cell? ⟨g, off + k * 5 + 3, none⟩ = some (.int .i64 yday) := hcl 3 (by omega)
      have q4 : wr.cell? ⟨g, off + k * 5 + 4, none⟩ = some (.slice ypa ypools.length ypc) := hcl 4 (by omega)
      clear hcl
      clear hcell HC
      cases hp : p k
      · rw [hp] at HC2
        have HP := Lib.hid hp
        clear hp
        go_wp2_with (go_at_fn C; refine (HC2.out).mono ?_; rintro e w1 ⟨rfl, hG1⟩)
        go_roundw
        case rel => exact ⟨k + 1, by omega, by go_num, fun j hj => by
          rcases Nat.lt_or_ge j k with h | h
          · exact hno.out j h
          · obtain rfl : j = k := by omega
            exact HP.out, hG.t hG1⟩
        case measure => simp [intOf] <;> omega
      · rw [hp] at HC2
        have HP := Lib.hid (anyU_yes hlt hp)
        clear hp
        go_wp2_with (go_at_fn C; refine (HC2.out).mono ?_; rintro e w1 ⟨rfl, hG1⟩)
        go_ret
        exact ⟨k, rfl, by rw [HP.out]; simp, hG.t hG1⟩
    · have hki : ¬ (k : Int) < l.length := by omega
      obtain rfl : k = l.length := by omega
      have HP := Lib.hid (anyU_no hno.out)
      go_wp2
      go_ret
      exact ⟨-1, rfl, by rw [HP.out]; rfl, hG⟩
theorem CtRc_any (C : FuncId) (eg : ∀ args w, (callFunc C args).run Tryz.prog w = .ok (.enter C args) w) (lb : Array Value) (W : World) (a : Option Addr) (cap : Nat) (l : List Rc) (p : Nat → Bool) (hn : l.length ≤ 1000) (ha : RowE Rc.v 5 W a l)
    (hc : ∀ W', G W W' → ∀ i, i < l.length → Calls Tryz.prog C (#[.agg (l.getD i default).v] ++ lb) W' fun e w' => e = .returned (.bool (p i)) ∧ G W' w') :
    Calls Tryz.prog 97 #[.slice a l.length cap, .func (.func C) #[] lb] W fun e w' => e = .returned (.bool (anyU p l.length)) ∧ G W w' := by
  have HI := Lib.hid (IdxRc_any C eg lb W a cap l p hn ha hc)
  clear ha hc
  go_enter Tryz.func97, Tryz.ntmps97
  go_wp2_with (go_at_call 118; refine (HI.out).mono ?_; rintro e w1 ⟨r, rfl, hr, hG1⟩; have HR := Lib.hid hr; clear hr)
  go_ret
  exact ⟨by rw [← HR.out]; first | rfl | simp, hG1⟩
end Go.Proofs.YtnkmcoljijmgpaaGreat
