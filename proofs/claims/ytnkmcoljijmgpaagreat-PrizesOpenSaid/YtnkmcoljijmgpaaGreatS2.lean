import Derived.Below
import Derived.BigQuiet
import Derived.Deep.AppendLies
import Derived.Deep.Draws
import Derived.Deep.QuietTactic
import Derived.Deep.RegionHeld
import Derived.Deep.Slices
import Derived.Ground.Names2Prog
import Derived.Ground.SlsfProg
import Derived.Ground.SlsoProg
import Derived.IntWalk
import Derived.Laws.AppendOwn
import Derived.Laws.AppendOwnNone
import Derived.Laws.OwnMore
import Derived.Laws.Rows
import Derived.Laws.StructEq
import Derived.Lib.Hide
import Derived.Lib.SlKeysI
import Derived.Lib.SliceRun
import Derived.Lib.SmallJoins
import Derived.LoopIn
import Derived.LoopNIn
import Derived.Maps.RangeWalk
import Derived.OpenShut
import Derived.OrdersHeld
import Derived.OrdersIn
import Derived.Outline
import Derived.OwnWalkIn
import Derived.ProofKit
import Derived.RangeFuncBound
import Derived.RangeFuncCalls
import Derived.RangeFuncLeaves
import Derived.RangeFuncNested
import Derived.Shelf.Abstract
import Derived.Shelf.GgSortFunc.InsertionK
import Derived.Shelf.RegionOpen
import Derived.Shelf.SlSortCmp.NoneTotal
import Derived.Shelf.SlSortCmp.WholeK
import Derived.Shelf.SlSorted.Search
import Derived.Shelf.Slices.Cells
import Derived.Shelf.Slices.CompactI
import Derived.Shelf.Slices.In.SortNone
import Derived.Shelf.Slices.SearchI
import Derived.Shelf.Small.Bits
import Derived.Shelf.Sort.Plain
import Derived.Shelf.Strconv.Itoa0
import Derived.Sort.Grow
import Derived.TacticsIn
import Derived.TacticsInMore
import Derived.Test.YtnkmcoljijmgpaaGreatProg
import Derived.WalkKit
import Derived.WalkSpells
import Derived.Test.YtnkmcoljijmgpaaGreatS1
set_option linter.unusedSimpArgs false
set_option linter.unusedVariables false
namespace Go.Proofs.YtnkmcoljijmgpaaGreat
open Go.RowKit Go.Shelf Go.Sort
attribute [local go_sem] Oper.semAt_some
set_option maxRecDepth 100000 in
set_option maxHeartbeats 4000000 in
theorem IdxRc_ex (C : FuncId) (eg : ∀ args w, (callFunc C args).run Tryz.prog w = .ok (.enter C args) w) (lb : Array Value) (W : World) (a : Option Addr) (cap : Nat) (l : List Rc) (p : Nat → Bool) (hn : l.length ≤ 1000) (ha : RowE Rc.v 5 W a l)
    (hc : ∀ W', G W W' → ∀ i, i < l.length → Calls Tryz.prog C (#[.agg (l.getD i default).v] ++ lb) W' fun e w' => e = .returned (.bool (p i)) ∧ G W' w') :
    Calls Tryz.prog 118 #[.slice a l.length cap, .func (.func C) #[] lb] W fun e w' => ∃ r : Int, e = .returned (.int .i64 r) ∧ ((r = -1 ∧ ∀ j, j < l.length → p j = false) ∨ ∃ k : Nat, r = (k : Int) ∧ k < l.length ∧ p k = true ∧ ∀ j, j < k → p j = false) ∧ G W w' := by
  have HC := Lib.hid hc
  clear hc
  go_enter Tryz.func118, Tryz.ntmps118
  go_wp2
  go_loopw [8] (fun i wr => ∃ k : Nat, k ≤ l.length ∧ i = .int .i64 k ∧ Hid (∀ j, j < k → p j = false) ∧ G W wr) (fun i _ => l.length - (intOf i).toNat)
  case atStart => exact ⟨0, Nat.zero_le _, rfl, fun j hj => by omega, G.rf _⟩
  case round =>
    obtain ⟨k, hk, rfl, hno, hG⟩ := hrel
    by_cases hlt : k < l.length
    · have hki : (k : Int) < l.length := by omega
      rcases ha with h | ⟨g, off, rfl, hg, hcell⟩
      · omega
      have lg := Nat.lt_of_lt_of_le hg hG.size
      have hcl := fun r hr => ((bcellB hG).1 g _ hg).trans (hcell k hlt r hr)
      have HC2 := Lib.hid (HC.out wr hG k hlt)
      obtain ⟨y, hy⟩ : ∃ y, y = l.getD k default := ⟨_, rfl⟩
      rw [← hy] at hcl HC2
      clear hy
      obtain ⟨ybird, yowner, yrank, yday, ypa, ypc, ypools⟩ := y
      unfold Rc.v at HC2 hcl
      have q0 : wr.cell? ⟨g, off + k * 5, none⟩ = some (.int .i64 ybird) := hcl 0 (by omega)
      have q1 : wr.cell? ⟨g, off + k * 5 + 1, none⟩ = some (.int .i64 yowner) := hcl 1 (by omega)
      have q2 : wr.cell? ⟨g, off + k * 5 + 2, none⟩ = some (.int .i64 yrank) := hcl 2 (by omega)
      have q3 : wr.cell? ⟨g, off + k * 5 + 3, none⟩ = some (.int .i64 yday) := hcl 3 (by omega)
      have q4 : wr.cell? ⟨g, off + k * 5 + 4, none⟩ = some (.slice ypa ypools.length ypc) := hcl 4 (by omega)
      clear hcl
      clear hcell HC
      cases hp : p k
      · rw [hp] at HC2
        have HP := Lib.hid hp
        clear hp
        go_wp2_with (go_at_fn C; refine (HC2.out).mono ?_; rintro e w1 ⟨rfl, hG1⟩)
        go_roundw
        case rel => exact ⟨k + 1, by omega, by go_num, fun j hj => by
          rcases Nat.lt_or_ge j k with h | h
          · exact hno.out j h
          · obtain rfl : j = k := by omega
            exact HP.out, hG.t hG1⟩
        case measure => simp [intOf] <;> omega
      · rw [hp] at HC2
        have HP := Lib.hid hp
        clear hp
        go_wp2_with (go_at_fn C; refine (HC2.out).mono ?_; rintro e w1 ⟨rfl, hG1⟩)
        go_ret
        exact ⟨k, rfl, .inr ⟨k, rfl, hlt, HP.out, hno.out⟩, hG.t hG1⟩
    · have hki : ¬ (k : Int) < l.length := by omega
      obtain rfl : k = l.length := by omega
      go_wp2
      go_ret
      exact ⟨-1, rfl, .inl ⟨rfl, hno.out⟩, hG⟩
theorem Blk.setMany {g : Nat} {t : TypeId} : ∀ (vs : List Value) (o : Nat) (W : World) (cs : Array Value), Blk W g t cs → Blk (W.setCells g o vs) g t (setMany cs o vs)
  | [], _, _, _, h => h
  | v :: r, o, W, cs, h => Blk.setMany r (o + 1) _ _ (h.set_ o v)
theorem G_setCells {w0 : World} {g : Nat} (hg : w0.heap.size ≤ g) : ∀ (vs : List Value) (o : Nat) (W : World), G w0 W → G w0 (W.setCells g o vs)
  | [], _, _, h => h
  | v :: r, o, W, h => G_setCells hg r (o + 1) _ (h.s (p := ⟨g, o, none⟩) hg v)
theorem many_get {cs : Array Value} {o : Nat} {vs : List Value} {t : Nat} (h : t < cs.size) : (setMany cs o vs)[t]? = if o ≤ t ∧ t < o + vs.length then vs[t - o]? else cs[t]? := by
  have e := get_setMany vs o cs t h
  have h2 : t < (setMany cs o vs).size := by rw [size_setMany]; exact h
  rw [getElem!_pos _ t h2] at e
  rw [Array.getElem?_eq_getElem h2, e]
  by_cases hc : o ≤ t ∧ t < o + vs.length
  · rw [if_pos hc, if_pos hc]
    have h3 : t - o < vs.length := by omega
    rw [getElem!_pos vs _ h3, List.getElem?_eq_getElem h3]
  · rw [if_neg hc, if_neg hc, getElem!_pos cs t h, Array.getElem?_eq_getElem h]
theorem blk_has {W : World} {g : Nat} {t : TypeId} {cs : Array Value} (h : Blk W g t cs) {i : Nat} (hi : i < cs.size) : (W.cell? ⟨g, i, none⟩).isSome = true := by
  rw [h.cell i, Array.getElem?_eq_getElem hi]
  rfl
/-- what is kept of the first j -/
def keep (p : Rc → Bool) (l : List Rc) (j : Nat) : List Rc := (l.take j).filter fun x => !p x
theorem keep_succ (p : Rc → Bool) (l : List Rc) {j : Nat} (h : j < l.length) : keep p l (j + 1) = if p (l.getD j default) = true then keep p l j else keep p l j ++ [l.getD j default] := by
  unfold keep
  rw [List.take_add_one, List.filter_append, List.getElem?_eq_getElem h]
  have e : l.getD j default = l[j] := by simp [List.getD_eq_getElem?_getD, h]
  rw [e]
  cases hv : p l[j] <;> simp [hv]
theorem keep_len (p : Rc → Bool) (l : List Rc) (j : Nat) : (keep p l j).length ≤ j := by
  unfold keep
  exact Nat.le_trans (List.length_filter_le _ _) (by rw [List.length_take]; omega)
theorem keep_all (p : Rc → Bool) (l : List Rc) (j : Nat) (h : ∀ i, i < j → p (l.getD i default) = false) (hj : j ≤ l.length) : keep p l j = l.take j := by
  unfold keep
  apply List.filter_eq_self.2
  intro x hx
  obtain ⟨i, hi, rfl⟩ := List.mem_iff_getElem.1 hx
  rw [List.length_take] at hi
  have := h i (by omega)
  rw [List.getElem_take]
  simp [List.getD_eq_getElem?_getD, show i < l.length by omega] at this
  simp [this]
theorem keep_full (p : Rc → Bool) (l : List Rc) : keep p l l.length = l.filter fun x => !p x := by unfold keep; rw [List.take_length]
/-- the row while DeleteFunc works: the first ones are those kept, from j on it is as it was -/
structure DelAt (W : World) (g cap : Nat) (p : Rc → Bool) (l : List Rc) (j : Nat) (cur : Array Value) : Prop where
  blk : Blk W g 60 cur
  sz : cur.size = cap * 5
  done : ∀ t, t < (keep p l j).length → ∀ r, r < 5 → cur[t * 5 + r]? = (rcE ((keep p l j).getD t default))[r]?
  rest : ∀ t, j ≤ t → t < l.length → ∀ r, r < 5 → cur[t * 5 + r]? = (rcE (l.getD t default))[r]?
theorem DelAt.keepG {W W' : World} {g cap j : Nat} {p : Rc → Bool} {l : List Rc} {cur : Array Value} (h : DelAt W g cap p l j cur) (hG : G W W') : DelAt W' g cap p l j cur := ⟨h.blk.keep hG, h.sz, h.done, h.rest⟩
theorem DelAt.skip {W : World} {g cap j : Nat} {p : Rc → Bool} {l : List Rc} {cur : Array Value} (h : DelAt W g cap p l j cur) (hj : j < l.length) (hp : p (l.getD j default) = true) : DelAt W g cap p l (j + 1) cur :=
  ⟨h.blk, h.sz, by rw [keep_succ p l hj, if_pos hp]; exact h.done, fun t a b => h.rest t (by omega) b⟩
theorem DelAt.put {W : World} {g cap j : Nat} {p : Rc → Bool} {l : List Rc} {cur : Array Value} (h : DelAt W g cap p l j cur) (hj : j < l.length) (hc : l.length ≤ cap) (hp : p (l.getD j default) = false) :
    DelAt (W.setCells g ((keep p l j).length * 5) (rcE (l.getD j default))) g cap p l (j + 1) (setMany cur ((keep p l j).length * 5) (rcE (l.getD j default))) := by
  have hk := keep_len p l j
  have hs := h.sz
  refine ⟨Blk.setMany _ _ _ _ h.blk, by rw [size_setMany]; exact hs, ?_, ?_⟩
  · rw [keep_succ p l hj, if_neg (by rw [hp]; simp)]
    intro t ht r hr
    rw [List.length_append, List.length_singleton] at ht
    rw [many_get (by omega), rcE_len]
    by_cases h1 : t < (keep p l j).length
    · rw [if_neg (by omega), h.done t h1 r hr]
      simp [List.getD_eq_getElem?_getD, List.getElem?_append_left h1]
    · obtain rfl : t = (keep p l j).length := by omega
      rw [if_pos (by omega), show (keep p l j).length * 5 + r - (keep p l j).length * 5 = r by omega]
      simp [List.getD_eq_getElem?_getD]
  · intro t ht1 ht2 r hr
    rw [many_get (by omega), rcE_len, if_neg (by omega)]
    exact h.rest t (by omega) ht2 r hr
theorem DelAt.start {W : World} {g cap k : Nat} {p : Rc → Bool} {l : List Rc} {cur : Array Value} (hB : Blk W g 60 cur) (hs : cur.size = cap * 5) (ht : cur.toList.take (l.length * 5) = rcV l) (hk : k < l.length) (hp : p (l.getD k default) = true) (hn : ∀ i, i < k → p (l.getD i default) = false) :
    (keep p l (k + 1)).length = k ∧ DelAt W g cap p l (k + 1) cur := by
  have hget : ∀ t, t < l.length → ∀ r, r < 5 → cur[t * 5 + r]? = (rcE (l.getD t default))[r]? := fun t ht1 r hr => by
    have e := rcV_get l ht1 hr
    have h5 : (cur.toList.take (l.length * 5))[t * 5 + r]? = (rcV l)[t * 5 + r]? := by rw [ht]
    rw [List.getElem?_take_of_lt (by omega)] at h5
    rw [← Array.getElem?_toList, h5, e]
  have hk1 : keep p l (k + 1) = l.take k := by rw [keep_succ p l hk, if_pos hp, keep_all p l k hn (by omega)]
  have hkl : (l.take k).length = k := by rw [List.length_take]; omega
  refine ⟨by rw [hk1, hkl], ⟨hB, hs, ?_, fun t _ b => hget t b⟩⟩
  rw [hk1]
  intro t ht1 r hr
  rw [hkl] at ht1
  rw [hget t (by omega) r hr]
  simp [List.getD_eq_getElem?_getD, List.getElem?_take_of_lt ht1]
/-- the end: the kept ones' row -/
theorem DelAt.fin {W W' : World} {g cap B c : Nat} {p : Rc → Bool} {l : List Rc} {cur : Array Value} (h : DelAt W g cap p l l.length cur) (hg : B ≤ g) (h1 : l.length ≤ cap) (h2 : cap ≤ maxLen) (vs : List Value) (hW : W' = W.setCells g ((keep p l l.length).length * 5) vs) :
    W'.ownsRow B 60 5 (.slice (some ⟨g, 0, none⟩) (keep p l l.length).length cap) (keep p l l.length).length (rcV (keep p l l.length)) := by
  subst hW
  have hk := keep_len p l l.length
  have hs := h.sz
  refine ⟨rcV_len _, .inr ⟨g, cap, _, rfl, hg, Blk.setMany vs _ _ _ h.blk, by omega, h2, by rw [size_setMany]; exact hs, ?_⟩⟩
  apply List.ext_getElem?
  intro t
  by_cases ht : t < (keep p l l.length).length * 5
  · rw [List.getElem?_take_of_lt ht, Array.getElem?_toList, many_get (by omega), if_neg (by omega)]
    have e := h.done (t / 5) (by omega) (t % 5) (by omega)
    have e2 := rcV_get (keep p l l.length) (i := t / 5) (r := t % 5) (by omega) (by omega)
    rw [show t / 5 * 5 + t % 5 = t by omega] at e e2
    rw [e, e2]
  · rw [List.getElem?_take_eq_none (by omega), List.getElem?_eq_none (by rw [rcV_len]; omega)]
end Go.Proofs.YtnkmcoljijmgpaaGreat

set_option linter.unusedSimpArgs false
set_option linter.unusedVariables false
namespace Go.Proofs.YtnkmcoljijmgpaaGreat
open Go.RowKit Go.Shelf Go.Sort
attribute [local go_sem] Oper.semAt_some
theorem clear60 (w : World) (g o n c : Nat) {cur : Array Value} (hB : Blk w g 60 cur) (hin : o + n * 5 ≤ cur.size) : ∃ vs, ∀ ty, (Builtin.clear_ #[22] ty #[.slice (some ⟨g, o, none⟩) n c]).run Tryz.prog w = .ok (.tuple #[]) (w.setCells g o vs) := by
  cases n with
  | zero => exact ⟨[], fun ty => by simp [Builtin.clear_, run_underlying Tryz.underlying22, World.setCells]⟩
  | succ m =>
    refine ⟨(Builtin.zeroCells (Value.cells (.agg #[.int .i64 0, .int .i64 0, .int .i64 0, .int .i64 0, .slice none 0 0])) (m + 1)).toList, fun ty => ?_⟩
    have hl : (Builtin.zeroCells (Value.cells (.agg #[.int .i64 0, .int .i64 0, .int .i64 0, .int .i64 0, .slice none 0 0])) (m + 1)).toList.length = (m + 1) * 5 := by simp [Builtin.zeroCells, Value.cells]
    have h1 : ∀ v ∈ (Builtin.zeroCells (Value.cells (.agg #[.int .i64 0, .int .i64 0, .int .i64 0, .int .i64 0, .slice none 0 0])) (m + 1)).toList, v.oneCell' = true := by
      intro v hv
      simp only [Builtin.zeroCells, Array.toList_map, List.mem_map] at hv
      obtain ⟨i, hi, rfl⟩ := hv
      show (#[Value.int .i64 0, Value.int .i64 0, Value.int .i64 0, Value.int .i64 0, Value.slice none 0 0][i % 5]!).oneCell' = true
      have h5 : i % 5 = 0 ∨ i % 5 = 1 ∨ i % 5 = 2 ∨ i % 5 = 3 ∨ i % 5 = 4 := by omega
      rcases h5 with h5 | h5 | h5 | h5 | h5 <;> rw [h5] <;> rfl
    have hst := run_storeCells_cells (P := Tryz.prog) g o _ 0 w (fun j hj => by rw [Nat.add_zero]; exact blk_has hB (by omega)) (fun j hj => hB.frozen _) h1
    rw [Nat.add_zero] at hst
    have hz := Tryz.zeroValue60 w
    simp [Builtin.clear_, run_underlying Tryz.underlying22, hz, hst]
def DelPost (w0 : World) (B : Nat) (f : List Rc) (e : Ending) (w' : World) : Prop := ∃ v', e = .returned v' ∧ w'.ownsRow B 60 5 v' f.length (rcV f) ∧ G w0 w'
set_option maxRecDepth 100000 in
set_option maxHeartbeats 8000000 in
/-- slices.DeleteFunc at a row of one's own -/
theorem delete_any (C : FuncId) (eg : ∀ args w, (callFunc C args).run Tryz.prog w = .ok (.enter C args) w) (lb : Array Value) (p : Rc → Bool) (l : List Rc) (B : Nat) (v : Value) (w0 W : World) (hB : w0.heap.size ≤ B) (hG0 : G w0 W) (h : W.ownsRow B 60 5 v l.length (rcV l)) (hl : l.length ≤ 1000)
    (hc : ∀ W', G w0 W' → ∀ i, i < l.length → Calls Tryz.prog C (#[.agg (l.getD i default).v] ++ lb) W' fun e w' => e = .returned (.bool (p (l.getD i default))) ∧ G W' w') :
    Calls Tryz.prog 105 #[v, .func (.func C) #[] lb] W (DelPost w0 B (l.filter fun x => !p x)) := by
  obtain ⟨a0, c0, hv0, hrow⟩ := own_row h
  have hi := IdxRc_ex C eg lb W a0 c0 l (fun i => p (l.getD i default)) hl hrow (fun W' hW i hi => hc W' (hG0.t hW) i hi)
  rw [← hv0] at hi
  have HI := Lib.hid hi
  clear hi
  have HPK : Hid (∀ w' v', w'.ownsRow B 60 5 v' (keep p l l.length).length (rcV (keep p l l.length)) → G w0 w' → DelPost w0 B (l.filter fun x => !p x) (.returned v') w') := fun w' v' a b => ⟨v', rfl, by rw [keep_full] at a; exact a, b⟩
  generalize DelPost w0 B (l.filter fun x => !p x) = PP at *
  have HC := Lib.hid hc
  have HW := Lib.hid h
  clear hc hrow hv0 h
  go_enter Tryz.func105, Tryz.ntmps105
  go_upto_region 2 with (go_at_call 118; refine (HI.out).mono ?_; rintro e w1 ⟨r, rfl, hr, hG1⟩)
  have HO := Lib.hid (own_G HW.out hG1)
  replace hG0 := hG0.t hG1
  clear hG1
  rcases hr with ⟨rfl, hn⟩ | ⟨k, rfl, hk, hpk, hn⟩
  · have hf := keep_all p l l.length hn (Nat.le_refl _)
    rw [List.take_length] at hf
    have HF := Lib.hid (HPK.out w1 v (by rw [hf]; exact HO.out) hG0)
    clear hn hf
    go_wp2_with fail
    exact HF.out
  · have hne : ((k : Int) == -1) = false := by simp
    rcases HO.out.2 with ⟨_, h0⟩ | ⟨g, cap, cur0, rfl, hbg, hg, h1, h2, h3, h4⟩
    · omega
    have hst := DelAt.start (p := p) (W := w1) (g := g) (cap := cap) (cur := cur0) hg h3 h4 hk hpk hn
    obtain ⟨hkl, hst⟩ := hst
    have HST := Lib.hid hst
    clear hst hn h4 h3 hg hpk HO HW HI
    have hgB : w0.heap.size ≤ g := Nat.le_trans hB hbg
    go_upto_region 4 with fail
    have hk1 : (k : Int) + 1 ≤ l.length := by omega
    go_wp2_with fail
    go_loopw [5, 6] (fun vi vj wr => ∃ (j : Nat) (cur : Array Value), j ≤ l.length ∧ vj = .int .i64 j ∧ vi = .int .i64 (keep p l j).length ∧ Hid (DelAt wr g cap p l j cur) ∧ G w0 wr) (fun _ vj _ => l.length - (intOf vj).toNat)
    case atStart => exact ⟨k + 1, cur0, hk, by go_num, by rw [hkl], HST.out, hG0⟩
    case round =>
      clear HST hG0 hkl hk hk1 hne
      obtain ⟨j, cur, hj, rfl, rfl, HD, hG⟩ := hrel
      obtain ⟨wo, rfl⟩ : ∃ wo, wo = wr := ⟨_, rfl⟩
      have hkj := keep_len p l j
      obtain ⟨q, hq⟩ : ∃ q, q = (keep p l j).length := ⟨_, rfl⟩
      rw [← hq] at hkj ⊢
      by_cases hlt : j < l.length
      · have hji : (j : Int) < l.length := by omega
        have hqi : (q : Int) < l.length := by omega
        have hql : q < l.length := by omega
        have lg := HD.out.blk.lt
        have hcl : ∀ r, r < 5 → wo.cell? ⟨g, j * 5 + r, none⟩ = (rcE (l.getD j default))[r]? := fun r hr => (HD.out.blk.cell _).trans (HD.out.rest j (Nat.le_refl _) hlt r hr)
        have HC2 := Lib.hid (fun W' hW => HC.out W' hW j hlt)
        have HSK := Lib.hid (fun (W : World) (hD : DelAt W g cap p l j cur) (hp : p (l.getD j default) = true) => And.intro (show (keep p l (j + 1)).length = q by rw [keep_succ p l hlt, if_pos hp, hq]) (hD.skip hlt hp))
        have HPU := Lib.hid (fun (W : World) (hD : DelAt W g cap p l j cur) (hp : p (l.getD j default) = false) => And.intro (show (keep p l (j + 1)).length = q + 1 by rw [keep_succ p l hlt, if_neg (by rw [hp]; simp), List.length_append, hq]; rfl) (hD.put hlt h1 hp))
        rw [← hq] at HPU
        obtain ⟨y, hy⟩ : ∃ y, y = l.getD j default := ⟨_, rfl⟩
        rw [← hy] at hcl HC2 HSK HPU
        clear hy hq
        obtain ⟨zbird, zowner, zrank, zday, zpa, zpc, zpools⟩ := y
        unfold Rc.v at HC2
        have q0 : wo.cell? ⟨g, j * 5, none⟩ = some (.int .i64 zbird) := hcl 0 (by omega)
        have q1 : wo.cell? ⟨g, j * 5 + 1, none⟩ = some (.int .i64 zowner) := hcl 1 (by omega)
        have q2 : wo.cell? ⟨g, j * 5 + 2, none⟩ = some (.int .i64 zrank) := hcl 2 (by omega)
        have q3 : wo.cell? ⟨g, j * 5 + 3, none⟩ = some (.int .i64 zday) := hcl 3 (by omega)
        have q4 : wo.cell? ⟨g, j * 5 + 4, none⟩ = some (.slice zpa zpools.length zpc) := hcl 4 (by omega)
        clear hcl
        go_upto_region 8 with fail
        have bx : Blk (wo.alloc (.cells #[.int .i64 zbird, .int .i64 zowner, .int .i64 zrank, .int .i64 zday, .slice zpa zpools.length zpc] 60)) wo.heap.size 60 #[.int .i64 zbird, .int .i64 zowner, .int .i64 zrank, .int .i64 zday, .slice zpa zpools.length zpc] := Blk.new _ _ _
        have HD2 := Lib.hid (HD.out.keepG ((G.rf wo).a (.cells #[.int .i64 zbird, .int .i64 zowner, .int .i64 zrank, .int .i64 zday, .slice zpa zpools.length zpc] 60)))
        have gw := hG.a (.cells #[.int .i64 zbird, .int .i64 zowner, .int .i64 zrank, .int .i64 zday, .slice zpa zpools.length zpc] 60)
        clear q0 q1 q2 q3 q4 lg HD hG
        change Code.wp _ _ _ _ (wo.alloc (.cells #[.int .i64 zbird, .int .i64 zowner, .int .i64 zrank, .int .i64 zday, .slice zpa zpools.length zpc] 60))
        obtain ⟨gx, hgx⟩ : ∃ gx, gx = wo.heap.size := ⟨_, rfl⟩
        rw [← hgx] at bx ⊢
        clear hgx
        generalize wo.alloc (.cells #[.int .i64 zbird, .int .i64 zowner, .int .i64 zrank, .int .i64 zday, .slice zpa zpools.length zpc] 60) = w2 at *
        have n0 := bx.cell 0
        have n1 := bx.cell 1
        have n2 := bx.cell 2
        have n3 := bx.cell 3
        have n4 := bx.cell 4
        have ln := bx.lt
        have HC3 := Lib.hid (HC2.out w2 gw)
        cases hv : p ⟨zbird, zowner, zrank, zday, zpa, zpc, zpools⟩
        · rw [hv] at HC3
          have HV := Lib.hid hv
          clear hv HC2 HSK
          go_upto_region 9 with (go_at_fn C; refine (HC3.out).mono ?_; rintro e w3 ⟨rfl, hG3⟩; clear n0 n1 n2 n3 n4 ln)
          have HD3 := Lib.hid (HD2.out.keepG hG3)
          replace bx := bx.keep hG3
          replace gw := gw.t hG3
          have n0 := bx.cell 0
          have n1 := bx.cell 1
          have n2 := bx.cell 2
          have n3 := bx.cell 3
          have n4 := bx.cell 4
          have ln := bx.lt
          have hsz := HD3.out.sz
          obtain ⟨u0, c0⟩ := Option.isSome_iff_exists.1 (blk_has HD3.out.blk (i := q * 5) (by omega))
          obtain ⟨u1, c1⟩ := Option.isSome_iff_exists.1 (blk_has HD3.out.blk (i := q * 5 + 1) (by omega))
          obtain ⟨u2, c2⟩ := Option.isSome_iff_exists.1 (blk_has HD3.out.blk (i := q * 5 + 2) (by omega))
          obtain ⟨u3, c3⟩ := Option.isSome_iff_exists.1 (blk_has HD3.out.blk (i := q * 5 + 3) (by omega))
          obtain ⟨u4, c4⟩ := Option.isSome_iff_exists.1 (blk_has HD3.out.blk (i := q * 5 + 4) (by omega))
          have z0 := HD3.out.blk.frozen (q * 5)
          have z1 := HD3.out.blk.frozen (q * 5 + 1)
          have z2 := HD3.out.blk.frozen (q * 5 + 2)
          have z3 := HD3.out.blk.frozen (q * 5 + 3)
          have z4 := HD3.out.blk.frozen (q * 5 + 4)
          have lg := HD3.out.blk.lt
          clear bx
          go_wp2_with fail
          have hpu := HPU.out w3 HD3.out HV.out
          go_roundw
          case rel => exact ⟨j + 1, _, by omega, by go_num, by rw [hpu.1]; go_num, hpu.2, G_setCells hgB (rcE ⟨zbird, zowner, zrank, zday, zpa, zpc, zpools⟩) (q * 5) w3 gw⟩
          case measure => simp [intOf] <;> omega
        · rw [hv] at HC3
          have HV := Lib.hid hv
          clear hv HC2 HPU
          go_wp2_with (go_at_fn C; refine (HC3.out).mono ?_; rintro e w3 ⟨rfl, hG3⟩)
          have hsk := HSK.out w3 (HD2.out.keepG hG3) HV.out
          go_roundw
          case rel => exact ⟨j + 1, cur, by omega, by go_num, by rw [hsk.1], hsk.2, gw.t hG3⟩
          case measure => simp [intOf] <;> omega
      · obtain rfl : j = l.length := by omega
        have hji : ¬ ((l.length : Nat) : Int) < l.length := by omega
        have hql : (q : Int) ≤ l.length := by omega
        have hsz := HD.out.sz
        obtain ⟨vs, hcl⟩ := clear60 wo g (q * 5) (l.length - q) (cap - q) HD.out.blk (by omega)
        have HFN := Lib.hid (HD.out.fin (c := 0) hbg h1 h2 vs (W' := wo.setCells g (q * 5) vs) (by rw [hq]))
        rw [← hq] at HFN
        have HGN := Lib.hid (G_setCells hgB vs (q * 5) wo hG)
        have hqc : q ≤ cap := by omega
        have HF := Lib.hid (fun (h : (wo.setCells g (q * 5) vs).ownsRow B 60 5 (.slice (some ⟨g, 0, none⟩) q cap) q (rcV (keep p l l.length))) => HPK.out _ _ (by rw [← hq]; exact h) HGN.out)
        have HPE : Hid (l.length - q = 0 → PP (.returned (.slice (some ⟨g, 0, none⟩) q cap)) wo) := fun _ => by
          have h9 := HD.out.fin (c := 0) hbg h1 h2 [] (W' := wo) rfl
          rw [← hq] at h9
          exact HPK.out _ _ (by rw [← hq]; exact h9) hG
        clear HC HPK hq
        have HF0 := Lib.hid (HF.out HFN.out)
        by_cases hqe : q = cap
        · have h0 : l.length - q = 0 := by omega
          have hv0 : vs = [] ∨ True := .inr trivial
          have hcl0 : ∀ ty, (Builtin.clear_ #[22] ty #[.slice (some ⟨g, 0, none⟩) (l.length - q) 0]).run Tryz.prog wo = .ok (.tuple #[]) wo := fun ty => by
            rw [h0]
            simp [Builtin.clear_, run_underlying Tryz.underlying22]
          have hcl1 : ∀ ty, (Builtin.clear_ #[22] ty #[.slice (some ⟨g, 0, none⟩) 0 0]).run Tryz.prog wo = .ok (.tuple #[]) wo := fun ty => by
            simp [Builtin.clear_, run_underlying Tryz.underlying22]
          have HF2 := Lib.hid (HPE.out h0)
          clear hcl hv0 h0
          subst hqe
          go_wp2_with (simp only [hcl0, hcl1])
          exact HF2.out
        · go_wp2_with (simp only [hcl])
          exact HF0.out
end Go.Proofs.YtnkmcoljijmgpaaGreat

set_option linter.unusedSimpArgs false
set_option linter.unusedVariables false
namespace Go.Proofs.YtnkmcoljijmgpaaGreat
open Go.RowKit Go.Shelf Go.Sort
attribute [local go_sem] Oper.semAt_some
theorem wpAnyY_twoSW {P : Program} {ops : Array Oper} {md : Region.Mode} {Q : Exit → Act → World → Prop} {S : World → Prop} {z : Nat} {i j : Nat} {oi oj : Oper} {fuel : Nat} {l : Array Bool} {a : Act} {w : World} (hr : Region.ready md ops l = [i, j]) (hi : ops[i]? = some oi) (hj : ops[j]? = some oj)
    (hwi : Region.wanted oi (yielded ops a.tmps) = true) (hwj : Region.wanted oj (yielded ops a.tmps) = true)
    (h1 : ∀ K' : Act → World → Prop, Shut (∀ a w, S w → (S w → wpAnyY P md ops Q S z fuel (l.setIfInBounds i true) a w) → K' a w) → Oper.wp P oi a w K' Q)
    (h2 : ∀ K' : Act → World → Prop, Shut (∀ a w, S w → (S w → wpAnyY P md ops Q S z fuel (l.setIfInBounds j true) a w) → K' a w) → Oper.wp P oj a w K' Q) :
    wpAnyY P md ops Q S z (fuel + 1) l a w := by
  refine ⟨fun h0 => (by rw [hr] at h0; cases h0), fun k hk => ?_⟩
  rw [hr] at hk
  have hk2 : k = i ∨ k = j := by simpa using hk
  rcases hk2 with rfl | rfl
  · exact wpOp_step hi (fun K' hK => by rw [if_pos hwi]; exact h1 K' (fun a w hS hW => hK a w ⟨fun _ => hS, hW hS⟩))
  · exact wpOp_step hj (fun K' hK => by rw [if_pos hwj]; exact h2 K' (fun a w hS hW => hK a w ⟨fun _ => hS, hW hS⟩))
/-- draws and new blocks, nothing else -/
def Gx (W w' : World) : Prop := ∃ q os', w' = grow (W.drewN q) os'
theorem Gx.rf (W : World) : Gx W W := ⟨0, #[], by rw [grow_empty]; rfl⟩
theorem Gx.t {a b c : World} (h : Gx a b) (k : Gx b c) : Gx a c := by
  obtain ⟨q, os, rfl⟩ := h
  obtain ⟨q2, os2, rfl⟩ := k
  exact ⟨q + q2, os ++ os2, by show grow (grow ((a.drewN q).drewN q2) os) os2 = _; rw [grow_grow, World.drewN_drewN]⟩
theorem Gx.a {a b : World} (h : Gx a b) (o : Obj) : Gx a (b.alloc o) := h.t ⟨0, #[o], by rw [alloc_eq_grow]; rfl⟩
theorem Gx.d {a b : World} (h : Gx a b) : Gx a b.drew := h.t ⟨1, #[], by rw [grow_empty]; rfl⟩
theorem Gx.g {a b : World} (h : Gx a b) : G a b := by
  obtain ⟨q, os, rfl⟩ := h
  exact ⟨rfl, rfl, rfl, by simp, fun i hi => heap_grow_old _ _ (by simpa using hi)⟩
def orI (d r : Int) : Int := if d = 0 then r else d
set_option maxRecDepth 100000 in
set_option maxHeartbeats 4000000 in
theorem or_any (d r : Int) (g cap : Nat) (W : World) (c0 : W.cell? ⟨g, 0, none⟩ = some (.int .i64 d)) (c1 : W.cell? ⟨g, 1, none⟩ = some (.int .i64 r)) (hg : g < W.heap.size) : Calls Tryz.prog 110 #[.slice (some ⟨g, 0, none⟩) 2 cap] W fun e w' => e = .returned (.int .i64 (orI d r)) ∧ w' = W := by
  have HO : Hid (∀ x, x = orI d r → Calls Tryz.prog 110 #[.slice (some ⟨g, 0, none⟩) 2 cap] W (fun e w' => e = .returned (.int .i64 x) ∧ w' = W) → Calls Tryz.prog 110 #[.slice (some ⟨g, 0, none⟩) 2 cap] W fun e w' => e = .returned (.int .i64 (orI d r)) ∧ w' = W) := fun x hx h => by rw [← hx]; exact h
  by_cases hd : d = 0
  · refine HO.out r (by simp [orI, hd]) ?_
    subst hd
    by_cases hr : r = 0
    · subst hr
      clear HO
      go_enter Tryz.func110, Tryz.ntmps110
      go_wp2_with fail
      go_loopw [8] (fun i wr => ∃ k : Nat, k ≤ 2 ∧ i = .int .i64 k ∧ wr = W) (fun i _ => 2 - (intOf i).toNat)
      case atStart => exact ⟨0, by omega, rfl, rfl⟩
      case round =>
        obtain ⟨k, hk, rfl, rfl⟩ := hrel
        have h3 : k = 0 ∨ k = 1 ∨ k = 2 := by omega
        rcases h3 with rfl | rfl | rfl
        · go_wp2_with fail
          go_roundw
          case rel => exact ⟨1, by omega, by go_num, by first | rfl | trivial⟩
          case measure => simp [intOf] <;> omega
        · go_wp2_with fail
          go_roundw
          case rel => exact ⟨2, by omega, by go_num, by first | rfl | trivial⟩
          case measure => simp [intOf] <;> omega
        · go_wp2_with fail
          first | exact ⟨rfl, rfl⟩ | (go_ret; exact ⟨rfl, rfl⟩)
    · have e1 : (r == 0) = false := by simpa using hr
      clear HO
      go_enter Tryz.func110, Tryz.ntmps110
      go_wp2_with fail
      go_loopw [8] (fun i wr => ∃ k : Nat, k ≤ 1 ∧ i = .int .i64 k ∧ wr = W) (fun i _ => 2 - (intOf i).toNat)
      case atStart => exact ⟨0, by omega, rfl, rfl⟩
      case round =>
        obtain ⟨k, hk, rfl, rfl⟩ := hrel
        have h3 : k = 0 ∨ k = 1 := by omega
        rcases h3 with rfl | rfl
        · go_wp2_with fail
          go_roundw
          case rel => exact ⟨1, by omega, by go_num, by first | rfl | trivial⟩
          case measure => simp [intOf] <;> omega
        · go_wp2_with fail
          first | exact ⟨rfl, rfl⟩ | (go_ret; exact ⟨rfl, rfl⟩)
  · refine HO.out d (by simp [orI, hd]) ?_
    have e1 : (d == 0) = false := by simpa using hd
    clear HO
    go_enter Tryz.func110, Tryz.ntmps110
    go_wp2_with fail
    go_loopw [8] (fun i wr => i = .int .i64 0 ∧ wr = W) (fun i _ => 2 - (intOf i).toNat)
    case atStart => exact ⟨rfl, rfl⟩
    case round =>
      obtain ⟨rfl, rfl⟩ := hrel
      go_wp2_with fail
      first | exact ⟨rfl, rfl⟩ | (go_ret; exact ⟨rfl, rfl⟩)
/-- the code's order of takers: by day, then by rank -/
def takeC (x y : Rc) : Int := orI (cmpI x.day y.day) (cmpI x.rank y.rank)
set_option maxRecDepth 100000 in
set_option maxHeartbeats 4000000 in
theorem closure109 (x y : Rc) (W : World) : Calls Tryz.prog 109 #[.agg x.v, .agg y.v] W fun e w' => e = .returned (.int .i64 (takeC x y)) ∧ Gx W w' := by
  have HD := Lib.hid (fun W' => cmp_any x.day y.day W')
  have HR := Lib.hid (fun W' => cmp_any x.rank y.rank W')
  have HO := Lib.hid (fun (g cap : Nat) (W' : World) (c0 : W'.cell? ⟨g, 0, none⟩ = some (.int .i64 (cmpI x.day y.day))) (c1 : W'.cell? ⟨g, 1, none⟩ = some (.int .i64 (cmpI x.rank y.rank))) (hg : g < W'.heap.size) => or_any _ _ g cap W' c0 c1 hg)
  unfold takeC
  generalize cmpI x.day y.day = DD at *
  generalize cmpI x.rank y.rank = RR at *
  generalize orI DD RR = OO at *
  obtain ⟨xb, xo, xr, xd, xpa, xpc, xp⟩ := x
  obtain ⟨yb, yo, yr, yd, ypa, ypc, yp⟩ := y
  unfold Rc.v
  dsimp only at *
  have gx0 : Gx W ((W.alloc (.cells #[.int .i64 xb, .int .i64 xo, .int .i64 xr, .int .i64 xd, .slice xpa xp.length xpc] 60)).alloc (.cells #[.int .i64 yb, .int .i64 yo, .int .i64 yr, .int .i64 yd, .slice ypa yp.length ypc] 60)) := ((Gx.rf _).a _).a _
  have bx : Blk ((W.alloc (.cells #[.int .i64 xb, .int .i64 xo, .int .i64 xr, .int .i64 xd, .slice xpa xp.length xpc] 60)).alloc (.cells #[.int .i64 yb, .int .i64 yo, .int .i64 yr, .int .i64 yd, .slice ypa yp.length ypc] 60)) W.heap.size 60 #[.int .i64 xb, .int .i64 xo, .int .i64 xr, .int .i64 xd, .slice xpa xp.length xpc] := (Blk.new _ _ _).alloc _
  have by1 : Blk ((W.alloc (.cells #[.int .i64 xb, .int .i64 xo, .int .i64 xr, .int .i64 xd, .slice xpa xp.length xpc] 60)).alloc (.cells #[.int .i64 yb, .int .i64 yo, .int .i64 yr, .int .i64 yd, .slice ypa yp.length ypc] 60)) (W.heap.size + 1) 60 #[.int .i64 yb, .int .i64 yo, .int .i64 yr, .int .i64 yd, .slice ypa yp.length ypc] := Blk.new1 _ _ _ _
  go_enter Tryz.func109, Tryz.ntmps109
  go_upto_region 1 with fail
  change Code.wp _ _ _ _ ((W.alloc (.cells #[.int .i64 xb, .int .i64 xo, .int .i64 xr, .int .i64 xd, .slice xpa xp.length xpc] 60)).alloc (.cells #[.int .i64 yb, .int .i64 yo, .int .i64 yr, .int .i64 yd, .slice ypa yp.length ypc] 60))
  obtain ⟨gy, hgy⟩ : ∃ gy, gy = W.heap.size + 1 := ⟨_, rfl⟩
  obtain ⟨gx, hgx⟩ : ∃ gx, gx = W.heap.size := ⟨_, rfl⟩
  rw [← hgy] at by1 ⊢
  rw [← hgx] at bx ⊢
  clear hgx hgy
  generalize ((W.alloc (.cells #[.int .i64 xb, .int .i64 xo, .int .i64 xr, .int .i64 xd, .slice xpa xp.length xpc] 60)).alloc (.cells #[.int .i64 yb, .int .i64 yo, .int .i64 yr, .int .i64 yd, .slice ypa yp.length ypc] 60)) = W1 at *
  have hSk : ∀ W', Gx W1 W' → (W'.cell? ⟨gx, 2, none⟩ = some (.int .i64 xr) ∧ W'.cell? ⟨gx, 3, none⟩ = some (.int .i64 xd) ∧ gx < W'.heap.size) ∧ (W'.cell? ⟨gy, 2, none⟩ = some (.int .i64 yr) ∧ W'.cell? ⟨gy, 3, none⟩ = some (.int .i64 yd) ∧ gy < W'.heap.size) := fun W' hW =>
    ⟨⟨(bx.keep hW.g).cell 2, (bx.keep hW.g).cell 3, (bx.keep hW.g).lt⟩, ⟨(by1.keep hW.g).cell 2, (by1.keep hW.g).cell 3, (by1.keep hW.g).lt⟩⟩
  have ga := (Gx.rf W1).d
  refine wp_region_Y (S := fun W' => (W'.cell? ⟨gx, 2, none⟩ = some (.int .i64 xr) ∧ W'.cell? ⟨gx, 3, none⟩ = some (.int .i64 xd) ∧ gx < W'.heap.size) ∧ (W'.cell? ⟨gy, 2, none⟩ = some (.int .i64 yr) ∧ W'.cell? ⟨gy, 3, none⟩ = some (.int .i64 yd) ∧ gy < W'.heap.size)) 12 13 rfl (by kernel_rfl) (hSk _ ga) (fun hS => ?_)
  refine wpAnyY_take (i := 0) (v := ?_) rfl (by kernel_rfl) (by kernel_rfl) (by kernel_rfl) (by kernel_rfl) (fun _ _ _ h => h) (Or.inl ⟨by kernel_rfl, ?_⟩) hS ?_
  rotate_left
  · intro w' hSw; go_simp; with_reducible rfl
  try simp only [Act.put, List.getElem_toArray, List.getElem_cons_zero, List.getElem_cons_succ, List.setIfInBounds_toArray, List.set_cons_zero, List.set_cons_succ]
  refine wpAnyY_take (i := 1) (v := ?_) rfl (by kernel_rfl) (by kernel_rfl) (by kernel_rfl) (by kernel_rfl) (fun _ _ _ h => h) (Or.inl ⟨by kernel_rfl, ?_⟩) hS ?_
  rotate_left
  · intro w' hSw; obtain ⟨⟨s2, s3, sl⟩, ⟨u2, u3, ul⟩⟩ := hSw; go_simp; with_reducible rfl
  try simp only [Act.put, List.getElem_toArray, List.getElem_cons_zero, List.getElem_cons_succ, List.setIfInBounds_toArray, List.set_cons_zero, List.set_cons_succ]
  refine wpAnyY_take (i := 2) (v := ?_) rfl (by kernel_rfl) (by kernel_rfl) (by kernel_rfl) (by kernel_rfl) (fun _ _ _ h => h) (Or.inl ⟨by kernel_rfl, ?_⟩) hS ?_
  rotate_left
  · intro w' hSw; go_simp; with_reducible rfl
  try simp only [Act.put, List.getElem_toArray, List.getElem_cons_zero, List.getElem_cons_succ, List.setIfInBounds_toArray, List.set_cons_zero, List.set_cons_succ]
  refine wpAnyY_take (i := 3) (v := ?_) rfl (by kernel_rfl) (by kernel_rfl) (by kernel_rfl) (by kernel_rfl) (fun _ _ _ h => h) (Or.inl ⟨by kernel_rfl, ?_⟩) hS ?_
  rotate_left
  · intro w' hSw; obtain ⟨⟨s2, s3, sl⟩, ⟨u2, u3, ul⟩⟩ := hSw; go_simp; with_reducible rfl
  try simp only [Act.put, List.getElem_toArray, List.getElem_cons_zero, List.getElem_cons_succ, List.setIfInBounds_toArray, List.set_cons_zero, List.set_cons_succ]
  refine wpAnyY_take (i := 5) (v := ?_) rfl (by kernel_rfl) (by kernel_rfl) (by kernel_rfl) (by kernel_rfl) (fun _ _ _ h => h) (Or.inl ⟨by kernel_rfl, ?_⟩) hS ?_
  rotate_left
  · intro w' hSw; go_simp; with_reducible rfl
  try simp only [Act.put, List.getElem_toArray, List.getElem_cons_zero, List.getElem_cons_succ, List.setIfInBounds_toArray, List.set_cons_zero, List.set_cons_succ]
  refine wpAnyY_take (i := 6) (v := ?_) rfl (by kernel_rfl) (by kernel_rfl) (by kernel_rfl) (by kernel_rfl) (fun _ _ _ h => h) (Or.inl ⟨by kernel_rfl, ?_⟩) hS ?_
  rotate_left
  · intro w' hSw; obtain ⟨⟨s2, s3, sl⟩, ⟨u2, u3, ul⟩⟩ := hSw; go_simp; with_reducible rfl
  try simp only [Act.put, List.getElem_toArray, List.getElem_cons_zero, List.getElem_cons_succ, List.setIfInBounds_toArray, List.set_cons_zero, List.set_cons_succ]
  refine wpAnyY_take (i := 7) (v := ?_) rfl (by kernel_rfl) (by kernel_rfl) (by kernel_rfl) (by kernel_rfl) (fun _ _ _ h => h) (Or.inl ⟨by kernel_rfl, ?_⟩) hS ?_
  rotate_left
  · intro w' hSw; go_simp; with_reducible rfl
  try simp only [Act.put, List.getElem_toArray, List.getElem_cons_zero, List.getElem_cons_succ, List.setIfInBounds_toArray, List.set_cons_zero, List.set_cons_succ]
  refine wpAnyY_take (i := 8) (v := ?_) rfl (by kernel_rfl) (by kernel_rfl) (by kernel_rfl) (by kernel_rfl) (fun _ _ _ h => h) (Or.inl ⟨by kernel_rfl, ?_⟩) hS ?_
  rotate_left
  · intro w' hSw; obtain ⟨⟨s2, s3, sl⟩, ⟨u2, u3, ul⟩⟩ := hSw; go_simp; with_reducible rfl
  try simp only [Act.put, List.getElem_toArray, List.getElem_cons_zero, List.getElem_cons_succ, List.setIfInBounds_toArray, List.set_cons_zero, List.set_cons_succ]
  refine wpAnyY_oneSW (i := 4) (by kernel_rfl) rfl (by kernel_rfl) (fun K4 hK4 => ?_)
  go_simp
  refine (HD.out _).mono ?_
  rintro e w' ⟨rfl, rfl⟩
  refine hK4.out _ _ (hSk _ ga) (fun hS => ?_)
  try simp only [Act.put, List.getElem_toArray, List.getElem_cons_zero, List.getElem_cons_succ, List.setIfInBounds_toArray, List.set_cons_zero, List.set_cons_succ]
  refine wpAnyY_oneSW (i := 9) (by kernel_rfl) rfl (by kernel_rfl) (fun K9 hK9 => ?_)
  go_simp
  refine (HR.out _).mono ?_
  rintro e w' ⟨rfl, rfl⟩
  refine hK9.out _ _ (hSk _ ga) (fun hS => ?_)
  try simp only [Act.put, List.getElem_toArray, List.getElem_cons_zero, List.getElem_cons_succ, List.setIfInBounds_toArray, List.set_cons_zero, List.set_cons_succ]
  refine wpAnyY_oneSW (i := 10) (by kernel_rfl) rfl (by kernel_rfl) (fun K10 hK10 => ?_)
  go_simp
  refine hK10.out _ _ (hSk _ (ga.a _)) (fun hS => ?_)
  try simp only [Act.put, List.getElem_toArray, List.getElem_cons_zero, List.getElem_cons_succ, List.setIfInBounds_toArray, List.set_cons_zero, List.set_cons_succ]
  have bz := Blk.new W1.drew 3 #[.int .i64 DD, .int .i64 RR]
  refine wpAnyY_oneSW (i := 11) (by kernel_rfl) rfl (by kernel_rfl) (fun K11 hK11 => ?_)
  go_simp
  refine (HO.out _ _ _ (bz.cell 0) (bz.cell 1) bz.lt).mono ?_
  rintro e w' ⟨rfl, rfl⟩
  refine hK11.out _ _ (hSk _ (ga.a _)) (fun hS => ?_)
  try simp only [Act.put, List.getElem_toArray, List.getElem_cons_zero, List.getElem_cons_succ, List.setIfInBounds_toArray, List.set_cons_zero, List.set_cons_succ]
  refine wpAnyY_oneW (i := 12) (by kernel_rfl) rfl (by kernel_rfl) (by kernel_rfl) (fun K12 hK12 => ?_)
  go_simp
  refine hK12.out _ _ ?_
  try simp only [Act.put, List.getElem_toArray, List.getElem_cons_zero, List.getElem_cons_succ, List.setIfInBounds_toArray, List.set_cons_zero, List.set_cons_succ]
  refine wpAnyY_done (by kernel_rfl) ?_ _
  go_wp2_with fail
  first | exact ⟨rfl, gx0.t (ga.a _)⟩ | (go_ret; exact ⟨rfl, gx0.t (ga.a _)⟩)
end Go.Proofs.YtnkmcoljijmgpaaGreat

set_option linter.unusedSimpArgs false
set_option linter.unusedVariables false
namespace Go.Proofs.YtnkmcoljijmgpaaGreat
open Go.RowKit Go.Shelf Go.Sort
attribute [local go_sem] Oper.semAt_some
section
variable {α : Type} [Inhabited α]
theorem inner_eq (lt lt' : α → α → Bool) : ∀ (j : Nat) (d : Array α), j < d.size → (∀ t, t < j → lt d[j]! d[t]! = lt' d[j]! d[t]!) → insInner lt 0 j d = insInner lt' 0 j d
  | 0, d, _, _ => rfl
  | j + 1, d, hj, h => by
    have e := h j (by omega)
    unfold insInner
    rw [e]
    by_cases hc : (decide (j + 1 > 0) && lt' d[j + 1]! d[j]!) = true
    · rw [if_pos hc, if_pos hc]
      refine inner_eq lt lt' j _ (by rw [size_swp]; omega) (fun t ht => ?_)
      rw [swp_get d hj (by omega : j < d.size), swp_get d hj (by omega : j < d.size)]
      have e2 := h t (by omega)
      simp only [show ¬ j = j + 1 by omega, show ¬ t = j by omega, show ¬ t = j + 1 by omega, if_true, if_false]
      exact e2
    · rw [if_neg hc, if_neg hc]
theorem inner_mem (lt : α → α → Bool) : ∀ (j : Nat) (d : Array α), j < d.size → (insInner lt 0 j d).size = d.size ∧ (∀ t, j < t → (insInner lt 0 j d)[t]! = d[t]!) ∧ ∀ t, t ≤ j → ∃ u, u ≤ j ∧ (insInner lt 0 j d)[t]! = d[u]!
  | 0, d, _ => ⟨rfl, fun _ _ => rfl, fun t ht => ⟨t, ht, rfl⟩⟩
  | j + 1, d, hj => by
    unfold insInner
    by_cases hc : (decide (j + 1 > 0) && lt d[j + 1]! d[j]!) = true
    · rw [if_pos hc]
      obtain ⟨i1, i2, i3⟩ := inner_mem lt j (swp d (j + 1) j) (by rw [size_swp]; omega)
      have sg := fun k => swp_get d hj (by omega : j < d.size) (k := k)
      refine ⟨by rw [i1, size_swp], fun t ht => ?_, fun t ht => ?_⟩
      · rw [i2 t (by omega), sg]
        simp only [show ¬ t = j by omega, show ¬ t = j + 1 by omega, if_false]
      · by_cases h1 : t = j + 1
        · subst h1
          refine ⟨j, by omega, ?_⟩
          rw [i2 _ (by omega), sg]
          simp
        · obtain ⟨u, hu, e⟩ := i3 t (by omega)
          rw [e, sg]
          by_cases h2 : u = j
          · exact ⟨j + 1, by omega, by subst h2; simp⟩
          · exact ⟨u, by omega, by simp only [h2, show ¬ u = j + 1 by omega, if_false]⟩
    · rw [if_neg hc]
      exact ⟨rfl, fun _ _ => rfl, fun t ht => ⟨t, ht, rfl⟩⟩
theorem outer_eq (lt lt' : α → α → Bool) (b : Nat) : ∀ (m i : Nat) (d : Array α), b - i = m → b ≤ d.size → (∀ s t, t < s → i ≤ s → s < b → lt d[s]! d[t]! = lt' d[s]! d[t]!) → insOuter lt 0 b i d = insOuter lt' 0 b i d
  | m, i, d, hm, hb, h => by
    by_cases hi : i < b
    · rw [insOuter_go _ _ _ _ _ hi, insOuter_go _ _ _ _ _ hi]
      have e := inner_eq lt lt' i d (by omega) (fun t ht => h i t ht (Nat.le_refl _) hi)
      rw [e]
      obtain ⟨i1, i2, i3⟩ := inner_mem lt' i d (by omega)
      match m, hm with
      | m' + 1, hm =>
        refine outer_eq lt lt' b m' (i + 1) _ (by omega) (by rw [i1]; exact hb) (fun s t hts hs hsb => ?_)
        rw [i2 s (by omega)]
        by_cases ht : i < t
        · rw [i2 t ht]
          exact h s t hts (by omega) hsb
        · obtain ⟨u, hu, e⟩ := i3 t (by omega)
          rw [e]
          exact h s u (by omega) (by omega) hsb
      | 0, hm => omega
    · rw [insOuter_stop _ _ _ _ _ hi, insOuter_stop _ _ _ _ _ hi]
end
/-- by day, then by rank, then by ring -/
def lexL (x y : Rc) : Bool := decide (x.day < y.day ∨ (x.day = y.day ∧ (x.rank < y.rank ∨ (x.rank = y.rank ∧ x.bird < y.bird))))
def tks (l : List Rc) : List Rc := l.mergeSort fun x y => !lexL y x
theorem ltTake (x y : Rc) : ltOf takeC x y = decide (x.day < y.day ∨ (x.day = y.day ∧ x.rank < y.rank)) := by
  unfold ltOf takeC orI cmpI
  by_cases h1 : x.day < y.day
  · simp [h1]
  · by_cases h2 : y.day < x.day
    · have : ¬ x.day = y.day := by omega
      simp [h1, h2, this]
    · have h3 : x.day = y.day := by omega
      by_cases h4 : x.rank < y.rank
      · simp [h3, h4]
      · by_cases h5 : y.rank < x.rank <;> simp [h3, h4, h5]
theorem lt_lex (x y : Rc) (h : y.bird < x.bird) : ltOf takeC x y = lexL x y := by
  rw [ltTake]
  unfold lexL
  have : ¬ x.bird < y.bird := by omega
  simp [this]
theorem swoLex : SWO lexL where
  irrefl x := by simp [lexL]
  trans x y z h1 h2 := by simp only [lexL, decide_eq_true_eq] at *; omega
  ntrans x y z h1 h2 := by simp only [lexL, decide_eq_false_iff_not] at *; omega
theorem tks_perm (l : List Rc) : (tks l).Perm l := List.mergeSort_perm _ _
theorem tks_len (l : List Rc) : (tks l).length = l.length := (tks_perm l).length_eq
theorem tks_pw (l : List Rc) : (tks l).Pairwise fun x y => lexL y x = false := by
  have := List.pairwise_mergeSort (le := fun x y : Rc => !lexL y x) (fun a b c h1 h2 => by simp at *; exact swoLex.ntrans _ _ _ h2 h1) (fun a b => by
    cases h : lexL b a
    · simp
    · have : lexL a b = false := by
        cases h2 : lexL a b
        · rfl
        · have := swoLex.trans _ _ _ h h2
          rw [swoLex.irrefl] at this
          cases this
      simp [this]) l
  exact this.imp fun h => by simpa using h
theorem tks_unique {l l' : List Rc} (h : Uniq l) (hp : l'.Perm l) (hs : l'.Pairwise fun x y => lexL y x = false) : l' = tks l :=
  List.Perm.eq_of_pairwise (le := fun x y : Rc => lexL y x = false) (fun a b ha hb h1 h2 => uniq_eq h (hp.mem_iff.1 ha) ((tks_perm l).mem_iff.1 hb) (by simp only [lexL, decide_eq_false_iff_not] at h1 h2; omega)) hs (tks_pw l) (hp.trans (tks_perm l).symm)
/-- the stable sort of birds in the order of their rings -/
theorem ins_tks (l : List Rc) (hu : Uniq l) (hs : l.Pairwise fun x y => x.bird ≤ y.bird) : (insertionSort (ltOf takeC) l.toArray 0 l.length) = (tks l).toArray := by
  have hst : ∀ s t, t < s → s < l.length → (l.toArray[t]!).bird < (l.toArray[s]!).bird := fun s t h1 h2 => by
    have a := List.pairwise_iff_getElem.1 hs t s (by omega) h2 h1
    have b := List.pairwise_iff_getElem.1 hu t s (by omega) h2 h1
    rw [getElem!_pos l.toArray t (by simp; omega), getElem!_pos l.toArray s (by simp; omega)]
    simp only [List.getElem_toArray]
    omega
  have e : insertionSort (ltOf takeC) l.toArray 0 l.length = insertionSort lexL l.toArray 0 l.length := by
    unfold insertionSort
    exact outer_eq _ _ _ _ _ _ rfl (by simp) (fun s t h1 _ h2 => lt_lex _ _ (hst s t h1 h2))
  rw [e]
  obtain ⟨hp, hso⟩ := insertionSort_holds swoLex l.toArray 0 l.length (Nat.zero_le _) (by simp)
  have hp2 : PermIn 0 l.toArray.size l.toArray (insertionSort lexL l.toArray 0 l.length) := by simpa using hp
  have h2 : (insertionSort lexL l.toArray 0 l.length).toList = tks l := tks_unique hu (by simpa using perm_toList hp2) (by
    rw [List.pairwise_iff_getElem]
    intro i j hi hj hij
    have hsz : (insertionSort lexL l.toArray 0 l.length).size = l.length := by have := hp2.1; simpa using this
    have hi' : i < (insertionSort lexL l.toArray 0 l.length).size := by simpa using hi
    have hj' : j < (insertionSort lexL l.toArray 0 l.length).size := by simpa using hj
    have := hso i j (Nat.zero_le _) hij (by omega)
    rw [getElem!_pos _ j hj', getElem!_pos _ i hi'] at this
    simpa using this)
  rw [← h2]
end Go.Proofs.YtnkmcoljijmgpaaGreat

set_option linter.unusedSimpArgs false
set_option linter.unusedVariables false
namespace Go.Proofs.YtnkmcoljijmgpaaGreat
open Go.RowKit Go.Shelf Go.Sort
attribute [local go_sem] Oper.semAt_some
theorem ins_own (l : List Rc) (hu : Uniq l) (hs : l.Pairwise fun x y => x.bird ≤ y.bird) (hl : l.length ≤ 1000) (W : World) (B : Nat) (v : Value) (h : W.ownsRow B 60 5 v l.length (rcV l)) : Calls Tryz.prog 119 #[v, .int .i64 0, .int .i64 l.length, .func (.func 109) #[] #[]] W fun e w' => e = .returned (.tuple #[]) ∧ w'.ownsRow B 60 5 v l.length (rcV (tks l)) ∧ W.grownBy w' v.ownBlock := by
  rcases h.2 with ⟨rfl, h0⟩ | ⟨g, cap, cur, rfl, hb, hg, h1, h2, h3, h4⟩
  · have hl0 : l = [] := List.length_eq_zero_iff.1 h0
    subst hl0
    have hc := AnyF.insertionSortCmpFunc_none (P := Tryz.prog) (ρ := Tryz.sortRc_ren) { Tryz.sortRc with } none 0 (.func (.func 109) #[] #[]) W
    change Calls Tryz.prog 119 _ _ _ at hc
    refine hc.mono ?_
    rintro e w' ⟨rfl, rfl⟩
    exact ⟨rfl, by rw [show tks [] = [] by simp [tks]]; exact h, World.grownBy.refl _ _⟩
  · have hlt : g < W.heap.size := (Array.getElem?_eq_some_iff.1 hg).1
    have hc := AnyQ.insertionSortCmpFunc (P := Tryz.prog) (ρ := Tryz.sortRc_ren) { Tryz.sortRc with } 5 Tryz.isAgg60 Tryz.sizeOf60 rcE rcE_len (fun x v hv => by
      simp [rcE, Rc.v] at hv
      rcases hv with rfl | rfl | rfl | rfl | rfl <;> rfl) takeC 109 #[] g 0 cap 0 l.length l.toArray W (enters_of Tryz.func109 (by kernel_rfl) rfl) (fun m os dk _ x y => closure109 x y _) (holds_rc (n := 0) hg h4) hlt (Nat.zero_le _) (by simp) (by simp; omega)
    change Calls Tryz.prog 119 _ _ _ at hc
    rw [show l.toArray.size = l.length by simp] at hc
    refine hc.mono ?_
    rintro e w' ⟨rfl, n, os, rfl⟩
    rw [ins_tks l hu hs]
    exact ⟨rfl, own_srt (tks_len l) hb hg h1 h2 h3, grownBy_srt _⟩
set_option maxRecDepth 100000 in
set_option maxHeartbeats 4000000 in
theorem stb_own (l : List Rc) (hu : Uniq l) (hs : l.Pairwise fun x y => x.bird ≤ y.bird) (hl : l.length ≤ 12) (W : World) (B : Nat) (v : Value) (h : W.ownsRow B 60 5 v l.length (rcV l)) : Calls Tryz.prog 137 #[v, .int .i64 l.length, .func (.func 109) #[] #[]] W fun e w' => e = .returned (.tuple #[]) ∧ w'.ownsRow B 60 5 v l.length (rcV (tks l)) ∧ W.grownBy w' v.ownBlock := by
  have HI := Lib.hid (ins_own l hu hs (by omega) W B v h)
  have hki : ¬ (20 : Int) ≤ l.length := by omega
  have hkj : ¬ (20 : Int) < l.length := by omega
  obtain ⟨n, hn⟩ : ∃ n, n = l.length := ⟨_, rfl⟩
  rw [← hn] at HI hki hkj ⊢
  clear hs hu h hl hn
  go_enter Tryz.func137, Tryz.ntmps137
  go_wp2_with fail
  refine wp_loop_rounds 1 ?_
  rw [rounds_succ]
  go_wp2_with (go_at_call 119; refine (HI.out).mono ?_; rintro e w' ⟨rfl, h1, h2⟩)
  refine wp_loop_rounds 1 ?_
  rw [rounds_succ]
  go_wp2_with fail
  first | exact ⟨rfl, h1, h2⟩ | (go_end0; exact ⟨rfl, h1, h2⟩) | trace_state
theorem stable_own (l : List Rc) (hu : Uniq l) (hs : l.Pairwise fun x y => x.bird ≤ y.bird) (hl : l.length ≤ 12) (W : World) (B : Nat) (v : Value) (h : W.ownsRow B 60 5 v l.length (rcV l)) : Calls Tryz.prog 108 #[v, .func (.func 109) #[] #[]] W fun e w' => e = .returned (.tuple #[]) ∧ w'.ownsRow B 60 5 v l.length (rcV (tks l)) ∧ W.grownBy w' v.ownBlock := by
  obtain ⟨a, c, rfl⟩ := own_slice h
  have HI := Lib.hid (stb_own l hu hs hl W B _ h)
  clear h hs hu hl
  go_enter Tryz.func108, Tryz.ntmps108
  go_wp2_with (go_at_call 137; refine (HI.out).mono ?_; rintro e w' ⟨rfl, h1, h2⟩)
  first | exact ⟨rfl, h1, h2⟩ | (go_end0; exact ⟨rfl, h1, h2⟩) | trace_state
end Go.Proofs.YtnkmcoljijmgpaaGreat

set_option linter.unusedSimpArgs false
set_option linter.unusedVariables false
namespace Go.Proofs.YtnkmcoljijmgpaaGreat
open Go.RowKit Go.Shelf Go.Sort
attribute [local go_sem] Oper.semAt_some
/-- a bird that takes no place -/
def skipB (first : Bool) (st : List Int) (x : Rc) : Bool := (decide (x.day = 0) || (first && !decide (x.day = 1))) || inL st x.bird
def takersL (f : Fu) (st : List Int) : List Rc := tks (f.rs.filter fun x => !skipB f.po.first st x)
set_option maxRecDepth 100000 in
set_option maxHeartbeats 4000000 in
theorem take107 (f : Fu) (st : List Int) (sa : Option Addr) (sc A K : Nat) (W : World) (hA : Blk W A 85 f.v) (hS : Blk W K 24 #[.slice sa st.length sc]) (hi : IntsAt W sa st) (hl : st.length ≤ 1000) (x : Rc) : Calls Tryz.prog 107 #[.agg x.v, .pointer (some ⟨A, 0, none⟩), .pointer (some ⟨K, 0, none⟩)] W fun e w' => e = .returned (.bool (skipB f.po.first st x)) ∧ G W w' := by
  have HI := Lib.hid (fun (W' : World) (hW : G W W') => contains_any st sa sc x.bird W' (hi.below hW) hl)
  unfold skipB
  generalize inL st x.bird = II at *
  obtain ⟨zbird, zowner, zrank, zday, zpa, zpc, zpools⟩ := x
  obtain ⟨⟨ystake, ycut, ykind, yta, ytc, ytable, yquota, yfirst⟩, fa, fc, rs, pa, pc, ps⟩ := f
  unfold Fu.v Rc.v at *
  dsimp only at *
  have g0 : G W (W.alloc (.cells #[.int .i64 zbird, .int .i64 zowner, .int .i64 zrank, .int .i64 zday, .slice zpa zpools.length zpc] 60)) := (G.rf _).a _
  have hA2 := hA.keep g0
  have hS2 := hS.keep g0
  have m5 := hA2.cell 5
  have lA := hA2.lt
  have n0 := hS2.cell 0
  have lS := hS2.lt
  clear hA hS hi hA2 hS2
  by_cases h0 : zday = 0
  · subst h0
    go_enter Tryz.func107, Tryz.ntmps107
    go_wp2_with fail
    first | (go_ret; exact ⟨by simp, g0⟩) | exact ⟨by simp, g0⟩
  · have e0 : (zday == 0) = false := by simpa using h0
    rw [decide_eq_false h0]
    by_cases h1 : zday = 1
    · subst h1
      have hT : Hid (((false || (yfirst && !decide ((1 : Int) = 1))) || II) = II) := by show _ = _; simp
      cases yfirst
      all_goals
        go_enter Tryz.func107, Tryz.ntmps107
        go_wp2_with (go_at_call 76; refine (HI.out _ g0).mono ?_; rintro e w1 ⟨rfl, hG1⟩)
        first | (go_ret; exact ⟨by rw [hT.out]; rfl, g0.t hG1⟩) | exact ⟨by rw [hT.out]; rfl, g0.t hG1⟩
    · have e1 : (zday == 1) = false := by simpa using h1
      rw [decide_eq_false h1]
      cases yfirst
      · have hT : Hid (((false || (false && !false)) || II) = II) := by show _ = _; simp
        go_enter Tryz.func107, Tryz.ntmps107
        go_wp2_with (go_at_call 76; refine (HI.out _ g0).mono ?_; rintro e w1 ⟨rfl, hG1⟩)
        first | (go_ret; exact ⟨by rw [hT.out]; rfl, g0.t hG1⟩) | exact ⟨by rw [hT.out]; rfl, g0.t hG1⟩
      · go_enter Tryz.func107, Tryz.ntmps107
        go_wp2_with fail
        first | (go_ret; exact ⟨by simp, g0⟩) | exact ⟨by simp, g0⟩
def TakePost (w : World) (l : List Rc) (e : Ending) (w' : World) : Prop := ∃ v, e = .returned v ∧ w'.ownsRow w.heap.size 60 5 v l.length (rcV l) ∧ G w w'
set_option maxRecDepth 100000 in
set_option maxHeartbeats 4000000 in
theorem takers_any (f : Fu) (st : List Int) (sa : Option Addr) (sc : Nat) (w : World) (hrow : RowE Rc.v 5 w f.fa f.rs) (hn : f.fa ≠ none ∨ f.rs = []) (hi : IntsAt w sa st) (hl : st.length ≤ 1000) (h12 : f.rs.length ≤ 12) (hu : Uniq f.rs) (hs : f.rs.Pairwise fun x y => x.bird ≤ y.bird) :
    Calls Tryz.prog 83 #[.agg f.v, .slice sa st.length sc] w (TakePost w (takersL f st)) := by
  obtain ⟨W1, hW1⟩ : ∃ W1, W1 = (w.alloc (.cells f.v 85)).alloc (.cells #[.slice sa st.length sc] 24) := ⟨_, rfl⟩
  have g0 : G w W1 := by rw [hW1]; exact ((G.rf _).a _).a _
  have b0 : Blk W1 w.heap.size 85 f.v := by rw [hW1]; exact (Blk.new _ _ _).alloc _
  have b1 : Blk W1 (w.heap.size + 1) 24 #[.slice sa st.length sc] := by rw [hW1]; exact Blk.new1 _ _ _ _
  have HC := Lib.hid (clone_any f.rs f.fa f.fc W1 (hrow.below g0) (by omega) hn)
  have HD := Lib.hid (fun (W : World) (v : Value) (hG : G W1 W) (h : W.ownsRow W1.heap.size 60 5 v f.rs.length (rcV f.rs)) => delete_any 107 (enters_of Tryz.func107 (by kernel_rfl) rfl) #[.pointer (some ⟨w.heap.size, 0, none⟩), .pointer (some ⟨w.heap.size + 1, 0, none⟩)] (fun x => skipB f.po.first st x) f.rs W1.heap.size v W1 W (Nat.le_refl _) hG h (by omega)
    (fun W' hG' i hi' => take107 f st sa sc w.heap.size (w.heap.size + 1) W' (b0.keep hG') (b1.keep hG') ((hi.below g0).below hG') hl _))
  have hfl : (f.rs.filter fun x => !skipB f.po.first st x).length ≤ 12 := Nat.le_trans (List.length_filter_le _ _) h12
  have HS := Lib.hid (fun (W : World) (v : Value) (h : W.ownsRow W1.heap.size 60 5 v (f.rs.filter fun x => !skipB f.po.first st x).length (rcV (f.rs.filter fun x => !skipB f.po.first st x))) => stable_own (f.rs.filter fun x => !skipB f.po.first st x) (uniq_filter hu _) (hs.filter _) hfl W W1.heap.size v h)
  have HP : Hid (∀ w' v, w'.ownsRow W1.heap.size 60 5 v (f.rs.filter fun x => !skipB f.po.first st x).length (rcV (takersL f st)) → G W1 w' → TakePost w (takersL f st) (.returned v) w') := fun w' v a b => by
    have e : (f.rs.filter fun x => !skipB f.po.first st x).length = (takersL f st).length := by unfold takersL; rw [tks_len]
    rw [e] at a
    exact ⟨v, rfl, own_weaken a g0.size, g0.t b⟩
  have HTK : Hid (tks (f.rs.filter fun x => !skipB f.po.first st x) = takersL f st) := rfl
  generalize takersL f st = TT at *
  generalize TakePost w TT = PP at *
  generalize (f.rs.filter fun x => !skipB f.po.first st x) = FF at *
  clear hrow hn hi hu hs hfl b0 b1
  obtain ⟨⟨ystake, ycut, ykind, yta, ytc, ytable, yquota, yfirst⟩, fa, fc, rs, pa, pc, ps⟩ := f
  unfold Fu.v at *
  dsimp only at *
  go_enter Tryz.func83, Tryz.ntmps83
  go_upto_region 1 with fail
  change Code.wp _ _ _ _ ((w.alloc (.cells #[.int .i64 ystake, .int .i64 ycut, .int .i64 ykind, .slice yta ytable.length ytc, .int .i64 yquota, .bool yfirst, .slice fa rs.length fc, .slice pa ps.length pc] 85)).alloc (.cells #[.slice sa st.length sc] 24))
  have hk0 : W1.cell? ⟨w.heap.size, 6, none⟩ = some (.slice fa rs.length fc) := by
    rw [hW1]
    exact ((Blk.new w 85 #[.int .i64 ystake, .int .i64 ycut, .int .i64 ykind, .slice yta ytable.length ytc, .int .i64 yquota, .bool yfirst, .slice fa rs.length fc, .slice pa ps.length pc]).alloc _).cell 6
  have lk : w.heap.size < W1.heap.size := by
    rw [hW1]
    exact ((Blk.new w 85 #[.int .i64 ystake, .int .i64 ycut, .int .i64 ykind, .slice yta ytable.length ytc, .int .i64 yquota, .bool yfirst, .slice fa rs.length fc, .slice pa ps.length pc]).alloc (.cells #[.slice sa st.length sc] 24)).lt
  rw [← hW1]
  clear hW1
  go_wp2_with (first | (go_at_call 106; refine (HC.out).mono ?_; rintro e w2 ⟨v2, rfl, ho2, hG2⟩) | (go_at_call 105; refine (HD.out _ _ hG2 ho2).mono ?_; rintro e w3 ⟨v3, rfl, ho3, hG3⟩) | (go_at_call 108; refine (HS.out _ _ ho3).mono ?_; rintro e w4 ⟨rfl, ho4, hg4⟩))
  have hF := HP.out w4 v3 (by rw [← HTK.out]; exact ho4) (grow_own hG3 ho3 (Nat.le_refl _) hg4)
  first | (go_ret; exact hF) | exact hF
end Go.Proofs.YtnkmcoljijmgpaaGreat

set_option linter.unusedSimpArgs false
set_option linter.unusedVariables false
namespace Go.Proofs.YtnkmcoljijmgpaaGreat
open Go.RowKit Go.Shelf Go.Sort
attribute [local go_sem] Oper.semAt_some
/-- a row of rows of numbers, the last of them with a base of its own -/
structure OrdAt (W : World) (B : Nat) (v : Value) (gs : List (List Int)) (cs : List Value) (Bl : Nat) : Prop where
  out : W.ownsRow B 24 1 v gs.length cs
  inn : ∀ i, i < gs.length → W.ownsRow B 3 1 (cs.getD i undef) (gs.getD i []).length (iv (gs.getD i []))
  last : ∀ i, i + 1 = gs.length → W.ownsRow Bl 3 1 (cs.getD i undef) (gs.getD i []).length (iv (gs.getD i []))
  low : ∀ i, i + 1 < gs.length → ∀ g, (cs.getD i undef).ownBlock = some g → g < Bl
  bl : B ≤ Bl
  top : Bl ≤ W.heap.size
theorem OrdAt.nil (W : World) (B : Nat) (hB : B ≤ W.heap.size) : OrdAt W B (.slice none 0 0) [] [] B := ⟨World.ownsRow_nil _ _ _ _, fun i h => by simp at h, fun i h => by simp at h, fun i h => by simp at h, Nat.le_refl _, hB⟩
section
variable {W W' : World} {B : Nat} {v : Value} {gs : List (List Int)} {cs : List Value} {Bl : Nat}
theorem OrdAt.keepG (h : OrdAt W B v gs cs Bl) (hG : G W W') : OrdAt W' B v gs cs Bl := ⟨own_G h.out hG, fun i hi => own_G (h.inn i hi) hG, fun i hi => own_G (h.last i hi) hG, h.low, h.bl, Nat.le_trans h.top hG.size⟩
theorem OrdAt.len (h : OrdAt W B v gs cs Bl) : cs.length = gs.length := by have := h.out.1; omega
theorem getD_app {α : Type} {l : List α} {x d : α} {i : Nat} (h : i < l.length) : (l ++ [x]).getD i d = l.getD i d := by
  simp [List.getD_eq_getElem?_getD, List.getElem?_append_left h]
theorem getD_last {α : Type} {l : List α} {x d : α} {i : Nat} (h : i = l.length) : (l ++ [x]).getD i d = x := by
  subst h
  simp [List.getD_eq_getElem?_getD]
theorem own_none {W : World} {b s n : Nat} {e : TypeId} {v : Value} {xs : List Value} (h : W.ownsRow b e s v n xs) : v.ownBlock = none ∨ ∃ g, v.ownBlock = some g ∧ b ≤ g ∧ g < W.heap.size := by
  rcases h.2 with ⟨rfl, _⟩ | ⟨g, cap, cur, rfl, hb, hg, _⟩
  · exact .inl rfl
  · exact .inr ⟨g, rfl, hb, (Array.getElem?_eq_some_iff.1 hg).1⟩
/-- a new row, still empty -/
theorem OrdAt.new (h : OrdAt W B v gs cs Bl) {v' : Value} (ho : W'.ownsRow B 24 1 v' (gs.length + 1) (cs ++ [.slice none 0 0])) (hg : W.grownBy W' v.ownBlock) (hB : B ≤ W'.heap.size) : OrdAt W' B v' (gs ++ [[]]) (cs ++ [.slice none 0 0]) W'.heap.size := by
  have hl := h.len
  have hk : ∀ i, i < gs.length → W'.ownsRow B 3 1 (cs.getD i undef) (gs.getD i []).length (iv (gs.getD i [])) := fun i hi => (h.inn i hi).kept hg (own_own (h.inn i hi) h.out (by decide))
  have ha : ∀ i, i < gs.length + 1 → W'.ownsRow B 3 1 ((cs ++ [Value.slice none 0 0]).getD i undef) ((gs ++ [[]]).getD i []).length (iv ((gs ++ [[]]).getD i [])) := fun i hi => by
    by_cases h1 : i < gs.length
    · rw [getD_app (by omega), getD_app h1]
      exact hk i h1
    · rw [getD_last (by omega), getD_last (by omega)]
      exact World.ownsRow_nil _ _ _ _
  refine ⟨by rw [List.length_append]; exact ho, fun i hi => ha i (by simpa using hi), fun i hi => ?_, fun i hi g hgb => ?_, hB, Nat.le_refl _⟩
  · rw [List.length_append, List.length_singleton] at hi
    rw [getD_last (by omega), getD_last (by omega)]
    exact World.ownsRow_nil _ _ _ _
  · rw [List.length_append, List.length_singleton] at hi
    rw [getD_app (by omega)] at hgb
    rcases own_none (hk i (by omega)) with hn | ⟨g', e, _, hlt⟩
    · rw [hn] at hgb; cases hgb
    · rw [hgb] at e; cases e; exact hlt
/-- one more in the last row -/
def addLast (gs : List (List Int)) (b : Int) : List (List Int) := gs.set (gs.length - 1) (gs.getD (gs.length - 1) [] ++ [b])
theorem addLast_len (gs : List (List Int)) (b : Int) : (addLast gs b).length = gs.length := by simp [addLast]
theorem getD_set {α : Type} {l : List α} {x d : α} {i j : Nat} (h : i < l.length) : (l.set i x).getD j d = if j = i then x else l.getD j d := by
  rw [List.getD_eq_getElem?_getD, List.getElem?_set]
  by_cases e : i = j
  · subst e; simp [h]
  · simp [e, Ne.symm e, List.getD_eq_getElem?_getD]
theorem OrdAt.put (h : OrdAt W B v gs cs Bl) {u : Value} {x : Int} {W2 : World} {go n : Nat} (hn : gs.length = n + 1) (hu : W'.ownsRow Bl 3 1 u ((gs.getD n []).length + 1) (iv (gs.getD n [] ++ [x]))) (hg : W.grownBy W' (cs.getD n undef).ownBlock)
    (hv : v.ownBlock = some go) (hW : W2 = W'.setCell ⟨go, n, none⟩ u) : OrdAt W2 B v (addLast gs x) (cs.set n u) Bl ∧ ∀ w0 : World, w0.heap.size ≤ B → G w0 W → G w0 W2 := by
  subst hW
  have hl := h.len
  have hlast := h.last n (by omega)
  have hout : W'.ownsRow B 24 1 v gs.length cs := h.out.kept hg (by
    rcases own_own h.out hlast (by decide) with a | a
    · exact .inl a
    · exact .inr a)
  obtain ⟨g, cap, cur, rfl, hb, hgo, h1, h2, h3, h4⟩ := hout.2.resolve_left (fun a => by rw [a.1] at hv; cases hv)
  obtain rfl : go = g := by simpa [Value.ownBlock] using hv.symm
  have hB : Blk W' go 24 cur := hgo
  have hset : ∀ {b n' : Nat} {w : Value} {xs : List Value}, W'.ownsRow b 3 1 w n' xs → (W'.setCell ⟨go, n, none⟩ u).ownsRow b 3 1 w n' xs := fun hr => hr.kept (grownBy_set _ _ _) (.inr (own_ne hr hB (by decide)).symm)
  have hbase : ∀ g', (cs.getD n undef).ownBlock = some g' → Bl ≤ g' := fun g' e => own_base hlast e
  have hinn : ∀ i, i + 1 < gs.length → W'.ownsRow B 3 1 (cs.getD i undef) (gs.getD i []).length (iv (gs.getD i [])) := fun i hi => (h.inn i (by omega)).kept hg (by
    rcases own_none (h.inn i (by omega)) with a | ⟨g', e, _, _⟩
    · exact .inl a
    · refine .inr (fun e2 => ?_)
      have b1 := h.low i hi g' e
      have b2 := hbase g' (by rw [← e2]; exact e)
      omega)
  have hgn : (addLast gs x) = gs.set n (gs.getD n [] ++ [x]) := by unfold addLast; rw [hn]; rfl
  have hGu := hset hu
  refine ⟨⟨?_, fun i hi => ?_, fun i hi => ?_, fun i hi g' e => ?_, h.bl, Nat.le_trans h.top (Nat.le_trans hg.size (grownBy_set _ _ _).size)⟩, fun w0 hw hG => ?_⟩
  · rw [addLast_len]
    refine ⟨by rw [List.length_set]; omega, .inr ⟨go, cap, _, rfl, hb, hB.set_ n u, h1, h2, by simpa using h3, ?_⟩⟩
    rw [Array.toList_setIfInBounds, List.take_set, h4]
  · rw [addLast_len] at hi
    rw [hgn, getD_set (by omega), getD_set (by omega)]
    by_cases e : i = n
    · rw [if_pos e, if_pos e, List.length_append]
      exact own_weaken hGu h.bl
    · rw [if_neg e, if_neg e]
      exact hset (hinn i (by omega))
  · rw [addLast_len] at hi
    rw [hgn, getD_set (by omega), getD_set (by omega), if_pos (by omega), if_pos (by omega), List.length_append]
    exact hGu
  · rw [addLast_len] at hi
    rw [getD_set (by omega), if_neg (by omega)] at e
    exact h.low i hi g' e
  · have g1 : G w0 W' := grow_own hG hlast (Nat.le_trans hw h.bl) hg
    exact g1.s (p := ⟨go, n, none⟩) (Nat.le_trans hw hb) u
end
end Go.Proofs.YtnkmcoljijmgpaaGreat

set_option linter.unusedSimpArgs false
set_option linter.unusedVariables false
namespace Go.Proofs.YtnkmcoljijmgpaaGreat
open Go.RowKit Go.Shelf Go.Sort
attribute [local go_sem] Oper.semAt_some
theorem OrdAt.away {W W' : World} {B : Nat} {v : Value} {gs : List (List Int)} {cs : List Value} {Bl g : Nat} (h : OrdAt W B v gs cs Bl) (hF : ∀ b, b ≠ g → W'.heap[b]? = W.heap[b]?) (hg : g < B) (hsz : W.heap.size ≤ W'.heap.size) : OrdAt W' B v gs cs Bl :=
  have hne : ∀ {b s n : Nat} {e : TypeId} {u : Value} {xs : List Value}, B ≤ b → W.ownsRow b e s u n xs → some g ≠ u.ownBlock := fun hb hr e => by
    have := own_base hr e.symm
    omega
  ⟨own_away h.out hF (hne (Nat.le_refl _) h.out), fun i hi => own_away (h.inn i hi) hF (hne (Nat.le_refl _) (h.inn i hi)), fun i hi => own_away (h.last i hi) hF (hne h.bl (h.last i hi)), h.low, h.bl, Nat.le_trans h.top hsz⟩
theorem size_away {B C : World} {g : Nat} (hF : ∀ b, b ≠ g → C.heap[b]? = B.heap[b]?) (hs : g + 1 < B.heap.size) : B.heap.size ≤ C.heap.size := by
  have e := hF (B.heap.size - 1) (by omega)
  rw [Array.getElem?_eq_getElem (show B.heap.size - 1 < B.heap.size by omega)] at e
  have := (Array.getElem?_eq_some_iff.1 e).1
  omega
theorem Fr.away1 {A0 A B C : World} {g : Nat} (g3 : G A0 A) (h : Fr (fun i => i = g) A B) (hw : G A0 C) (hF : ∀ b, b ≠ g → C.heap[b]? = B.heap[b]?) (hs : g + 1 < B.heap.size) : Fr (fun i => i = g) A C := by
  have hsz : B.heap.size ≤ C.heap.size := by
    have e := hF (B.heap.size - 1) (by omega)
    rw [Array.getElem?_eq_getElem (show B.heap.size - 1 < B.heap.size by omega)] at e
    have := (Array.getElem?_eq_some_iff.1 e).1
    omega
  exact ⟨hw.os.trans g3.os.symm, hw.tape.trans g3.tape.symm, hw.output.trans g3.output.symm, Nat.le_trans h.size hsz, fun i hi hn => (hF i hn).trans (h.block i hi hn)⟩
theorem OrdAt.weaken {W : World} {B B' : Nat} {v : Value} {gs : List (List Int)} {cs : List Value} {Bl : Nat} (h : OrdAt W B v gs cs Bl) (hb : B' ≤ B) : OrdAt W B' v gs cs Bl :=
  ⟨own_weaken h.out hb, fun i hi => own_weaken (h.inn i hi) hb, h.last, h.low, Nat.le_trans hb h.bl, h.top⟩
/-- the day and rank of the bird before -/
def befD (l : List Rc) (k : Nat) : Int × Int := if k = 0 then (0, 0) else ((l.getD (k - 1) default).day, (l.getD (k - 1) default).rank)
def sameB (l : List Rc) (k : Nat) : Bool := decide ((l.getD k default).day = (befD l k).1 ∧ (l.getD k default).rank = (befD l k).2)
/-- the rings of the first k, those that tie together -/
def grpTo (l : List Rc) : Nat → List (List Int)
  | 0 => []
  | k + 1 => if sameB l k = true then addLast (grpTo l k) (l.getD k default).bird else addLast (grpTo l k ++ [[]]) (l.getD k default).bird
def orderL (f : Fu) (st : List Int) : List (List Int) := grpTo (takersL f st) (takersL f st).length
theorem grpTo_le (l : List Rc) : ∀ k, (grpTo l k).length ≤ k
  | 0 => Nat.le_refl _
  | k + 1 => by
    have := grpTo_le l k
    unfold grpTo
    by_cases h : sameB l k = true
    · rw [if_pos h, addLast_len]; omega
    · rw [if_neg h, addLast_len, List.length_append, List.length_singleton]; omega
theorem grpTo_pos (l : List Rc) (hd : ∀ i, i < l.length → (l.getD i default).day ≠ 0) : ∀ k, 0 < k → k ≤ l.length → 0 < (grpTo l k).length
  | 0, h, _ => by omega
  | k + 1, _, hk => by
    unfold grpTo
    by_cases h : sameB l k = true
    · rw [if_pos h, addLast_len]
      by_cases h0 : k = 0
      · subst h0
        unfold sameB befD at h
        simp only [if_true, decide_eq_true_eq] at h
        exact absurd h.1 (hd 0 (by omega))
      · exact grpTo_pos l hd k (by omega) (by omega)
    · rw [if_neg h, addLast_len, List.length_append, List.length_singleton]; omega
theorem addLast_row (gs : List (List Int)) (b : Int) (i : Nat) (N : Nat) (h : ∀ i, (gs.getD i []).length ≤ N) : ((addLast gs b).getD i []).length ≤ N + 1 := by
  unfold addLast
  by_cases hl : gs.length - 1 < gs.length
  · rw [getD_set hl]
    by_cases e : i = gs.length - 1
    · rw [if_pos e, List.length_append, List.length_singleton]; have := h (gs.length - 1); omega
    · rw [if_neg e]; have := h i; omega
  · rw [List.set_eq_of_length_le (by omega)]; have := h i; omega
theorem grpTo_row (l : List Rc) : ∀ k i, ((grpTo l k).getD i []).length ≤ k
  | 0, i => by simp [grpTo]
  | k + 1, i => by
    unfold grpTo
    by_cases h : sameB l k = true
    · rw [if_pos h]; exact addLast_row _ _ _ _ (grpTo_row l k)
    · rw [if_neg h]
      refine addLast_row _ _ _ _ (fun j => ?_)
      by_cases hj : j < (grpTo l k).length
      · rw [getD_app hj]; exact grpTo_row l k j
      · by_cases e : j = (grpTo l k).length
        · rw [getD_last e]; simp
        · simp [List.getD_eq_getElem?_getD, List.getElem?_append, hj, show ¬ j - (grpTo l k).length < 1 by omega]
def OrderPost (w : World) (gs : List (List Int)) (e : Ending) (w' : World) : Prop := ∃ v cs Bl, e = .returned v ∧ OrdAt w' w.heap.size v gs cs Bl ∧ G w w'
theorem info24 : (Tryz.prog.info? 24).map (fun i => (i.zero, i.size, i.bytes)) = some (some (.slice none 0 0), 1, 24) := by kernel_rfl
end Go.Proofs.YtnkmcoljijmgpaaGreat

set_option linter.unusedSimpArgs false
set_option linter.unusedVariables false
namespace Go.Proofs.YtnkmcoljijmgpaaGreat
open Go.RowKit Go.Shelf Go.Sort
attribute [local go_sem] Oper.semAt_some
set_option maxRecDepth 100000 in
set_option maxHeartbeats 8000000 in
theorem order_any (f : Fu) (st : List Int) (sa : Option Addr) (sc : Nat) (w : World) (hrow : RowE Rc.v 5 w f.fa f.rs) (hn : f.fa ≠ none ∨ f.rs = []) (hi : IntsAt w sa st) (hl : st.length ≤ 1000) (h12 : f.rs.length ≤ 12) (hu : Uniq f.rs) (hs : f.rs.Pairwise fun x y => x.bird ≤ y.bird) :
    Calls Tryz.prog 58 #[.agg f.v, .slice sa st.length sc] w (OrderPost w (orderL f st)) := by
  have HT := Lib.hid (fun (W : World) (hW : G w W) => takers_any f st sa sc W (hrow.below hW) hn (hi.below hW) hl h12 hu hs)
  have hTl : (takersL f st).length ≤ 12 := by
    unfold takersL
    rw [tks_len]
    exact Nat.le_trans (List.length_filter_le _ _) h12
  have hTd : ∀ i, i < (takersL f st).length → ((takersL f st).getD i default).day ≠ 0 := fun i hi' => by
    have hm : (takersL f st).getD i default ∈ takersL f st := by
      rw [List.getD_eq_getElem?_getD, List.getElem?_eq_getElem hi']
      exact List.getElem_mem _
    have hm2 := (tks_perm _).mem_iff.1 hm
    have h3 := (List.mem_filter.1 hm2).2
    intro e
    have h4 : skipB f.po.first st ((takersL f st).getD i default) = true := by unfold skipB; rw [decide_eq_true e]; simp
    rw [h4] at h3
    cases h3
  unfold orderL
  generalize takersL f st = TT at *
  have HP : Hid (∀ w' v cs Bl, OrdAt w' w.heap.size v (grpTo TT TT.length) cs Bl → G w w' → OrderPost w (grpTo TT TT.length) (.returned v) w') := fun w' v cs Bl a b => ⟨v, cs, Bl, rfl, a, b⟩
  generalize OrderPost w (grpTo TT TT.length) = PP at *
  have HPOS := Lib.hid (grpTo_pos TT hTd)
  have HTD := Lib.hid hTd
  clear hrow hn hi hu hs hTd
  obtain ⟨⟨ystake, ycut, ykind, yta, ytc, ytable, yquota, yfirst⟩, fa, fc, rs, pa, pc, ps⟩ := f
  unfold Fu.v at *
  dsimp only at *
  obtain ⟨W1, hW1⟩ : ∃ W1, W1 = (w.alloc (.cells #[.int .i64 ystake, .int .i64 ycut, .int .i64 ykind, .slice yta ytable.length ytc, .int .i64 yquota, .bool yfirst, .slice fa rs.length fc, .slice pa ps.length pc] 85)).alloc (.cells #[.int .i64 0, .int .i64 0, .int .i64 0, .int .i64 0, .slice none 0 0] 60) := ⟨_, rfl⟩
  have g0 : G w W1 := by rw [hW1]; exact ((G.rf _).a _).a _
  have b0 : Blk W1 w.heap.size 85 #[.int .i64 ystake, .int .i64 ycut, .int .i64 ykind, .slice yta ytable.length ytc, .int .i64 yquota, .bool yfirst, .slice fa rs.length fc, .slice pa ps.length pc] := by rw [hW1]; exact (Blk.new _ _ _).alloc _
  have b6 : Blk W1 (w.heap.size + 1) 60 #[.int .i64 0, .int .i64 0, .int .i64 0, .int .i64 0, .slice none 0 0] := by rw [hW1]; exact Blk.new1 _ _ _ _
  go_enter Tryz.func58, Tryz.ntmps58
  go_upto_region 3 with fail
  change Code.wp _ _ _ _ ((w.alloc (.cells #[.int .i64 ystake, .int .i64 ycut, .int .i64 ykind, .slice yta ytable.length ytc, .int .i64 yquota, .bool yfirst, .slice fa rs.length fc, .slice pa ps.length pc] 85)).alloc (.cells #[.int .i64 0, .int .i64 0, .int .i64 0, .int .i64 0, .slice none 0 0] 60))
  rw [← hW1]
  clear hW1
  have m0 := b0.cell 0
  have m1 := b0.cell 1
  have m2 := b0.cell 2
  have m3 := b0.cell 3
  have m4 := b0.cell 4
  have m5 := b0.cell 5
  have m6 := b0.cell 6
  have m7 := b0.cell 7
  have l0 := b0.lt
  clear b0
  go_wp2_with (go_at_call 83; refine (HT.out _ g0).mono ?_; rintro e w3 ⟨tv, rfl, ho3, hG3⟩; obtain ⟨ta, tc, rfl, hrw⟩ := own_row ho3)
  clear m0 m1 m2 m3 m4 m5 m6 m7 l0 HT
  have b63 := b6.keep hG3
  have lb6 := b6.lt
  have hs3 : w.heap.size + 1 < w3.heap.size := b63.lt
  have g3 := g0.t hG3
  have HROW := Lib.hid hrw
  have HTB : Hid (∀ a, ta = some a → W1.heap.size ≤ a.block) := fun a ha => by
    subst ha
    exact own_base ho3 rfl
  clear ho3 hrw b6
  go_loopw [5, 15] (fun v i wr => ∃ (k : Nat) (cs : List Value) (Bl : Nat) (bb bo br bd : Int) (bpa : Option Addr) (bpl bpc : Nat), k ≤ TT.length ∧ i = .int .i64 k ∧ Hid (OrdAt wr w3.heap.size v (grpTo TT k) cs Bl) ∧ Hid (Blk wr (w.heap.size + 1) 60 #[.int .i64 bb, .int .i64 bo, .int .i64 br, .int .i64 bd, .slice bpa bpl bpc]) ∧ Hid (befD TT k = (bd, br)) ∧ Hid (Fr (fun i => i = w.heap.size + 1) w3 wr)) (fun _ i _ => TT.length - (intOf i).toNat)
  case atStart => exact ⟨0, [], w3.heap.size, 0, 0, 0, 0, none, 0, 0, Nat.zero_le _, rfl, OrdAt.nil _ _ (Nat.le_refl _), b63, rfl, Fr.rf _ _⟩
  case round =>
    clear b63
    obtain ⟨k, cs, Bl, bb, bo, br, bd, bpa, bpl, bpc, hk, rfl, HORD, HB6, HBD, HFR⟩ := hrel
    obtain ⟨wo, rfl⟩ : ∃ wo, wo = wr := ⟨_, rfl⟩
    by_cases hlt : k < TT.length
    · have hki : (k : Int) < TT.length := by omega
      rcases HROW.out with h | ⟨gr, ofr, rfl, hgr, hcell⟩
      · omega
      have hgrb := HTB.out _ rfl
      have hgb : W1.heap.size ≤ gr := hgrb
      have hne : gr ≠ w.heap.size + 1 := by omega
      have lg : gr < wo.heap.size := Nat.lt_of_lt_of_le hgr HFR.out.size
      have hcl : ∀ r, r < 5 → wo.cell? ⟨gr, ofr + k * 5 + r, none⟩ = (Rc.v (TT.getD k default))[r]? := fun r hr => by
        have e := HFR.out.block gr hgr hne
        have e2 := hcell k hlt r hr
        simp only [World.cell?] at e2 ⊢
        rw [e]
        exact e2
      have hgs : grpTo TT (k + 1) = if sameB TT k = true then addLast (grpTo TT k) (TT.getD k default).bird else addLast (grpTo TT k ++ [[]]) (TT.getD k default).bird := rfl
      have hsb : sameB TT k = decide ((TT.getD k default).day = bd ∧ (TT.getD k default).rank = br) := by unfold sameB; rw [HBD.out]
      have hb1 : befD TT (k + 1) = ((TT.getD k default).day, (TT.getD k default).rank) := by unfold befD; rw [if_neg (by omega)]; rfl
      have hglen := grpTo_le TT k
      have hgrw := Lib.hid (fun i => grpTo_row TT k i)
      have HPO := Lib.hid (HPOS.out k)
      have hzd := HTD.out k hlt
      have h0b : k = 0 → bd = 0 := fun e => by have := HBD.out; unfold befD at this; rw [if_pos e] at this; exact (congrArg Prod.fst this).symm
      obtain ⟨y, hy⟩ : ∃ y, y = TT.getD k default := ⟨_, rfl⟩
      rw [← hy] at hcl hgs hsb hb1 hzd
      clear hcell
      obtain ⟨zbird, zowner, zrank, zday, zpa, zpc, zpools⟩ := y
      unfold Rc.v at hcl
      have HGS := Lib.hid hgs
      have HB1 := Lib.hid hb1
      dsimp only at HGS HB1 hsb hzd
      clear hgs hb1 hy
      have q0 : wo.cell? ⟨gr, ofr + k * 5, none⟩ = some (.int .i64 zbird) := hcl 0 (by omega)
      have q1 : wo.cell? ⟨gr, ofr + k * 5 + 1, none⟩ = some (.int .i64 zowner) := hcl 1 (by omega)
      have q2 : wo.cell? ⟨gr, ofr + k * 5 + 2, none⟩ = some (.int .i64 zrank) := hcl 2 (by omega)
      have q3 : wo.cell? ⟨gr, ofr + k * 5 + 3, none⟩ = some (.int .i64 zday) := hcl 3 (by omega)
      have q4 : wo.cell? ⟨gr, ofr + k * 5 + 4, none⟩ = some (.slice zpa zpools.length zpc) := hcl 4 (by omega)
      clear hcl
      go_upto_region 6 with fail
      have gw : G wo (wo.alloc (.cells #[.int .i64 zbird, .int .i64 zowner, .int .i64 zrank, .int .i64 zday, .slice zpa zpools.length zpc] 60)) := (G.rf wo).a _
      have bx : Blk (wo.alloc (.cells #[.int .i64 zbird, .int .i64 zowner, .int .i64 zrank, .int .i64 zday, .slice zpa zpools.length zpc] 60)) wo.heap.size 60 #[.int .i64 zbird, .int .i64 zowner, .int .i64 zrank, .int .i64 zday, .slice zpa zpools.length zpc] := Blk.new _ _ _
      have hgx : w3.heap.size ≤ wo.heap.size := HFR.out.size
      have HORD2 := Lib.hid (HORD.out.keepG gw)
      have HB62 := Lib.hid (HB6.out.keep gw)
      have HFR2 := Lib.hid (HFR.out.g gw)
      clear q0 q1 q2 q3 q4 lg HORD HB6 HFR gw
      change Code.wp _ _ _ _ (wo.alloc (.cells #[.int .i64 zbird, .int .i64 zowner, .int .i64 zrank, .int .i64 zday, .slice zpa zpools.length zpc] 60))
      obtain ⟨gx, hgx2⟩ : ∃ gx, gx = wo.heap.size := ⟨_, rfl⟩
      rw [← hgx2] at bx hgx ⊢
      clear hgx2
      generalize wo.alloc (.cells #[.int .i64 zbird, .int .i64 zowner, .int .i64 zrank, .int .i64 zday, .slice zpa zpools.length zpc] 60) = w2 at *
      have n2 := bx.cell 2
      have n3 := bx.cell 3
      have ln := bx.lt
      have p2 := HB62.out.cell 2
      have p3 := HB62.out.cell 3
      have lp := HB62.out.lt
      by_cases hsame : zday = bd ∧ zrank = br
      · have HT1 : Hid (sameB TT k = true) := by show _ = _; rw [hsb]; exact decide_eq_true hsame
        obtain ⟨hs1, hs2⟩ := hsame
        have hk0 : 0 < k := by
          rcases Nat.eq_zero_or_pos k with e | e
          · exact absurd (hs1.trans (h0b e)) hzd
          · exact e
        have hpos := HPO.out hk0 hk
        obtain ⟨gs, hgsE⟩ : ∃ gs, gs = grpTo TT k := ⟨_, rfl⟩
        have HQL : Hid (∀ i, (gs.getD i []).length ≤ k) := by rw [hgsE]; exact hgrw
        have HG2 : Hid (grpTo TT (k + 1) = addLast gs zbird) := by show _ = _; rw [HGS.out, if_pos HT1.out, hgsE]
        rw [← hgsE] at HORD2 hpos hglen
        clear hgsE HPO hgrw HGS HT1 hsb h0b hzd
        obtain ⟨m, hgm⟩ : ∃ m, gs.length = m + 1 := ⟨gs.length - 1, by omega⟩
        replace HQL : Hid ((gs.getD m []).length ≤ 12) := Nat.le_trans (HQL.out m) (by omega)
        obtain ⟨wt, rfl⟩ : ∃ wt, wt = w2 := ⟨_, rfl⟩
        obtain ⟨HORD, hxx⟩ : ∃ H, H = HORD2 := ⟨_, rfl⟩
        clear hxx HORD2
        subst hs1
        subst hs2
        have hout := HORD.out.out
        rw [hgm] at hout
        obtain ⟨go, vcap, vcur, rfl, hbv, hlv, htv⟩ := own_some hout (by omega)
        clear hout
        have hcl := HORD.out.len
        have hlast := HORD.out.last m (by omega)
        have hmle : m ≤ 12 := by omega
        obtain ⟨la, lc, hlw⟩ := own_slice hlast
        obtain ⟨q, hq⟩ : ∃ q, q = (gs.getD m []).length := ⟨_, rfl⟩
        rw [← hq] at hlw hlast
        rw [hlw] at hlast
        have hcell : wt.cell? ⟨go, m, none⟩ = some (.slice la q lc) := take_cell hbv htv (k := m) (by omega) (by rw [← hlw]; simp [List.getD_eq_getElem?_getD, show m < cs.length by omega])
        have hSk : ∀ W', G wt W' → (W'.cell? ⟨go, m, none⟩ = some (.slice la q lc) ∧ go < W'.heap.size) ∧ (W'.cell? ⟨gx, 0, none⟩ = some (.int .i64 zbird) ∧ gx < W'.heap.size) := fun W' hW => ⟨⟨((bcellB hW).1 go _ hlv).trans hcell, (hbv.keep hW).lt⟩, ⟨(bx.keep hW).cell 0, (bx.keep hW).lt⟩⟩
        have ga := (G.rf wt).d
        have hmi : (m : Int) < (m : Int) + 1 := by omega
        have hm1 : ((m + 1 : Nat) : Int) - 1 = (m : Int) := by omega
        have hm2 : (m : Int) + 1 - 1 = (m : Int) := by omega
        have hql : q ≤ 12 := by rw [hq]; exact HQL.out
        have HQ := Lib.hid hq
        have HLW := Lib.hid hlw
        have HCL := Lib.hid hcl
        have HL := Lib.hid hlast
        have HGM := Lib.hid hgm
        have HBV := Lib.hid hbv
        have HCELL := Lib.hid hcell
        clear hq hlw hcl hlast htv hcell hgm hbv
        go_upto_region 9 with fail
        refine wp_region_Y (S := fun W' => (W'.cell? ⟨go, m, none⟩ = some (.slice la q lc) ∧ go < W'.heap.size) ∧ (W'.cell? ⟨gx, 0, none⟩ = some (.int .i64 zbird) ∧ gx < W'.heap.size)) 11 12 rfl (by kernel_rfl) (hSk _ ga) (fun hS => ?_)
        refine wpAnyY_take (i := 0) (v := ?_) rfl (by kernel_rfl) (by kernel_rfl) (by kernel_rfl) (by kernel_rfl) (fun _ _ _ h => h) (Or.inl ⟨by kernel_rfl, ?_⟩) hS ?_
        rotate_left
        · intro w' hSw; go_simp; with_reducible rfl
        try simp only [Act.put, List.getElem_toArray, List.getElem_cons_zero, List.getElem_cons_succ, List.setIfInBounds_toArray, List.set_cons_zero, List.set_cons_succ]
        refine wpAnyY_take (i := 1) (v := ?_) rfl (by kernel_rfl) (by kernel_rfl) (by kernel_rfl) (by kernel_rfl) (fun _ _ _ h => h) (Or.inl ⟨by kernel_rfl, ?_⟩) hS ?_
        rotate_left
        · intro w' hSw; go_simp; with_reducible rfl
        try simp only [Act.put, List.getElem_toArray, List.getElem_cons_zero, List.getElem_cons_succ, List.setIfInBounds_toArray, List.set_cons_zero, List.set_cons_succ]
        refine wpAnyY_take (i := 2) (v := ?_) rfl (by kernel_rfl) (by kernel_rfl) (by kernel_rfl) (by kernel_rfl) (fun _ _ _ h => h) (Or.inl ⟨by kernel_rfl, ?_⟩) hS ?_
        rotate_left
        · intro w' hSw; go_simp; with_reducible rfl
        try simp only [Act.put, List.getElem_toArray, List.getElem_cons_zero, List.getElem_cons_succ, List.setIfInBounds_toArray, List.set_cons_zero, List.set_cons_succ]
        refine wpAnyY_take (i := 3) (v := ?_) rfl (by kernel_rfl) (by kernel_rfl) (by kernel_rfl) (by kernel_rfl) (fun _ _ _ h => h) (Or.inl ⟨by kernel_rfl, ?_⟩) hS ?_
        rotate_left
        · intro w' hSw; go_simp; with_reducible rfl
        try simp only [Act.put, List.getElem_toArray, List.getElem_cons_zero, List.getElem_cons_succ, List.setIfInBounds_toArray, List.set_cons_zero, List.set_cons_succ]
        refine wpAnyY_take (i := 4) (v := ?_) rfl (by kernel_rfl) (by kernel_rfl) (by kernel_rfl) (by kernel_rfl) (fun _ _ _ h => h) (Or.inl ⟨by kernel_rfl, ?_⟩) hS ?_
        rotate_left
        · intro w' hSw; go_simp; with_reducible rfl
        try simp only [Act.put, List.getElem_toArray, List.getElem_cons_zero, List.getElem_cons_succ, List.setIfInBounds_toArray, List.set_cons_zero, List.set_cons_succ]
        refine wpAnyY_take (i := 5) (v := ?_) rfl (by kernel_rfl) (by kernel_rfl) (by kernel_rfl) (by kernel_rfl) (fun _ _ _ h => h) (Or.inl ⟨by kernel_rfl, ?_⟩) hS ?_
        rotate_left
        · intro w' hSw; obtain ⟨⟨s0, s1⟩, ⟨u0, u1⟩⟩ := hSw; go_simp; with_reducible rfl
        try simp only [Act.put, List.getElem_toArray, List.getElem_cons_zero, List.getElem_cons_succ, List.setIfInBounds_toArray, List.set_cons_zero, List.set_cons_succ]
        refine wpAnyY_take (i := 6) (v := ?_) rfl (by kernel_rfl) (by kernel_rfl) (by kernel_rfl) (by kernel_rfl) (fun _ _ _ h => h) (Or.inl ⟨by kernel_rfl, ?_⟩) hS ?_
        rotate_left
        · intro w' hSw; go_simp; with_reducible rfl
        try simp only [Act.put, List.getElem_toArray, List.getElem_cons_zero, List.getElem_cons_succ, List.setIfInBounds_toArray, List.set_cons_zero, List.set_cons_succ]
        refine wpAnyY_take (i := 7) (v := ?_) rfl (by kernel_rfl) (by kernel_rfl) (by kernel_rfl) (by kernel_rfl) (fun _ _ _ h => h) (Or.inl ⟨by kernel_rfl, ?_⟩) hS ?_
        rotate_left
        · intro w' hSw; obtain ⟨⟨s0, s1⟩, ⟨u0, u1⟩⟩ := hSw; go_simp; with_reducible rfl
        try simp only [Act.put, List.getElem_toArray, List.getElem_cons_zero, List.getElem_cons_succ, List.setIfInBounds_toArray, List.set_cons_zero, List.set_cons_succ]
        refine wpAnyY_oneSW (i := 8) (by kernel_rfl) rfl (by kernel_rfl) (fun K8 hK8 => ?_)
        go_simp
        refine hK8.out _ _ (hSk _ (ga.a _)) (fun hS => ?_)
        try simp only [Act.put, List.getElem_toArray, List.getElem_cons_zero, List.getElem_cons_succ, List.setIfInBounds_toArray, List.set_cons_zero, List.set_cons_succ]
        have g5 : G wt (wt.alloc (.cells #[.int .i64 zbird] 3)).drew := ((G.rf wt).a _).d
        have hol := own_G HL.out g5
        have hv5 := HBV.out.keep g5
        have bx5 := bx.keep g5
        obtain ⟨i0, hi0, hz0, hz1, hz2⟩ := info_parts info3
        refine wpAnyY_oneSW (i := 9) (by kernel_rfl) rfl (by kernel_rfl) (fun K9 hK9 => ?_)
        refine wp_append_own _ _ _ 24 rfl Bl 3 i0 (.int .i64 0) 1 8 Tryz.underlying24 hi0 hz0 hz1 hz2 rfl (by decide) _ q (iv (gs.getD m [])) rfl hol ⟨wt.heap.size, 0, none⟩ 1 1 [.int .i64 zbird] rfl rfl (cell_one_new _ _ _) (by simp [Value.oneCell']) (by unfold maxLen; omega) (by omega) ?hb ?hr
        case hb => exact Nat.le_trans HORD.out.top g5.size
        case hr =>
          intro v9 w9 hown9 hg9 _
          obtain ⟨lb, lcc, rfl⟩ := own_slice hown9
          have hv9 := hv5.grown hg9 (own_ne hol hv5 (by decide))
          have hx9 := bx5.grown hg9 (own_ne hol bx5 (by decide))
          have S9 : (w9.cell? ⟨go, m, none⟩ = some (.slice la q lc) ∧ go < w9.heap.size) ∧ (w9.cell? ⟨gx, 0, none⟩ = some (.int .i64 zbird) ∧ gx < w9.heap.size) := ⟨⟨(hv9.cell m).trans ((HBV.out.cell m).symm.trans HCELL.out), hv9.lt⟩, ⟨hx9.cell 0, hx9.lt⟩⟩
          refine hK9.out _ _ S9 (fun hS => ?_)
          try simp only [Act.put, List.getElem_toArray, List.getElem_cons_zero, List.getElem_cons_succ, List.setIfInBounds_toArray, List.set_cons_zero, List.set_cons_succ]
          refine wpAnyY_take (i := 10) (v := ?_) rfl (by kernel_rfl) (by kernel_rfl) (by kernel_rfl) (by kernel_rfl) (fun _ _ _ h => h) (Or.inl ⟨by kernel_rfl, ?_⟩) hS ?_
          rotate_left
          · intro w' hSw; go_simp; with_reducible rfl
          try simp only [Act.put, List.getElem_toArray, List.getElem_cons_zero, List.getElem_cons_succ, List.setIfInBounds_toArray, List.set_cons_zero, List.set_cons_succ]
          have c6 := hv9.cell m
          have z6 := hv9.frozen m
          refine wpAnyY_oneW (i := 11) (by kernel_rfl) rfl (by kernel_rfl) (by kernel_rfl) (fun K11 hK11 => ?_)
          go_simp
          refine hK11.out _ _ ?_
          try simp only [Act.put, List.getElem_toArray, List.getElem_cons_zero, List.getElem_cons_succ, List.setIfInBounds_toArray, List.set_cons_zero, List.set_cons_succ]
          refine wpAnyY_done (by kernel_rfl) ?_ _
          have hput := (HORD.out.keepG g5).put (x := zbird) (n := m) (W' := w9) (u := .slice lb (q + 1) lcc) (go := go) HGM.out (by rw [← HQ.out, iv_snoc]; exact hown9) (by rw [HLW.out]; exact hg9) rfl rfl
          have hgo3 : w3.heap.size ≤ go := own_base HORD.out.out rfl
          have hbl := HORD.out.bl
          have frz := ((HFR2.out.g g5).grown hg9 (fun g e => .inr (Nat.le_trans hbl (own_base hol e)))).s (p := ⟨go, m, none⟩) (.inr hgo3) (.slice lb (q + 1) lcc)
          have hgxo : gx ≠ go := fun e => by
            subst e
            have := hx9.symm.trans hv9
            simp at this
          have bxz := hx9.far (p := ⟨go, m, none⟩) hgxo (.slice lb (q + 1) lcc)
          have b65 := HB62.out.keep g5
          have b6z := (b65.grown hg9 (own_ne hol b65 (by decide))).far (p := ⟨go, m, none⟩) (show w.heap.size + 1 ≠ go by omega) (.slice lb (q + 1) lcc)
          have HPUT := Lib.hid hput.1
          have HFRZ := Lib.hid frz
          have HBXZ := Lib.hid bxz
          have HB6Z := Lib.hid b6z
          have gwz : G w (w9.setCell ⟨go, m, none⟩ (.slice lb (q + 1) lcc)) := ((G.fr (R := fun _ => False) g3).t2 frz (fun i hi h => by omega)).toG (fun _ _ h => h)
          clear hput frz bxz b6z b65 hown9 hg9 hv9 hx9 c6 z6 hol hv5 bx5 g5 S9 hS hSk ga hK8 hK9 hK11 n2 n3 ln p2 p3 lp
          generalize w9.setCell ⟨go, m, none⟩ (.slice lb (q + 1) lcc) = wz at *
          go_upto_region 10 with fail
          refine wp_region_lit ?_
          refine wpList_load60 gx (.tmp 8) (REL := #[.int .i64 zbird, .int .i64 zowner, .int .i64 zrank, .int .i64 zday, .slice zpa zpools.length zpc]) ⟨_, _, _, _, _, _, _, rfl⟩ rfl rfl rfl HBXZ.out ?_
          try simp only [Act.put, List.getElem_toArray, List.getElem_cons_zero, List.getElem_cons_succ, List.setIfInBounds_toArray, List.set_cons_zero, List.set_cons_succ]
          refine wpList_store60 (w.heap.size + 1) (.tmp 6) (.tmp 48) (OLD := #[.int .i64 bb, .int .i64 bo, .int .i64 zrank, .int .i64 zday, .slice bpa bpl bpc]) (NEW := #[.int .i64 zbird, .int .i64 zowner, .int .i64 zrank, .int .i64 zday, .slice zpa zpools.length zpc]) ⟨_, _, _, _, _, _, _, rfl⟩ ⟨_, _, _, _, _, _, _, rfl⟩ rfl rfl rfl rfl HB6Z.out (fun W4 hb4 hF4 hG4 => ?_)
          try simp only [Act.put, List.getElem_toArray, List.getElem_cons_zero, List.getElem_cons_succ, List.setIfInBounds_toArray, List.set_cons_zero, List.set_cons_succ]
          have hw4 : G w W4 := hG4 w (by omega) gwz
          have hszz := HFRZ.out.size
          have FR4 := Lib.hid (Fr.away1 g3 HFRZ.out hw4 hF4 (by omega))
          have ORD4 := Lib.hid (HPUT.out.away hF4 (by omega) (size_away hF4 (by omega)))
          have HB4 := Lib.hid hb4
          clear hF4 hG4 hw4 hb4 gwz HBXZ HB6Z HPUT HFRZ
          go_wp2_with fail
          go_roundw
          case rel => exact ⟨k + 1, _, Bl, zbird, zowner, zrank, zday, zpa, zpools.length, zpc, by omega, by go_num, by rw [HG2.out]; exact ORD4.out, HB4.out, HB1.out, FR4.out⟩
          case measure => simp [intOf] <;> omega
      · have hT : Hid (sameB TT k = false) := by show _ = _; rw [hsb]; exact decide_eq_false hsame
        have HG2 : Hid (grpTo TT (k + 1) = addLast (grpTo TT k ++ [[]]) zbird) := by show _ = _; rw [HGS.out, if_neg (by rw [hT.out]; simp)]
        have HQ0 : Hid (∀ i, ((grpTo TT k ++ [[]]).getD i []).length ≤ k) := fun i => by
          by_cases h1 : i < (grpTo TT k).length
          · rw [getD_app h1]; exact hgrw.out i
          · by_cases h2 : i = (grpTo TT k).length
            · rw [getD_last h2]; simp
            · simp [List.getD_eq_getElem?_getD, List.getElem?_append, h1, show ¬ i - (grpTo TT k).length < 1 by omega]
        obtain ⟨va, vc, rfl⟩ := own_slice HORD2.out.out
        obtain ⟨g1, hg1⟩ : ∃ g1, g1 = grpTo TT k := ⟨_, rfl⟩
        rw [← hg1] at HORD2 hglen HG2 HQ0 ⊢
        clear hg1 HPO hgrw HGS hT hsb h0b hzd
        obtain ⟨m, hm⟩ : ∃ m, m = g1.length := ⟨_, rfl⟩
        have hoo := HORD2.out.out
        rw [← hm] at hoo hglen ⊢
        have HOO := Lib.hid hoo
        have HM := Lib.hid hm
        clear hoo hm
        obtain ⟨j0, hj0, hy0, hy1, hy2⟩ := info_parts info24
        by_cases h1 : zday = bd
        · have e2 : (zrank == br) = false := by simpa using fun e => hsame ⟨h1, e⟩
          subst h1
          clear hsame
          go_wp2_with (at_builtin; refine wpList_append_own _ rfl _ _ 49 rfl w3.heap.size 24 j0 (.slice none 0 0) 1 24 Tryz.underlying49 hj0 hy0 hy1 hy2 rfl (by decide) _ m cs rfl ?hown ⟨_, 0, none⟩ 1 1 [.slice none 0 0] rfl rfl (cell_one_new _ _ _) (by simp [Value.oneCell']) (by unfold maxLen; omega) (by omega) ?hbase ?hrest)
          case hown => exact own_G HOO.out ((G.rf _).a _)
          case hbase =>
            have h8 := HFR2.out.size
            omega
          case hrest =>
            intro v9 w9 hown9 hg9 _
            have ga1 : G w2 (w2.alloc (.cells #[.slice none 0 0] 24)) := (G.rf w2).a _
            have hoo1 := own_G HOO.out ga1
            have hnew := (HORD2.out.keepG ga1).new (by rw [← HM.out]; exact hown9) (by rw [← HM.out]; exact hg9) (Nat.le_trans HFR2.out.size (Nat.le_trans ga1.size hg9.size))
            obtain ⟨HORD, hxx⟩ : ∃ H, H = Lib.hid hnew := ⟨_, rfl⟩
            have hgm : (g1 ++ [[]]).length = m + 1 := by rw [List.length_append, List.length_singleton, ← HM.out]
            replace HFR2 := Lib.hid ((HFR2.out.g ga1).grown hg9 (fun g e => .inr (own_base hoo1 e)))
            have hbxa := bx.alloc (.cells #[.slice none 0 0] 24)
            replace bx := hbxa.grown hg9 (own_ne hoo1 hbxa (by decide))
            have hb6a := HB62.out.alloc (.cells #[.slice none 0 0] 24)
            replace HB62 := Lib.hid (hb6a.grown hg9 (own_ne hoo1 hb6a (by decide)))
            have HQL : Hid (((g1 ++ [[]]).getD m []).length ≤ 12) := Nat.le_trans (HQ0.out m) (by omega)
            clear hxx hnew hoo1 ga1 hbxa hb6a hown9 hg9 HORD2 HOO HQ0 n2 n3 ln p2 p3 lp
            obtain ⟨gs, hgs0⟩ : ∃ gs, gs = g1 ++ [[]] := ⟨_, rfl⟩
            rw [← hgs0] at HORD HG2 HQL hgm
            clear hgs0 HM
            obtain ⟨cs2, hcs0⟩ : ∃ c, c = cs ++ [Value.slice none 0 0] := ⟨_, rfl⟩
            rw [← hcs0] at HORD
            clear hcs0
            obtain ⟨Bl2, hBl0⟩ : ∃ b, b = w9.heap.size := ⟨_, rfl⟩
            rw [← hBl0] at HORD
            clear hBl0
            obtain ⟨wt, rfl⟩ : ∃ wt, wt = w9 := ⟨_, rfl⟩
            have hout := HORD.out.out
            rw [hgm] at hout
            obtain ⟨go, vcap, vcur, rfl, hbv, hlv, htv⟩ := own_some hout (by omega)
            clear hout
            have hcl := HORD.out.len
            have hlast := HORD.out.last m (by omega)
            have hmle : m ≤ 12 := by omega
            obtain ⟨la, lc, hlw⟩ := own_slice hlast
            obtain ⟨q, hq⟩ : ∃ q, q = (gs.getD m []).length := ⟨_, rfl⟩
            rw [← hq] at hlw hlast
            rw [hlw] at hlast
            have hcell : wt.cell? ⟨go, m, none⟩ = some (.slice la q lc) := take_cell hbv htv (k := m) (by omega) (by rw [← hlw]; simp [List.getD_eq_getElem?_getD, show m < cs2.length by omega])
            have hSk : ∀ W', G wt W' → (W'.cell? ⟨go, m, none⟩ = some (.slice la q lc) ∧ go < W'.heap.size) ∧ (W'.cell? ⟨gx, 0, none⟩ = some (.int .i64 zbird) ∧ gx < W'.heap.size) := fun W' hW => ⟨⟨((bcellB hW).1 go _ hlv).trans hcell, (hbv.keep hW).lt⟩, ⟨(bx.keep hW).cell 0, (bx.keep hW).lt⟩⟩
            have ga := (G.rf wt).d
            have hmi : (m : Int) < (m : Int) + 1 := by omega
            have hm1 : ((m + 1 : Nat) : Int) - 1 = (m : Int) := by omega
            have hm2 : (m : Int) + 1 - 1 = (m : Int) := by omega
            have hql : q ≤ 12 := by rw [hq]; exact HQL.out
            have HQ := Lib.hid hq
            have HLW := Lib.hid hlw
            have HCL := Lib.hid hcl
            have HL := Lib.hid hlast
            have HGM := Lib.hid hgm
            have HBV := Lib.hid hbv
            have HCELL := Lib.hid hcell
            clear hq hlw hcl hlast htv hcell hgm hbv
            go_upto_region 9 with fail
            refine wp_region_Y (S := fun W' => (W'.cell? ⟨go, m, none⟩ = some (.slice la q lc) ∧ go < W'.heap.size) ∧ (W'.cell? ⟨gx, 0, none⟩ = some (.int .i64 zbird) ∧ gx < W'.heap.size)) 11 12 rfl (by kernel_rfl) (hSk _ ga) (fun hS => ?_)
            refine wpAnyY_take (i := 0) (v := ?_) rfl (by kernel_rfl) (by kernel_rfl) (by kernel_rfl) (by kernel_rfl) (fun _ _ _ h => h) (Or.inl ⟨by kernel_rfl, ?_⟩) hS ?_
            rotate_left
            · intro w' hSw; go_simp; with_reducible rfl
            try simp only [Act.put, List.getElem_toArray, List.getElem_cons_zero, List.getElem_cons_succ, List.setIfInBounds_toArray, List.set_cons_zero, List.set_cons_succ]
            refine wpAnyY_take (i := 1) (v := ?_) rfl (by kernel_rfl) (by kernel_rfl) (by kernel_rfl) (by kernel_rfl) (fun _ _ _ h => h) (Or.inl ⟨by kernel_rfl, ?_⟩) hS ?_
            rotate_left
            · intro w' hSw; go_simp; with_reducible rfl
            try simp only [Act.put, List.getElem_toArray, List.getElem_cons_zero, List.getElem_cons_succ, List.setIfInBounds_toArray, List.set_cons_zero, List.set_cons_succ]
            refine wpAnyY_take (i := 2) (v := ?_) rfl (by kernel_rfl) (by kernel_rfl) (by kernel_rfl) (by kernel_rfl) (fun _ _ _ h => h) (Or.inl ⟨by kernel_rfl, ?_⟩) hS ?_
            rotate_left
            · intro w' hSw; go_simp; with_reducible rfl
            try simp only [Act.put, List.getElem_toArray, List.getElem_cons_zero, List.getElem_cons_succ, List.setIfInBounds_toArray, List.set_cons_zero, List.set_cons_succ]
            refine wpAnyY_take (i := 3) (v := ?_) rfl (by kernel_rfl) (by kernel_rfl) (by kernel_rfl) (by kernel_rfl) (fun _ _ _ h => h) (Or.inl ⟨by kernel_rfl, ?_⟩) hS ?_
            rotate_left
            · intro w' hSw; go_simp; with_reducible rfl
            try simp only [Act.put, List.getElem_toArray, List.getElem_cons_zero, List.getElem_cons_succ, List.setIfInBounds_toArray, List.set_cons_zero, List.set_cons_succ]
            refine wpAnyY_take (i := 4) (v := ?_) rfl (by kernel_rfl) (by kernel_rfl) (by kernel_rfl) (by kernel_rfl) (fun _ _ _ h => h) (Or.inl ⟨by kernel_rfl, ?_⟩) hS ?_
            rotate_left
            · intro w' hSw; go_simp; with_reducible rfl
            try simp only [Act.put, List.getElem_toArray, List.getElem_cons_zero, List.getElem_cons_succ, List.setIfInBounds_toArray, List.set_cons_zero, List.set_cons_succ]
            refine wpAnyY_take (i := 5) (v := ?_) rfl (by kernel_rfl) (by kernel_rfl) (by kernel_rfl) (by kernel_rfl) (fun _ _ _ h => h) (Or.inl ⟨by kernel_rfl, ?_⟩) hS ?_
            rotate_left
            · intro w' hSw; obtain ⟨⟨s0, s1⟩, ⟨u0, u1⟩⟩ := hSw; go_simp; with_reducible rfl
            try simp only [Act.put, List.getElem_toArray, List.getElem_cons_zero, List.getElem_cons_succ, List.setIfInBounds_toArray, List.set_cons_zero, List.set_cons_succ]
            refine wpAnyY_take (i := 6) (v := ?_) rfl (by kernel_rfl) (by kernel_rfl) (by kernel_rfl) (by kernel_rfl) (fun _ _ _ h => h) (Or.inl ⟨by kernel_rfl, ?_⟩) hS ?_
            rotate_left
            · intro w' hSw; go_simp; with_reducible rfl
            try simp only [Act.put, List.getElem_toArray, List.getElem_cons_zero, List.getElem_cons_succ, List.setIfInBounds_toArray, List.set_cons_zero, List.set_cons_succ]
            refine wpAnyY_take (i := 7) (v := ?_) rfl (by kernel_rfl) (by kernel_rfl) (by kernel_rfl) (by kernel_rfl) (fun _ _ _ h => h) (Or.inl ⟨by kernel_rfl, ?_⟩) hS ?_
            rotate_left
            · intro w' hSw; obtain ⟨⟨s0, s1⟩, ⟨u0, u1⟩⟩ := hSw; go_simp; with_reducible rfl
            try simp only [Act.put, List.getElem_toArray, List.getElem_cons_zero, List.getElem_cons_succ, List.setIfInBounds_toArray, List.set_cons_zero, List.set_cons_succ]
            refine wpAnyY_oneSW (i := 8) (by kernel_rfl) rfl (by kernel_rfl) (fun K8 hK8 => ?_)
            go_simp
            refine hK8.out _ _ (hSk _ (ga.a _)) (fun hS => ?_)
            try simp only [Act.put, List.getElem_toArray, List.getElem_cons_zero, List.getElem_cons_succ, List.setIfInBounds_toArray, List.set_cons_zero, List.set_cons_succ]
            have g5 : G wt (wt.alloc (.cells #[.int .i64 zbird] 3)).drew := ((G.rf wt).a _).d
            have hol := own_G HL.out g5
            have hv5 := HBV.out.keep g5
            have bx5 := bx.keep g5
            obtain ⟨i0, hi0, hz0, hz1, hz2⟩ := info_parts info3
            refine wpAnyY_oneSW (i := 9) (by kernel_rfl) rfl (by kernel_rfl) (fun K9 hK9 => ?_)
            refine wp_append_own _ _ _ 24 rfl Bl2 3 i0 (.int .i64 0) 1 8 Tryz.underlying24 hi0 hz0 hz1 hz2 rfl (by decide) _ q (iv (gs.getD m [])) rfl hol ⟨wt.heap.size, 0, none⟩ 1 1 [.int .i64 zbird] rfl rfl (cell_one_new _ _ _) (by simp [Value.oneCell']) (by unfold maxLen; omega) (by omega) ?hb ?hr
            case hb => exact Nat.le_trans HORD.out.top g5.size
            case hr =>
              intro vy wy howny hgy _
              obtain ⟨lb, lcc, rfl⟩ := own_slice howny
              have hvy := hv5.grown hgy (own_ne hol hv5 (by decide))
              have hx9 := bx5.grown hgy (own_ne hol bx5 (by decide))
              have S9 : (wy.cell? ⟨go, m, none⟩ = some (.slice la q lc) ∧ go < wy.heap.size) ∧ (wy.cell? ⟨gx, 0, none⟩ = some (.int .i64 zbird) ∧ gx < wy.heap.size) := ⟨⟨(hvy.cell m).trans ((HBV.out.cell m).symm.trans HCELL.out), hvy.lt⟩, ⟨hx9.cell 0, hx9.lt⟩⟩
              refine hK9.out _ _ S9 (fun hS => ?_)
              try simp only [Act.put, List.getElem_toArray, List.getElem_cons_zero, List.getElem_cons_succ, List.setIfInBounds_toArray, List.set_cons_zero, List.set_cons_succ]
              refine wpAnyY_take (i := 10) (v := ?_) rfl (by kernel_rfl) (by kernel_rfl) (by kernel_rfl) (by kernel_rfl) (fun _ _ _ h => h) (Or.inl ⟨by kernel_rfl, ?_⟩) hS ?_
              rotate_left
              · intro w' hSw; go_simp; with_reducible rfl
              try simp only [Act.put, List.getElem_toArray, List.getElem_cons_zero, List.getElem_cons_succ, List.setIfInBounds_toArray, List.set_cons_zero, List.set_cons_succ]
              have c6 := hvy.cell m
              have z6 := hvy.frozen m
              refine wpAnyY_oneW (i := 11) (by kernel_rfl) rfl (by kernel_rfl) (by kernel_rfl) (fun K11 hK11 => ?_)
              go_simp
              refine hK11.out _ _ ?_
              try simp only [Act.put, List.getElem_toArray, List.getElem_cons_zero, List.getElem_cons_succ, List.setIfInBounds_toArray, List.set_cons_zero, List.set_cons_succ]
              refine wpAnyY_done (by kernel_rfl) ?_ _
              have hput := (HORD.out.keepG g5).put (x := zbird) (n := m) (W' := wy) (u := .slice lb (q + 1) lcc) (go := go) HGM.out (by rw [← HQ.out, iv_snoc]; exact howny) (by rw [HLW.out]; exact hgy) rfl rfl
              have hgo3 : w3.heap.size ≤ go := own_base HORD.out.out rfl
              have hbl := HORD.out.bl
              have frz := ((HFR2.out.g g5).grown hgy (fun g e => .inr (Nat.le_trans hbl (own_base hol e)))).s (p := ⟨go, m, none⟩) (.inr hgo3) (.slice lb (q + 1) lcc)
              have hgxo : gx ≠ go := fun e => by
                subst e
                have := hx9.symm.trans hvy
                simp at this
              have bxz := hx9.far (p := ⟨go, m, none⟩) hgxo (.slice lb (q + 1) lcc)
              have b65 := HB62.out.keep g5
              have b6z := (b65.grown hgy (own_ne hol b65 (by decide))).far (p := ⟨go, m, none⟩) (show w.heap.size + 1 ≠ go by omega) (.slice lb (q + 1) lcc)
              have HPUT := Lib.hid hput.1
              have HFRZ := Lib.hid frz
              have HBXZ := Lib.hid bxz
              have HB6Z := Lib.hid b6z
              have gwz : G w (wy.setCell ⟨go, m, none⟩ (.slice lb (q + 1) lcc)) := ((G.fr (R := fun _ => False) g3).t2 frz (fun i hi h => by omega)).toG (fun _ _ h => h)
              clear hput frz bxz b6z b65 howny hgy hvy hx9 c6 z6 hol hv5 bx5 g5 S9 hS hSk ga hK8 hK9 hK11
              generalize wy.setCell ⟨go, m, none⟩ (.slice lb (q + 1) lcc) = wz at *
              go_upto_region 10 with fail
              refine wp_region_lit ?_
              refine wpList_load60 gx (.tmp 8) (REL := #[.int .i64 zbird, .int .i64 zowner, .int .i64 zrank, .int .i64 zday, .slice zpa zpools.length zpc]) ⟨_, _, _, _, _, _, _, rfl⟩ rfl rfl rfl HBXZ.out ?_
              try simp only [Act.put, List.getElem_toArray, List.getElem_cons_zero, List.getElem_cons_succ, List.setIfInBounds_toArray, List.set_cons_zero, List.set_cons_succ]
              refine wpList_store60 (w.heap.size + 1) (.tmp 6) (.tmp 48) (OLD := #[.int .i64 bb, .int .i64 bo, .int .i64 br, .int .i64 zday, .slice bpa bpl bpc]) (NEW := #[.int .i64 zbird, .int .i64 zowner, .int .i64 zrank, .int .i64 zday, .slice zpa zpools.length zpc]) ⟨_, _, _, _, _, _, _, rfl⟩ ⟨_, _, _, _, _, _, _, rfl⟩ rfl rfl rfl rfl HB6Z.out (fun W4 hb4 hF4 hG4 => ?_)
              try simp only [Act.put, List.getElem_toArray, List.getElem_cons_zero, List.getElem_cons_succ, List.setIfInBounds_toArray, List.set_cons_zero, List.set_cons_succ]
              have hw4 : G w W4 := hG4 w (by omega) gwz
              have hszz := HFRZ.out.size
              have FR4 := Lib.hid (Fr.away1 g3 HFRZ.out hw4 hF4 (by omega))
              have ORD4 := Lib.hid (HPUT.out.away hF4 (by omega) (size_away hF4 (by omega)))
              have HB4 := Lib.hid hb4
              clear hF4 hG4 hw4 hb4 gwz HBXZ HB6Z HPUT HFRZ
              go_wp2_with fail
              go_roundw
              case rel => exact ⟨k + 1, _, Bl2, zbird, zowner, zrank, zday, zpa, zpools.length, zpc, by omega, by go_num, by rw [HG2.out]; exact ORD4.out, HB4.out, HB1.out, FR4.out⟩
              case measure => simp [intOf] <;> omega
        · have e1 : (zday == bd) = false := by simpa using h1
          clear hsame
          go_wp2_with (at_builtin; refine wpList_append_own _ rfl _ _ 49 rfl w3.heap.size 24 j0 (.slice none 0 0) 1 24 Tryz.underlying49 hj0 hy0 hy1 hy2 rfl (by decide) _ m cs rfl ?hown ⟨_, 0, none⟩ 1 1 [.slice none 0 0] rfl rfl (cell_one_new _ _ _) (by simp [Value.oneCell']) (by unfold maxLen; omega) (by omega) ?hbase ?hrest)
          case hown => exact own_G HOO.out ((G.rf _).a _)
          case hbase =>
            have h8 := HFR2.out.size
            omega
          case hrest =>
            intro v9 w9 hown9 hg9 _
            have ga1 : G w2 (w2.alloc (.cells #[.slice none 0 0] 24)) := (G.rf w2).a _
            have hoo1 := own_G HOO.out ga1
            have hnew := (HORD2.out.keepG ga1).new (by rw [← HM.out]; exact hown9) (by rw [← HM.out]; exact hg9) (Nat.le_trans HFR2.out.size (Nat.le_trans ga1.size hg9.size))
            obtain ⟨HORD, hxx⟩ : ∃ H, H = Lib.hid hnew := ⟨_, rfl⟩
            have hgm : (g1 ++ [[]]).length = m + 1 := by rw [List.length_append, List.length_singleton, ← HM.out]
            replace HFR2 := Lib.hid ((HFR2.out.g ga1).grown hg9 (fun g e => .inr (own_base hoo1 e)))
            have hbxa := bx.alloc (.cells #[.slice none 0 0] 24)
            replace bx := hbxa.grown hg9 (own_ne hoo1 hbxa (by decide))
            have hb6a := HB62.out.alloc (.cells #[.slice none 0 0] 24)
            replace HB62 := Lib.hid (hb6a.grown hg9 (own_ne hoo1 hb6a (by decide)))
            have HQL : Hid (((g1 ++ [[]]).getD m []).length ≤ 12) := Nat.le_trans (HQ0.out m) (by omega)
            clear hxx hnew hoo1 ga1 hbxa hb6a hown9 hg9 HORD2 HOO HQ0 n2 n3 ln p2 p3 lp
            obtain ⟨gs, hgs0⟩ : ∃ gs, gs = g1 ++ [[]] := ⟨_, rfl⟩
            rw [← hgs0] at HORD HG2 HQL hgm
            clear hgs0 HM
            obtain ⟨cs2, hcs0⟩ : ∃ c, c = cs ++ [Value.slice none 0 0] := ⟨_, rfl⟩
            rw [← hcs0] at HORD
            clear hcs0
            obtain ⟨Bl2, hBl0⟩ : ∃ b, b = w9.heap.size := ⟨_, rfl⟩
            rw [← hBl0] at HORD
            clear hBl0
            obtain ⟨wt, rfl⟩ : ∃ wt, wt = w9 := ⟨_, rfl⟩
            have hout := HORD.out.out
            rw [hgm] at hout
            obtain ⟨go, vcap, vcur, rfl, hbv, hlv, htv⟩ := own_some hout (by omega)
            clear hout
            have hcl := HORD.out.len
            have hlast := HORD.out.last m (by omega)
            have hmle : m ≤ 12 := by omega
            obtain ⟨la, lc, hlw⟩ := own_slice hlast
            obtain ⟨q, hq⟩ : ∃ q, q = (gs.getD m []).length := ⟨_, rfl⟩
            rw [← hq] at hlw hlast
            rw [hlw] at hlast
            have hcell : wt.cell? ⟨go, m, none⟩ = some (.slice la q lc) := take_cell hbv htv (k := m) (by omega) (by rw [← hlw]; simp [List.getD_eq_getElem?_getD, show m < cs2.length by omega])
            have hSk : ∀ W', G wt W' → (W'.cell? ⟨go, m, none⟩ = some (.slice la q lc) ∧ go < W'.heap.size) ∧ (W'.cell? ⟨gx, 0, none⟩ = some (.int .i64 zbird) ∧ gx < W'.heap.size) := fun W' hW => ⟨⟨((bcellB hW).1 go _ hlv).trans hcell, (hbv.keep hW).lt⟩, ⟨(bx.keep hW).cell 0, (bx.keep hW).lt⟩⟩
            have ga := (G.rf wt).d
            have hmi : (m : Int) < (m : Int) + 1 := by omega
            have hm1 : ((m + 1 : Nat) : Int) - 1 = (m : Int) := by omega
            have hm2 : (m : Int) + 1 - 1 = (m : Int) := by omega
            have hql : q ≤ 12 := by rw [hq]; exact HQL.out
            have HQ := Lib.hid hq
            have HLW := Lib.hid hlw
            have HCL := Lib.hid hcl
            have HL := Lib.hid hlast
            have HGM := Lib.hid hgm
            have HBV := Lib.hid hbv
            have HCELL := Lib.hid hcell
            clear hq hlw hcl hlast htv hcell hgm hbv
            go_upto_region 9 with fail
            refine wp_region_Y (S := fun W' => (W'.cell? ⟨go, m, none⟩ = some (.slice la q lc) ∧ go < W'.heap.size) ∧ (W'.cell? ⟨gx, 0, none⟩ = some (.int .i64 zbird) ∧ gx < W'.heap.size)) 11 12 rfl (by kernel_rfl) (hSk _ ga) (fun hS => ?_)
            refine wpAnyY_take (i := 0) (v := ?_) rfl (by kernel_rfl) (by kernel_rfl) (by kernel_rfl) (by kernel_rfl) (fun _ _ _ h => h) (Or.inl ⟨by kernel_rfl, ?_⟩) hS ?_
            rotate_left
            · intro w' hSw; go_simp; with_reducible rfl
            try simp only [Act.put, List.getElem_toArray, List.getElem_cons_zero, List.getElem_cons_succ, List.setIfInBounds_toArray, List.set_cons_zero, List.set_cons_succ]
            refine wpAnyY_take (i := 1) (v := ?_) rfl (by kernel_rfl) (by kernel_rfl) (by kernel_rfl) (by kernel_rfl) (fun _ _ _ h => h) (Or.inl ⟨by kernel_rfl, ?_⟩) hS ?_
            rotate_left
            · intro w' hSw; go_simp; with_reducible rfl
            try simp only [Act.put, List.getElem_toArray, List.getElem_cons_zero, List.getElem_cons_succ, List.setIfInBounds_toArray, List.set_cons_zero, List.set_cons_succ]
            refine wpAnyY_take (i := 2) (v := ?_) rfl (by kernel_rfl) (by kernel_rfl) (by kernel_rfl) (by kernel_rfl) (fun _ _ _ h => h) (Or.inl ⟨by kernel_rfl, ?_⟩) hS ?_
            rotate_left
            · intro w' hSw; go_simp; with_reducible rfl
            try simp only [Act.put, List.getElem_toArray, List.getElem_cons_zero, List.getElem_cons_succ, List.setIfInBounds_toArray, List.set_cons_zero, List.set_cons_succ]
            refine wpAnyY_take (i := 3) (v := ?_) rfl (by kernel_rfl) (by kernel_rfl) (by kernel_rfl) (by kernel_rfl) (fun _ _ _ h => h) (Or.inl ⟨by kernel_rfl, ?_⟩) hS ?_
            rotate_left
            · intro w' hSw; go_simp; with_reducible rfl
            try simp only [Act.put, List.getElem_toArray, List.getElem_cons_zero, List.getElem_cons_succ, List.setIfInBounds_toArray, List.set_cons_zero, List.set_cons_succ]
            refine wpAnyY_take (i := 4) (v := ?_) rfl (by kernel_rfl) (by kernel_rfl) (by kernel_rfl) (by kernel_rfl) (fun _ _ _ h => h) (Or.inl ⟨by kernel_rfl, ?_⟩) hS ?_
            rotate_left
            · intro w' hSw; go_simp; with_reducible rfl
            try simp only [Act.put, List.getElem_toArray, List.getElem_cons_zero, List.getElem_cons_succ, List.setIfInBounds_toArray, List.set_cons_zero, List.set_cons_succ]
            refine wpAnyY_take (i := 5) (v := ?_) rfl (by kernel_rfl) (by kernel_rfl) (by kernel_rfl) (by kernel_rfl) (fun _ _ _ h => h) (Or.inl ⟨by kernel_rfl, ?_⟩) hS ?_
            rotate_left
            · intro w' hSw; obtain ⟨⟨s0, s1⟩, ⟨u0, u1⟩⟩ := hSw; go_simp; with_reducible rfl
            try simp only [Act.put, List.getElem_toArray, List.getElem_cons_zero, List.getElem_cons_succ, List.setIfInBounds_toArray, List.set_cons_zero, List.set_cons_succ]
            refine wpAnyY_take (i := 6) (v := ?_) rfl (by kernel_rfl) (by kernel_rfl) (by kernel_rfl) (by kernel_rfl) (fun _ _ _ h => h) (Or.inl ⟨by kernel_rfl, ?_⟩) hS ?_
            rotate_left
            · intro w' hSw; go_simp; with_reducible rfl
            try simp only [Act.put, List.getElem_toArray, List.getElem_cons_zero, List.getElem_cons_succ, List.setIfInBounds_toArray, List.set_cons_zero, List.set_cons_succ]
            refine wpAnyY_take (i := 7) (v := ?_) rfl (by kernel_rfl) (by kernel_rfl) (by kernel_rfl) (by kernel_rfl) (fun _ _ _ h => h) (Or.inl ⟨by kernel_rfl, ?_⟩) hS ?_
            rotate_left
            · intro w' hSw; obtain ⟨⟨s0, s1⟩, ⟨u0, u1⟩⟩ := hSw; go_simp; with_reducible rfl
            try simp only [Act.put, List.getElem_toArray, List.getElem_cons_zero, List.getElem_cons_succ, List.setIfInBounds_toArray, List.set_cons_zero, List.set_cons_succ]
            refine wpAnyY_oneSW (i := 8) (by kernel_rfl) rfl (by kernel_rfl) (fun K8 hK8 => ?_)
            go_simp
            refine hK8.out _ _ (hSk _ (ga.a _)) (fun hS => ?_)
            try simp only [Act.put, List.getElem_toArray, List.getElem_cons_zero, List.getElem_cons_succ, List.setIfInBounds_toArray, List.set_cons_zero, List.set_cons_succ]
            have g5 : G wt (wt.alloc (.cells #[.int .i64 zbird] 3)).drew := ((G.rf wt).a _).d
            have hol := own_G HL.out g5
            have hv5 := HBV.out.keep g5
            have bx5 := bx.keep g5
            obtain ⟨i0, hi0, hz0, hz1, hz2⟩ := info_parts info3
            refine wpAnyY_oneSW (i := 9) (by kernel_rfl) rfl (by kernel_rfl) (fun K9 hK9 => ?_)
            refine wp_append_own _ _ _ 24 rfl Bl2 3 i0 (.int .i64 0) 1 8 Tryz.underlying24 hi0 hz0 hz1 hz2 rfl (by decide) _ q (iv (gs.getD m [])) rfl hol ⟨wt.heap.size, 0, none⟩ 1 1 [.int .i64 zbird] rfl rfl (cell_one_new _ _ _) (by simp [Value.oneCell']) (by unfold maxLen; omega) (by omega) ?hb ?hr
            case hb => exact Nat.le_trans HORD.out.top g5.size
            case hr =>
              intro vy wy howny hgy _
              obtain ⟨lb, lcc, rfl⟩ := own_slice howny
              have hvy := hv5.grown hgy (own_ne hol hv5 (by decide))
              have hx9 := bx5.grown hgy (own_ne hol bx5 (by decide))
              have S9 : (wy.cell? ⟨go, m, none⟩ = some (.slice la q lc) ∧ go < wy.heap.size) ∧ (wy.cell? ⟨gx, 0, none⟩ = some (.int .i64 zbird) ∧ gx < wy.heap.size) := ⟨⟨(hvy.cell m).trans ((HBV.out.cell m).symm.trans HCELL.out), hvy.lt⟩, ⟨hx9.cell 0, hx9.lt⟩⟩
              refine hK9.out _ _ S9 (fun hS => ?_)
              try simp only [Act.put, List.getElem_toArray, List.getElem_cons_zero, List.getElem_cons_succ, List.setIfInBounds_toArray, List.set_cons_zero, List.set_cons_succ]
              refine wpAnyY_take (i := 10) (v := ?_) rfl (by kernel_rfl) (by kernel_rfl) (by kernel_rfl) (by kernel_rfl) (fun _ _ _ h => h) (Or.inl ⟨by kernel_rfl, ?_⟩) hS ?_
              rotate_left
              · intro w' hSw; go_simp; with_reducible rfl
              try simp only [Act.put, List.getElem_toArray, List.getElem_cons_zero, List.getElem_cons_succ, List.setIfInBounds_toArray, List.set_cons_zero, List.set_cons_succ]
              have c6 := hvy.cell m
              have z6 := hvy.frozen m
              refine wpAnyY_oneW (i := 11) (by kernel_rfl) rfl (by kernel_rfl) (by kernel_rfl) (fun K11 hK11 => ?_)
              go_simp
              refine hK11.out _ _ ?_
              try simp only [Act.put, List.getElem_toArray, List.getElem_cons_zero, List.getElem_cons_succ, List.setIfInBounds_toArray, List.set_cons_zero, List.set_cons_succ]
              refine wpAnyY_done (by kernel_rfl) ?_ _
              have hput := (HORD.out.keepG g5).put (x := zbird) (n := m) (W' := wy) (u := .slice lb (q + 1) lcc) (go := go) HGM.out (by rw [← HQ.out, iv_snoc]; exact howny) (by rw [HLW.out]; exact hgy) rfl rfl
              have hgo3 : w3.heap.size ≤ go := own_base HORD.out.out rfl
              have hbl := HORD.out.bl
              have frz := ((HFR2.out.g g5).grown hgy (fun g e => .inr (Nat.le_trans hbl (own_base hol e)))).s (p := ⟨go, m, none⟩) (.inr hgo3) (.slice lb (q + 1) lcc)
              have hgxo : gx ≠ go := fun e => by
                subst e
                have := hx9.symm.trans hvy
                simp at this
              have bxz := hx9.far (p := ⟨go, m, none⟩) hgxo (.slice lb (q + 1) lcc)
              have b65 := HB62.out.keep g5
              have b6z := (b65.grown hgy (own_ne hol b65 (by decide))).far (p := ⟨go, m, none⟩) (show w.heap.size + 1 ≠ go by omega) (.slice lb (q + 1) lcc)
              have HPUT := Lib.hid hput.1
              have HFRZ := Lib.hid frz
              have HBXZ := Lib.hid bxz
              have HB6Z := Lib.hid b6z
              have gwz : G w (wy.setCell ⟨go, m, none⟩ (.slice lb (q + 1) lcc)) := ((G.fr (R := fun _ => False) g3).t2 frz (fun i hi h => by omega)).toG (fun _ _ h => h)
              clear hput frz bxz b6z b65 howny hgy hvy hx9 c6 z6 hol hv5 bx5 g5 S9 hS hSk ga hK8 hK9 hK11
              generalize wy.setCell ⟨go, m, none⟩ (.slice lb (q + 1) lcc) = wz at *
              go_upto_region 10 with fail
              refine wp_region_lit ?_
              refine wpList_load60 gx (.tmp 8) (REL := #[.int .i64 zbird, .int .i64 zowner, .int .i64 zrank, .int .i64 zday, .slice zpa zpools.length zpc]) ⟨_, _, _, _, _, _, _, rfl⟩ rfl rfl rfl HBXZ.out ?_
              try simp only [Act.put, List.getElem_toArray, List.getElem_cons_zero, List.getElem_cons_succ, List.setIfInBounds_toArray, List.set_cons_zero, List.set_cons_succ]
              refine wpList_store60 (w.heap.size + 1) (.tmp 6) (.tmp 48) (OLD := #[.int .i64 bb, .int .i64 bo, .int .i64 br, .int .i64 bd, .slice bpa bpl bpc]) (NEW := #[.int .i64 zbird, .int .i64 zowner, .int .i64 zrank, .int .i64 zday, .slice zpa zpools.length zpc]) ⟨_, _, _, _, _, _, _, rfl⟩ ⟨_, _, _, _, _, _, _, rfl⟩ rfl rfl rfl rfl HB6Z.out (fun W4 hb4 hF4 hG4 => ?_)
              try simp only [Act.put, List.getElem_toArray, List.getElem_cons_zero, List.getElem_cons_succ, List.setIfInBounds_toArray, List.set_cons_zero, List.set_cons_succ]
              have hw4 : G w W4 := hG4 w (by omega) gwz
              have hszz := HFRZ.out.size
              have FR4 := Lib.hid (Fr.away1 g3 HFRZ.out hw4 hF4 (by omega))
              have ORD4 := Lib.hid (HPUT.out.away hF4 (by omega) (size_away hF4 (by omega)))
              have HB4 := Lib.hid hb4
              clear hF4 hG4 hw4 hb4 gwz HBXZ HB6Z HPUT HFRZ
              go_wp2_with fail
              go_roundw
              case rel => exact ⟨k + 1, _, Bl2, zbird, zowner, zrank, zday, zpa, zpools.length, zpc, by omega, by go_num, by rw [HG2.out]; exact ORD4.out, HB4.out, HB1.out, FR4.out⟩
              case measure => simp [intOf] <;> omega
    · obtain rfl : k = TT.length := by omega
      have hki : ¬ ((TT.length : Nat) : Int) < TT.length := by omega
      have gz : G w wo := ((G.fr (R := fun _ => False) g3).t2 HFR.out (fun i hi h => by omega)).toG (fun _ _ h => h)
      obtain ⟨va, vc, rfl⟩ := own_slice HORD.out.out
      have HF := Lib.hid (HP.out wo _ cs Bl (HORD.out.weaken g3.size) gz)
      clear HP
      go_wp2_with fail
      first | exact HF.out | (go_ret; exact HF.out)
end Go.Proofs.YtnkmcoljijmgpaaGreat

set_option linter.unusedSimpArgs false
set_option linter.unusedVariables false
namespace Go.Proofs.YtnkmcoljijmgpaaGreat
open Go.RowKit Go.Shelf Go.Sort
attribute [local go_sem] Oper.semAt_some
theorem uniq_of {r : Ra} (h : racersB r = true) : r.racers.length ≤ 12 ∧ Uniq r.racers := by
  unfold racersB at h
  simp only [Bool.and_eq_true, decide_eq_true_eq] at h
  refine ⟨h.1, ?_⟩
  unfold Uniq
  rw [List.pairwise_iff_getElem]
  intro i j hi hj hij
  have h2 := allU_iff.1 h.2 j hj
  simp only [Bool.and_eq_true, Bool.not_eq_true'] at h2
  intro e
  have h3 : hasB (r.racers.take j) (r.racers.getD j default).bird = true := by
    unfold hasB
    refine anyU_yes (i := i) (by rw [List.length_take]; omega) ?_
    simp [List.getD_eq_getElem?_getD, List.getElem?_take_of_lt hij, hi, hj, e]
  rw [h3] at h2
  cases h2.1
theorem race_parts {r : Ra} (h : raceB r = true) : racersB r = true := by
  unfold raceB at h
  simp only [Bool.and_eq_true] at h
  exact h.2.2.1
/-- the error of a question about a pool and some birds -/
def qE (r : Ra) (p : Int) (bs : List Int) : Int := if raceB r = true then (if isInB p 0 ((r.pools.length : Int) - 1) = true then (if allU (fun i => hasB (runners r p) (bs.getD i 0)) bs.length = true then 0 else 1) else 1) else 80
def fuOf (r : Ra) (p : Int) (fa : Option Addr) (fc : Nat) : Fu := ⟨poolAt r p, fa, fc, runners r p, r.ta, r.tc, r.protests⟩
def fu0 : Array Value := #[.int .i64 0, .int .i64 0, .int .i64 0, .slice none 0 0, .int .i64 0, .bool false, .slice none 0 0, .slice none 0 0]
def QPost (r : Ra) (p : Int) (bs : List Int) (w : World) (e : Ending) (w' : World) : Prop := G w w' ∧ ((qE r p bs ≠ 0 ∧ e = .returned (.tuple #[.agg fu0, .int .i64 (qE r p bs)])) ∨ (qE r p bs = 0 ∧ ∃ fa fc, e = .returned (.tuple #[.agg (fuOf r p fa fc).v, .int .i64 0]) ∧ w'.ownsRow w.heap.size 60 5 (.slice fa (runners r p).length fc) (runners r p).length (rcV (runners r p))))
theorem has72 (l : List Rc) (a : Option Addr) (cap : Nat) (b : Int) (K : Nat) (fv : Array Value) (W : World) (hB : Blk W K 85 fv) (h6 : fv[6]? = some (.slice a l.length cap)) (h : RowE Rc.v 5 W a l) (hl : l.length ≤ 1000) : Calls Tryz.prog 72 #[.int .i64 b, .pointer (some ⟨K, 0, none⟩)] W fun e w' => e = .returned (.bool (hasB l b)) ∧ G W w' := by
  have HH := Lib.hid (has_any l a cap b W h hl)
  have m6 := (hB.cell 6).trans h6
  have lB := hB.lt
  clear h hB h6
  go_enter Tryz.func72, Tryz.ntmps72
  go_wp2_with (go_at_call 73; refine (HH.out).mono ?_; rintro e w1 ⟨rfl, hG1⟩)
  first | (go_ret; exact ⟨rfl, hG1⟩) | exact ⟨rfl, hG1⟩
set_option maxRecDepth 100000 in
set_option maxHeartbeats 4000000 in
theorem res46 (tmps : Array Value) (w : World) (g : Nat) (n : Int) {REL : Array Value} (hR : IsFu REL) (h : tmps.getD 6 undef = .pointer (some ⟨g, 0, none⟩)) (h7 : tmps.getD 7 undef = .int .i64 n) (hB : Blk w g 85 REL) :
    (results Tryz.f46 tmps).run Tryz.prog w = .ok (.tuple #[.agg REL, .int .i64 n]) w := by
  obtain ⟨x0, x1, x2, x3, xl, xc, x4, x5, x6, xm, xd, x7, xn, xe, rfl⟩ := hR
  have c0 := hB.cell 0
  have c1 := hB.cell 1
  have c2 := hB.cell 2
  have c3 := hB.cell 3
  have c4 := hB.cell 4
  have c5 := hB.cell 5
  have c6 := hB.cell 6
  have c7 := hB.cell 7
  clear hB
  have hr : Tryz.f46.results = #[.cell 6 85, .tmp 7] := rfl
  have h' : tmps[6]?.getD undef = .pointer (some ⟨g, 0, none⟩) := by simpa using h
  have h7' : tmps[7]?.getD undef = .int .i64 n := by simpa using h7
  simp only [results, hr]
  go_simp
end Go.Proofs.YtnkmcoljijmgpaaGreat

set_option linter.unusedSimpArgs false
set_option linter.unusedVariables false
namespace Go.Proofs.YtnkmcoljijmgpaaGreat
open Go.RowKit Go.Shelf Go.Sort
attribute [local go_sem] Oper.semAt_some
set_option maxRecDepth 100000 in
set_option maxHeartbeats 8000000 in
theorem question_any (r : Ra) (p : Int) (bs : List Int) (ba : Option Addr) (bc : Nat) (w : World) (h : r.At w) (hb : IntsAt w ba bs) (hl : bs.length ≤ 1000) : Calls Tryz.prog 46 #[.agg r.v, .int .i64 p, .slice ba bs.length bc] w (QPost r p bs w) := by
  have HC := Lib.hid (fun (W : World) (hW : G w W) => Check_any r W (h.keep hW))
  have HI := Lib.hid (fun (W : World) (hW : G w W) => isPool_any r p W h.np)
  have HO := Lib.hid (fun (W : World) (hW : G w W) (q : Nat) (hq : q < r.pools.length) (hr : raceB r = true) => open_any r q W (h.keep hW) hq (uniq_of (race_parts hr)).2 (uniq_of (race_parts hr)).1)
  have HE := Lib.hid (fun (W : World) (hW : G w W) (K : Nat) (fv : Array Value) (fa : Option Addr) (fc : Nat) (hK : Blk W K 85 fv) (h6 : fv[6]? = some (.slice fa (runners r p).length fc)) (hrow : RowE Rc.v 5 W fa (runners r p)) (hlr : (runners r p).length ≤ 1000) => eachInt_any 72 (enters_of Tryz.func72 (by kernel_rfl) rfl) #[.pointer (some ⟨K, 0, none⟩)] W ba bc bs (fun i => hasB (runners r p) (bs.getD i 0)) hl (hb.below hW) (fun W' hW' i hi => has72 (runners r p) fa fc _ K fv W' (hK.keep hW') h6 (hrow.below hW') hlr))
  have hz : ∀ (n : Int), qE r p bs = n → n ≠ 0 → ∀ W', G w W' → QPost r p bs w (.returned (.tuple #[.agg fu0, .int .i64 n])) W' := fun n e hn W' hG => ⟨hG, .inl ⟨by rw [e]; exact hn, by rw [e]⟩⟩
  have HZ := Lib.hid hz
  clear hz
  have HS : Hid (qE r p bs = 0 → ∀ W' fa fc, G w W' → W'.ownsRow w.heap.size 60 5 (.slice fa (runners r p).length fc) (runners r p).length (rcV (runners r p)) → QPost r p bs w (.returned (.tuple #[.agg (fuOf r p fa fc).v, .int .i64 0])) W') := fun e W' fa fc hG ho => ⟨hG, .inr ⟨e, fa, fc, rfl, ho⟩⟩
  have hlen : raceB r = true → (runners r p).length ≤ 12 := fun hr => by
    unfold runners
    rw [srt_len]
    exact Nat.le_trans (List.length_filter_le _ _) (uniq_of (race_parts hr)).1
  have HLN := Lib.hid hlen
  have hqe : qE r p bs = if raceB r = true then (if isInB p 0 ((r.pools.length : Int) - 1) = true then (if allU (fun i => hasB (runners r p) (bs.getD i 0)) bs.length = true then 0 else 1) else 1) else 80 := rfl
  have HFU : Hid (∀ fa fc, (fuOf r p fa fc) = ⟨poolAt r p, fa, fc, runners r p, r.ta, r.tc, r.protests⟩) := fun _ _ => rfl
  clear hlen h hb
  unfold chk8 at HC
  generalize qE r p bs = QE at *
  generalize QPost r p bs w = PP at *
  generalize allU (fun i => hasB (runners r p) (bs.getD i 0)) bs.length = AL at *
  obtain ⟨W1, hW1⟩ : ∃ W1, W1 = (w.alloc (.cells r.v 26)).alloc (.cells #[.int .i64 0, .int .i64 0, .int .i64 0, .slice none 0 0, .int .i64 0, .bool false, .slice none 0 0, .slice none 0 0] 85) := ⟨_, rfl⟩
  have g0 : G w W1 := by rw [hW1]; exact ((G.rf _).a _).a _
  have b0 : Blk W1 w.heap.size 26 r.v := by rw [hW1]; exact (Blk.new _ _ _).alloc _
  have b1 : Blk W1 (w.heap.size + 1) 85 #[.int .i64 0, .int .i64 0, .int .i64 0, .slice none 0 0, .int .i64 0, .bool false, .slice none 0 0, .slice none 0 0] := by rw [hW1]; exact Blk.new1 _ _ _ _
  have m0 : W1.cell? ⟨w.heap.size, 0, none⟩ = some (.slice r.ra r.racers.length r.rc) := b0.cell 0
  have m1 : W1.cell? ⟨w.heap.size, 1, none⟩ = some (.slice r.pa r.pools.length r.pc) := b0.cell 1
  have m2 : W1.cell? ⟨w.heap.size, 2, none⟩ = some (.slice r.ta r.protests.length r.tc) := b0.cell 2
  have l0 := b0.lt
  have hrv : r.v = #[.slice r.ra r.racers.length r.rc, .slice r.pa r.pools.length r.pc, .slice r.ta r.protests.length r.tc] := rfl
  rw [hrv] at HC HI HO b0 hW1 ⊢
  clear hrv
  cases hB : raceB r
  · rw [hB] at HC hqe
    have hq80 : QE = 80 := by simpa using hqe
    have HC2 := Lib.hid (HC.out W1 g0)
    simp only [Bool.false_eq_true, if_false] at HC2
    clear hqe hB HC
    go_enter Tryz.func46, Tryz.ntmps46
    go_upto_region 1 with fail
    change Code.wp _ _ _ _ ((w.alloc (.cells _ 26)).alloc (.cells #[.int .i64 0, .int .i64 0, .int .i64 0, .slice none 0 0, .int .i64 0, .bool false, .slice none 0 0, .slice none 0 0] 85))
    rw [← hW1]
    clear hW1
    go_upto_region 3 with (go_at_call 34; refine (HC2.out).mono ?_; rintro e w2 ⟨rfl, hG2⟩)
    have b12 := b1.keep hG2
    clear m0 m1 m2 l0
    refine wp_region_lit ?_
    refine wpList_plain rfl fun K hK => ?_
    go_simp
    refine hK _ _ ?_
    clear hK
    try simp only [Act.put, List.getElem_toArray, List.getElem_cons_zero, List.getElem_cons_succ, List.setIfInBounds_toArray, List.set_cons_zero, List.set_cons_succ]
    refine wpList_plain rfl fun K hK => ?_
    go_simp
    refine hK _ _ ?_
    clear hK
    try simp only [Act.put, List.getElem_toArray, List.getElem_cons_zero, List.getElem_cons_succ, List.setIfInBounds_toArray, List.set_cons_zero, List.set_cons_succ]
    refine wpList_store85 (w.heap.size + 1) (.tmp 6) (.tmp 14) (OLD := #[.int .i64 0, .int .i64 0, .int .i64 0, .slice none 0 0, .int .i64 0, .bool false, .slice none 0 0, .slice none 0 0]) (NEW := #[.int .i64 0, .int .i64 0, .int .i64 0, .slice none 0 0, .int .i64 0, .bool false, .slice none 0 0, .slice none 0 0]) ⟨_, _, _, _, _, _, _, _, _, _, _, _, _, _, rfl⟩ ⟨_, _, _, _, _, _, _, _, _, _, _, _, _, _, rfl⟩ rfl rfl rfl rfl b12 (fun W9 hb9 hF9 hG9 => ?_)
    try simp only [Act.put, List.getElem_toArray, List.getElem_cons_zero, List.getElem_cons_succ, List.setIfInBounds_toArray, List.set_cons_zero, List.set_cons_succ]
    have g9 : G w W9 := hG9 w (by omega) (g0.t hG2)
    have HF := Lib.hid (HZ.out 80 hq80 (by decide) W9 g9)
    clear hF9 hG9 g9
    go_wp2_with fail
    try simp only [Exit.inBlock, Exit.then]
    refine bodyPost_ret (res46 _ _ (w.heap.size + 1) 80 (REL := #[.int .i64 0, .int .i64 0, .int .i64 0, .slice none 0 0, .int .i64 0, .bool false, .slice none 0 0, .slice none 0 0]) ⟨_, _, _, _, _, _, _, _, _, _, _, _, _, _, rfl⟩ rfl rfl hb9) rfl ?_
    exact HF.out
  · rw [hB] at HC hqe
    have HC2 := Lib.hid (HC.out W1 g0)
    simp only [if_true] at HC2 hqe
    cases hI : isInB p 0 ((r.pools.length : Int) - 1)
    · rw [hI] at HI hqe
      have hq1 : QE = 1 := by simpa using hqe
      clear hqe hB hI HC HO HE HS HLN
      go_enter Tryz.func46, Tryz.ntmps46
      go_upto_region 1 with fail
      change Code.wp _ _ _ _ ((w.alloc (.cells _ 26)).alloc (.cells #[.int .i64 0, .int .i64 0, .int .i64 0, .slice none 0 0, .int .i64 0, .bool false, .slice none 0 0, .slice none 0 0] 85))
      rw [← hW1]
      clear hW1
      go_upto_region 5 with (first | (go_at_call 34; refine (HC2.out).mono ?_; rintro e w2 ⟨rfl, hG2⟩; clear m0 m1 m2 l0; have b02 := b0.keep hG2; have b12 := b1.keep hG2; have g2 := g0.t hG2; have m0 := b02.cell 0; have m1 := b02.cell 1; have m2 := b02.cell 2; have l0 := b02.lt) | (go_at_call 70; refine (HI.out _ g2).mono ?_; rintro e w3 ⟨rfl, hG3⟩))
      have b13 := b12.keep hG3
      clear m0 m1 m2 l0
      refine wp_region_lit ?_
      refine wpList_plain rfl fun K hK => ?_
      go_simp
      refine hK _ _ ?_
      clear hK
      try simp only [Act.put, List.getElem_toArray, List.getElem_cons_zero, List.getElem_cons_succ, List.setIfInBounds_toArray, List.set_cons_zero, List.set_cons_succ]
      refine wpList_store85 (w.heap.size + 1) (.tmp 6) (.tmp 20) (OLD := #[.int .i64 0, .int .i64 0, .int .i64 0, .slice none 0 0, .int .i64 0, .bool false, .slice none 0 0, .slice none 0 0]) (NEW := #[.int .i64 0, .int .i64 0, .int .i64 0, .slice none 0 0, .int .i64 0, .bool false, .slice none 0 0, .slice none 0 0]) ⟨_, _, _, _, _, _, _, _, _, _, _, _, _, _, rfl⟩ ⟨_, _, _, _, _, _, _, _, _, _, _, _, _, _, rfl⟩ rfl rfl rfl rfl b13 (fun W9 hb9 hF9 hG9 => ?_)
      try simp only [Act.put, List.getElem_toArray, List.getElem_cons_zero, List.getElem_cons_succ, List.setIfInBounds_toArray, List.set_cons_zero, List.set_cons_succ]
      have g9 : G w W9 := hG9 w (by omega) (g2.t hG3)
      have HF := Lib.hid (HZ.out 1 hq1 (by decide) W9 g9)
      clear hF9 hG9 g9
      go_wp2_with fail
      try simp only [Exit.inBlock, Exit.then]
      refine bodyPost_ret (res46 _ _ (w.heap.size + 1) 1 (REL := #[.int .i64 0, .int .i64 0, .int .i64 0, .slice none 0 0, .int .i64 0, .bool false, .slice none 0 0, .slice none 0 0]) ⟨_, _, _, _, _, _, _, _, _, _, _, _, _, _, rfl⟩ rfl rfl hb9) rfl ?_
      exact HF.out
    · have hp : 0 ≤ p ∧ p ≤ (r.pools.length : Int) - 1 := by
        unfold isInB at hI
        simpa using hI
      rw [hI] at HI hqe
      obtain ⟨pn, rfl⟩ : ∃ pn : Nat, p = (pn : Int) := ⟨p.toNat, by omega⟩
      simp only [if_true] at hqe
      obtain ⟨y, hy⟩ : ∃ y, y = poolAt r (pn : Int) := ⟨_, rfl⟩
      obtain ⟨ystake, ycut, ykind, yta, ytc, ytable, yquota, yfirst⟩ := y
      have hv : ∀ fa fc, Fu.v ⟨poolAt r (pn : Int), fa, fc, runners r pn, r.ta, r.tc, r.protests⟩ = #[.int .i64 ystake, .int .i64 ycut, .int .i64 ykind, .slice yta ytable.length ytc, .int .i64 yquota, .bool yfirst, .slice fa (runners r pn).length fc, .slice r.ta r.protests.length r.tc] := fun fa fc => by rw [← hy]; rfl
      have HO2 : Hid (∀ (W : World) (hW : G w W), Calls Tryz.prog 53 #[.agg #[.slice r.ra r.racers.length r.rc, .slice r.pa r.pools.length r.pc, .slice r.ta r.protests.length r.tc], .int .i64 (pn : Nat)] W fun e w' => ∃ fa fc, e = .returned (.agg #[.int .i64 ystake, .int .i64 ycut, .int .i64 ykind, .slice yta ytable.length ytc, .int .i64 yquota, .bool yfirst, .slice fa (runners r pn).length fc, .slice r.ta r.protests.length r.tc]) ∧ w'.ownsRow W.heap.size 60 5 (.slice fa (runners r pn).length fc) (runners r pn).length (rcV (runners r pn)) ∧ G W w') := fun W hW => by
        refine (HO.out W hW pn (by omega) hB).mono ?_
        rintro e w' ⟨fa, fc, rfl, a, b⟩
        exact ⟨fa, fc, by rw [hv], a, b⟩
      have HV := Lib.hid hv
      clear hv hy
      have hrl := HLN.out hB
      clear hB hI HC HO HLN hp
      cases AL
      · have hq1 : QE = 1 := by simpa using hqe
        clear hqe HS
        go_enter Tryz.func46, Tryz.ntmps46
        go_upto_region 1 with fail
        change Code.wp _ _ _ _ ((w.alloc (.cells _ 26)).alloc (.cells #[.int .i64 0, .int .i64 0, .int .i64 0, .slice none 0 0, .int .i64 0, .bool false, .slice none 0 0, .slice none 0 0] 85))
        rw [← hW1]
        clear hW1
        go_upto_region 7 with (first | (go_at_call 34; refine (HC2.out).mono ?_; rintro e w2 ⟨rfl, hG2⟩; clear m0 m1 m2 l0; have b02 := b0.keep hG2; have b12 := b1.keep hG2; have g2 := g0.t hG2; have m0 := b02.cell 0; have m1 := b02.cell 1; have m2 := b02.cell 2; have l0 := b02.lt) | (go_at_call 70; refine (HI.out _ g2).mono ?_; rintro e w3 ⟨rfl, hG3⟩; clear m0 m1 m2 l0; have b03 := b02.keep hG3; have b13 := b12.keep hG3; have g3 := g2.t hG3; have m0 := b03.cell 0; have m1 := b03.cell 1; have m2 := b03.cell 2; have l0 := b03.lt) | (go_at_call 53; refine (HO2.out _ g3).mono ?_; rintro e w4 ⟨fa, fc, rfl, ho4, hG4⟩))
        have b14 := b13.keep hG4
        have g4 := g3.t hG4
        have g4w := g3.size
        clear m0 m1 m2 l0
        have bk : Blk (w4.alloc (.cells #[.int .i64 ystake, .int .i64 ycut, .int .i64 ykind, .slice yta ytable.length ytc, .int .i64 yquota, .bool yfirst, .slice fa (runners r pn).length fc, .slice r.ta r.protests.length r.tc] 85)) w4.heap.size 85 #[.int .i64 ystake, .int .i64 ycut, .int .i64 ykind, .slice yta ytable.length ytc, .int .i64 yquota, .bool yfirst, .slice fa (runners r pn).length fc, .slice r.ta r.protests.length r.tc] := Blk.new _ _ _
        have g5 : G w (w4.alloc (.cells #[.int .i64 ystake, .int .i64 ycut, .int .i64 ykind, .slice yta ytable.length ytc, .int .i64 yquota, .bool yfirst, .slice fa (runners r pn).length fc, .slice r.ta r.protests.length r.tc] 85)) := g4.a _
        have b15 := b14.alloc (.cells #[.int .i64 ystake, .int .i64 ycut, .int .i64 ykind, .slice yta ytable.length ytc, .int .i64 yquota, .bool yfirst, .slice fa (runners r pn).length fc, .slice r.ta r.protests.length r.tc] 85)
        have ho5 := own_G ho4 ((G.rf w4).a (.cells #[.int .i64 ystake, .int .i64 ycut, .int .i64 ykind, .slice yta ytable.length ytc, .int .i64 yquota, .bool yfirst, .slice fa (runners r pn).length fc, .slice r.ta r.protests.length r.tc] 85))
        obtain ⟨a0, c0, hve, hrow⟩ := own_row ho5
        obtain ⟨rfl, rfl⟩ : fa = a0 ∧ fc = c0 := by simpa using hve
        have HEK := Lib.hid (HE.out _ g5 w4.heap.size _ fa fc bk rfl hrow (by omega))
        change Code.wp _ _ _ _ (w4.alloc (.cells #[.int .i64 ystake, .int .i64 ycut, .int .i64 ykind, .slice yta ytable.length ytc, .int .i64 yquota, .bool yfirst, .slice fa (runners r pn).length fc, .slice r.ta r.protests.length r.tc] 85))
        clear hve hrow ho4 b14 b13 b12 b1 HE
        generalize hw5 : w4.alloc (.cells #[.int .i64 ystake, .int .i64 ycut, .int .i64 ykind, .slice yta ytable.length ytc, .int .i64 yquota, .bool yfirst, .slice fa (runners r pn).length fc, .slice r.ta r.protests.length r.tc] 85) = w5 at *
        clear hw5
        go_upto_region 8 with (go_at_call 71; refine (HEK.out).mono ?_; rintro e w6 ⟨rfl, hG6⟩)
        have b16 := b15.keep hG6
        refine wp_region_lit ?_
        refine wpList_plain rfl fun K hK => ?_
        go_simp
        refine hK _ _ ?_
        clear hK
        try simp only [Act.put, List.getElem_toArray, List.getElem_cons_zero, List.getElem_cons_succ, List.setIfInBounds_toArray, List.set_cons_zero, List.set_cons_succ]
        refine wpList_store85 (w.heap.size + 1) (.tmp 6) (.tmp 28) (OLD := #[.int .i64 0, .int .i64 0, .int .i64 0, .slice none 0 0, .int .i64 0, .bool false, .slice none 0 0, .slice none 0 0]) (NEW := #[.int .i64 0, .int .i64 0, .int .i64 0, .slice none 0 0, .int .i64 0, .bool false, .slice none 0 0, .slice none 0 0]) ⟨_, _, _, _, _, _, _, _, _, _, _, _, _, _, rfl⟩ ⟨_, _, _, _, _, _, _, _, _, _, _, _, _, _, rfl⟩ rfl rfl rfl rfl b16 (fun W9 hb9 hF9 hG9 => ?_)
        try simp only [Act.put, List.getElem_toArray, List.getElem_cons_zero, List.getElem_cons_succ, List.setIfInBounds_toArray, List.set_cons_zero, List.set_cons_succ]
        have g9 : G w W9 := hG9 w (by omega) (g5.t hG6)
        have HF := Lib.hid (HZ.out 1 hq1 (by decide) W9 g9)
        clear hF9 hG9 g9
        go_wp2_with fail
        try simp only [Exit.inBlock, Exit.then]
        refine bodyPost_ret (res46 _ _ (w.heap.size + 1) 1 (REL := #[.int .i64 0, .int .i64 0, .int .i64 0, .slice none 0 0, .int .i64 0, .bool false, .slice none 0 0, .slice none 0 0]) ⟨_, _, _, _, _, _, _, _, _, _, _, _, _, _, rfl⟩ rfl rfl hb9) rfl ?_
        exact HF.out
      · have hq0 : QE = 0 := by simpa using hqe
        clear hqe HZ
        go_enter Tryz.func46, Tryz.ntmps46
        go_upto_region 1 with fail
        change Code.wp _ _ _ _ ((w.alloc (.cells _ 26)).alloc (.cells #[.int .i64 0, .int .i64 0, .int .i64 0, .slice none 0 0, .int .i64 0, .bool false, .slice none 0 0, .slice none 0 0] 85))
        rw [← hW1]
        clear hW1
        go_upto_region 7 with (first | (go_at_call 34; refine (HC2.out).mono ?_; rintro e w2 ⟨rfl, hG2⟩; clear m0 m1 m2 l0; have b02 := b0.keep hG2; have b12 := b1.keep hG2; have g2 := g0.t hG2; have m0 := b02.cell 0; have m1 := b02.cell 1; have m2 := b02.cell 2; have l0 := b02.lt) | (go_at_call 70; refine (HI.out _ g2).mono ?_; rintro e w3 ⟨rfl, hG3⟩; clear m0 m1 m2 l0; have b03 := b02.keep hG3; have b13 := b12.keep hG3; have g3 := g2.t hG3; have m0 := b03.cell 0; have m1 := b03.cell 1; have m2 := b03.cell 2; have l0 := b03.lt) | (go_at_call 53; refine (HO2.out _ g3).mono ?_; rintro e w4 ⟨fa, fc, rfl, ho4, hG4⟩))
        have b14 := b13.keep hG4
        have g4 := g3.t hG4
        have g4w := g3.size
        clear m0 m1 m2 l0
        have bk : Blk (w4.alloc (.cells #[.int .i64 ystake, .int .i64 ycut, .int .i64 ykind, .slice yta ytable.length ytc, .int .i64 yquota, .bool yfirst, .slice fa (runners r pn).length fc, .slice r.ta r.protests.length r.tc] 85)) w4.heap.size 85 #[.int .i64 ystake, .int .i64 ycut, .int .i64 ykind, .slice yta ytable.length ytc, .int .i64 yquota, .bool yfirst, .slice fa (runners r pn).length fc, .slice r.ta r.protests.length r.tc] := Blk.new _ _ _
        have g5 : G w (w4.alloc (.cells #[.int .i64 ystake, .int .i64 ycut, .int .i64 ykind, .slice yta ytable.length ytc, .int .i64 yquota, .bool yfirst, .slice fa (runners r pn).length fc, .slice r.ta r.protests.length r.tc] 85)) := g4.a _
        have b15 := b14.alloc (.cells #[.int .i64 ystake, .int .i64 ycut, .int .i64 ykind, .slice yta ytable.length ytc, .int .i64 yquota, .bool yfirst, .slice fa (runners r pn).length fc, .slice r.ta r.protests.length r.tc] 85)
        have ho5 := own_G ho4 ((G.rf w4).a (.cells #[.int .i64 ystake, .int .i64 ycut, .int .i64 ykind, .slice yta ytable.length ytc, .int .i64 yquota, .bool yfirst, .slice fa (runners r pn).length fc, .slice r.ta r.protests.length r.tc] 85))
        obtain ⟨a0, c0, hve, hrow⟩ := own_row ho5
        obtain ⟨rfl, rfl⟩ : fa = a0 ∧ fc = c0 := by simpa using hve
        have HEK := Lib.hid (HE.out _ g5 w4.heap.size _ fa fc bk rfl hrow (by omega))
        change Code.wp _ _ _ _ (w4.alloc (.cells #[.int .i64 ystake, .int .i64 ycut, .int .i64 ykind, .slice yta ytable.length ytc, .int .i64 yquota, .bool yfirst, .slice fa (runners r pn).length fc, .slice r.ta r.protests.length r.tc] 85))
        clear hve hrow ho4 b14 b13 b12 b1 HE
        generalize hw5 : w4.alloc (.cells #[.int .i64 ystake, .int .i64 ycut, .int .i64 ykind, .slice yta ytable.length ytc, .int .i64 yquota, .bool yfirst, .slice fa (runners r pn).length fc, .slice r.ta r.protests.length r.tc] 85) = w5 at *
        clear hw5
        go_upto_region 9 with (go_at_call 71; refine (HEK.out).mono ?_; rintro e w6 ⟨rfl, hG6⟩)
        have b16 := b15.keep hG6
        have bk6 := bk.keep hG6
        have ho6 := own_G ho5 hG6
        refine wp_region_lit ?_
        refine wpList_load85 w4.heap.size (.tmp 9) (REL := #[.int .i64 ystake, .int .i64 ycut, .int .i64 ykind, .slice yta ytable.length ytc, .int .i64 yquota, .bool yfirst, .slice fa (runners r pn).length fc, .slice r.ta r.protests.length r.tc]) ⟨_, _, _, _, _, _, _, _, _, _, _, _, _, _, rfl⟩ rfl rfl rfl bk6 ?_
        try simp only [Act.put, List.getElem_toArray, List.getElem_cons_zero, List.getElem_cons_succ, List.setIfInBounds_toArray, List.set_cons_zero, List.set_cons_succ]
        refine wpList_store85 (w.heap.size + 1) (.tmp 6) (.tmp 29) (OLD := #[.int .i64 0, .int .i64 0, .int .i64 0, .slice none 0 0, .int .i64 0, .bool false, .slice none 0 0, .slice none 0 0]) (NEW := #[.int .i64 ystake, .int .i64 ycut, .int .i64 ykind, .slice yta ytable.length ytc, .int .i64 yquota, .bool yfirst, .slice fa (runners r pn).length fc, .slice r.ta r.protests.length r.tc]) ⟨_, _, _, _, _, _, _, _, _, _, _, _, _, _, rfl⟩ ⟨_, _, _, _, _, _, _, _, _, _, _, _, _, _, rfl⟩ rfl rfl rfl rfl b16 (fun W9 hb9 hF9 hG9 => ?_)
        try simp only [Act.put, List.getElem_toArray, List.getElem_cons_zero, List.getElem_cons_succ, List.setIfInBounds_toArray, List.set_cons_zero, List.set_cons_succ]
        have g9 : G w W9 := hG9 w (by omega) (g5.t hG6)
        have ho9 := own_away ho6 hF9 (own_ne ho6 b16 (by decide))
        have HF := Lib.hid (HS.out hq0 W9 fa fc g9 (own_weaken ho9 g4w))
        rw [HFU.out, HV.out] at HF
        clear hF9 hG9 g9 ho9 ho6
        go_wp2_with fail
        try simp only [Exit.inBlock, Exit.then]
        refine bodyPost_ret (res46 _ _ (w.heap.size + 1) 0 (REL := #[.int .i64 ystake, .int .i64 ycut, .int .i64 ykind, .slice yta ytable.length ytc, .int .i64 yquota, .bool yfirst, .slice fa (runners r pn).length fc, .slice r.ta r.protests.length r.tc]) ⟨_, _, _, _, _, _, _, _, _, _, _, _, _, _, rfl⟩ rfl rfl hb9) rfl ?_
        exact HF.out
end Go.Proofs.YtnkmcoljijmgpaaGreat

set_option linter.unusedSimpArgs false
set_option linter.unusedVariables false
namespace Go.Proofs.YtnkmcoljijmgpaaGreat
open Go.RowKit Go.Shelf Go.Sort
attribute [local go_sem] Oper.semAt_some
theorem runners_sorted (r : Ra) (p : Int) : (runners r p).Pairwise fun x y => x.bird ≤ y.bird := srt_pw _
theorem runners_uniq {r : Ra} (h : raceB r = true) (p : Int) : Uniq (runners r p) := by
  have hu := uniq_filter (uniq_of (race_parts h)).2 (fun x => inL x.pools p)
  unfold Uniq at hu ⊢
  unfold runners
  exact ((srt_perm _).pairwise_iff (fun h e => h e.symm)).2 hu
theorem runners_le {r : Ra} (h : raceB r = true) (p : Int) : (runners r p).length ≤ 12 := by
  unfold runners
  rw [srt_len]
  exact Nat.le_trans (List.length_filter_le _ _) (uniq_of (race_parts h)).1
theorem pool_of {r : Ra} (h : raceB r = true) {p : Int} (hp : isInB p 0 ((r.pools.length : Int) - 1) = true) : p.toNat < r.pools.length ∧ poolB (poolAt r p) = true := by
  unfold isInB at hp
  simp only [Bool.and_eq_true, decide_eq_true_eq] at hp
  have hlt : p.toNat < r.pools.length := by omega
  unfold raceB at h
  simp only [Bool.and_eq_true] at h
  exact ⟨hlt, allU_iff.1 h.2.1 p.toNat hlt⟩
theorem fu_bounds {r : Ra} (h : raceB r = true) {p : Int} (hp : isInB p 0 ((r.pools.length : Int) - 1) = true) (fa : Option Addr) (fc : Nat) : FuB (fuOf r p fa fc) := by
  obtain ⟨_, hb⟩ := pool_of h hp
  unfold poolB isInB at hb
  simp only [Bool.and_eq_true, decide_eq_true_eq] at hb
  exact ⟨⟨hb.1.1, hb.1.2⟩, ⟨hb.2.1.1, hb.2.1.2⟩, runners_le h p⟩
theorem qE_parts {r : Ra} {p : Int} {bs : List Int} (h : qE r p bs = 0) : raceB r = true ∧ isInB p 0 ((r.pools.length : Int) - 1) = true := by
  unfold qE at h
  by_cases h1 : raceB r = true
  · rw [if_pos h1] at h
    by_cases h2 : isInB p 0 ((r.pools.length : Int) - 1) = true
    · exact ⟨h1, h2⟩
    · rw [if_neg h2] at h; cases h
  · rw [if_neg h1] at h; cases h
def PlPost (r : Ra) (p : Int) (w : World) (e : Ending) (w' : World) : Prop := G w w' ∧ ((qE r p [] ≠ 0 ∧ e = .returned (.tuple #[.slice none 0 0, .int .i64 (qE r p [])])) ∨ (qE r p [] = 0 ∧ ∃ v, e = .returned (.tuple #[v, .int .i64 0]) ∧ w'.ownsRow w.heap.size 3 1 v (placesL (fuOf r p none 0)).length (iv (placesL (fuOf r p none 0)))))
def OrPost8 (r : Ra) (p : Int) (w : World) (e : Ending) (w' : World) : Prop := G w w' ∧ ((qE r p [] ≠ 0 ∧ e = .returned (.tuple #[.slice none 0 0, .int .i64 (qE r p [])])) ∨ (qE r p [] = 0 ∧ ∃ v cs Bl, e = .returned (.tuple #[v, .int .i64 0]) ∧ OrdAt w' w.heap.size v (orderL (fuOf r p none 0) []) cs Bl))
set_option maxRecDepth 100000 in
set_option maxHeartbeats 4000000 in
theorem Places_any (r : Ra) (p : Int) (w : World) (h : r.At w) : Calls Tryz.prog 22 #[.agg r.v, .int .i64 p] w (PlPost r p w) := by
  have HQ := Lib.hid (fun (W : World) (hW : G w W) => question_any r p [] none 0 W (h.keep hW) (.inl rfl) (by simp))
  have HE : Hid (qE r p [] ≠ 0 → ∀ W', G w W' → PlPost r p w (.returned (.tuple #[.slice none 0 0, .int .i64 (qE r p [])])) W') := fun a W' b => ⟨b, .inl ⟨a, rfl⟩⟩
  have HS : Hid (qE r p [] = 0 → ∀ W' v, G w W' → W'.ownsRow w.heap.size 3 1 v (placesL (fuOf r p none 0)).length (iv (placesL (fuOf r p none 0))) → PlPost r p w (.returned (.tuple #[v, .int .i64 0])) W') := fun a W' v b c => ⟨b, .inr ⟨a, v, rfl, c⟩⟩
  have HC := Lib.hid (fun (hq : qE r p [] = 0) (W : World) (hW : G w W) (fa : Option Addr) (fc : Nat) => places_any (fuOf r p fa fc) W (fu_bounds (qE_parts hq).1 (qE_parts hq).2 fa fc) (pool_of (qE_parts hq).1 (qE_parts hq).2).2 ((h.keep hW).ps.tables _ (pool_of (qE_parts hq).1 (qE_parts hq).2).1))
  have HPL : Hid (∀ fa fc, placesL (fuOf r p fa fc) = placesL (fuOf r p none 0)) := fun _ _ => rfl
  unfold QPost at HQ
  have hv : ∀ fa fc, (fuOf r p fa fc).v = #[.int .i64 (poolAt r p).stake, .int .i64 (poolAt r p).cut, .int .i64 (poolAt r p).kind, .slice (poolAt r p).ta (poolAt r p).table.length (poolAt r p).tc, .int .i64 (poolAt r p).quota, .bool (poolAt r p).first, .slice fa (runners r p).length fc, .slice r.ta r.protests.length r.tc] := fun _ _ => rfl
  generalize PlPost r p w = PP at *
  clear h
  have g0 : G w (w.alloc (.cells r.v 26)) := (G.rf _).a _
  have b0 : Blk (w.alloc (.cells r.v 26)) w.heap.size 26 r.v := Blk.new _ _ _
  have m0 : (w.alloc (.cells r.v 26)).cell? ⟨w.heap.size, 0, none⟩ = some (.slice r.ra r.racers.length r.rc) := b0.cell 0
  have m1 : (w.alloc (.cells r.v 26)).cell? ⟨w.heap.size, 1, none⟩ = some (.slice r.pa r.pools.length r.pc) := b0.cell 1
  have m2 : (w.alloc (.cells r.v 26)).cell? ⟨w.heap.size, 2, none⟩ = some (.slice r.ta r.protests.length r.tc) := b0.cell 2
  have l0 := b0.lt
  have hrv : r.v = #[.slice r.ra r.racers.length r.rc, .slice r.pa r.pools.length r.pc, .slice r.ta r.protests.length r.tc] := rfl
  rw [hrv] at HQ g0 m0 m1 m2 l0 ⊢
  clear hrv b0
  generalize hQE : qE r p [] = QE at *
  go_enter Tryz.func22, Tryz.ntmps22
  go_upto_region 1 with fail
  change Code.wp _ _ _ _ (w.alloc (.cells #[.slice r.ra r.racers.length r.rc, .slice r.pa r.pools.length r.pc, .slice r.ta r.protests.length r.tc] 26))
  generalize w.alloc (.cells #[.slice r.ra r.racers.length r.rc, .slice r.pa r.pools.length r.pc, .slice r.ta r.protests.length r.tc] 26) = W1 at *
  by_cases hq : QE = 0
  · have HQ1 : Hid (Calls Tryz.prog 46 #[.agg #[.slice r.ra r.racers.length r.rc, .slice r.pa r.pools.length r.pc, .slice r.ta r.protests.length r.tc], .int .i64 p, .slice none 0 0] W1 fun e w' => ∃ fa fc, e = .returned (.tuple #[.agg (fuOf r p fa fc).v, .int .i64 0]) ∧ w'.ownsRow W1.heap.size 60 5 (.slice fa (runners r p).length fc) (runners r p).length (rcV (runners r p)) ∧ G W1 w') := by
      refine (HQ.out W1 g0).mono ?_
      rintro e w' ⟨hG, hh⟩
      rcases hh with ⟨a, _⟩ | ⟨_, fa, fc, a, b⟩
      · exact absurd hq a
      · exact ⟨fa, fc, a, b, hG⟩
    simp only [hv] at HQ1
    clear HQ HE
    have HC2 := Lib.hid (HC.out hq)
    clear HC
    simp only [hv] at HC2
    go_wp2_with (first | (go_at_call 46; refine (HQ1.out).mono ?_; rintro e w2 ⟨fa, fc, rfl, ho2, hG2⟩) | (go_at_call 59; refine (HC2.out _ ((g0.t hG2).a _) fa fc).mono ?_; rintro e w3 ⟨v, rfl, ho3, hG3⟩))
    have gz := ((g0.t hG2).a _).t hG3
    rw [HPL.out] at ho3
    exact HS.out hq _ _ gz (own_weaken ho3 ((g0.t hG2).a _).size)
  · have HQ0 : Hid (Calls Tryz.prog 46 #[.agg #[.slice r.ra r.racers.length r.rc, .slice r.pa r.pools.length r.pc, .slice r.ta r.protests.length r.tc], .int .i64 p, .slice none 0 0] W1 fun e w' => e = .returned (.tuple #[.agg #[.int .i64 0, .int .i64 0, .int .i64 0, .slice none 0 0, .int .i64 0, .bool false, .slice none 0 0, .slice none 0 0], .int .i64 QE]) ∧ G W1 w') := by
      refine (HQ.out W1 g0).mono ?_
      rintro e w' ⟨hG, hh⟩
      rcases hh with ⟨_, a⟩ | ⟨a, _⟩
      · exact ⟨a, hG⟩
      · exact absurd a hq
    have e0 : (QE == 0) = false := by simpa using hq
    have HE2 := Lib.hid (HE.out hq)
    clear HQ HE HC HS hv
    go_wp2_with (go_at_call 46; refine (HQ0.out).mono ?_; rintro e w2 ⟨rfl, hG2⟩)
    first | exact HE2.out _ (g0.t hG2) | exact HE2.out _ ((g0.t hG2).a _) | trace_state
set_option maxRecDepth 100000 in
set_option maxHeartbeats 4000000 in
theorem Order_any (r : Ra) (p : Int) (w : World) (h : r.At w) : Calls Tryz.prog 21 #[.agg r.v, .int .i64 p] w (OrPost8 r p w) := by
  have HQ := Lib.hid (fun (W : World) (hW : G w W) => question_any r p [] none 0 W (h.keep hW) (.inl rfl) (by simp))
  have HE : Hid (qE r p [] ≠ 0 → ∀ W', G w W' → OrPost8 r p w (.returned (.tuple #[.slice none 0 0, .int .i64 (qE r p [])])) W') := fun a W' b => ⟨b, .inl ⟨a, rfl⟩⟩
  have HS : Hid (qE r p [] = 0 → ∀ W' v cs Bl, G w W' → OrdAt W' w.heap.size v (orderL (fuOf r p none 0) []) cs Bl → OrPost8 r p w (.returned (.tuple #[v, .int .i64 0])) W') := fun a W' v cs Bl b c => ⟨b, .inr ⟨a, v, cs, Bl, rfl, c⟩⟩
  have HC := Lib.hid (fun (hq : qE r p [] = 0) (W : World) (hW : G w W) (fa : Option Addr) (fc : Nat) (hrow : RowE Rc.v 5 W fa (runners r p)) (hn : fa ≠ none ∨ runners r p = []) => order_any (fuOf r p fa fc) [] none 0 W hrow hn (.inl rfl) (by simp) (runners_le (qE_parts hq).1 p) (runners_uniq (qE_parts hq).1 p) (runners_sorted r p))
  have HPL : Hid (∀ fa fc, orderL (fuOf r p fa fc) [] = orderL (fuOf r p none 0) []) := fun _ _ => rfl
  unfold QPost at HQ
  have hv : ∀ fa fc, (fuOf r p fa fc).v = #[.int .i64 (poolAt r p).stake, .int .i64 (poolAt r p).cut, .int .i64 (poolAt r p).kind, .slice (poolAt r p).ta (poolAt r p).table.length (poolAt r p).tc, .int .i64 (poolAt r p).quota, .bool (poolAt r p).first, .slice fa (runners r p).length fc, .slice r.ta r.protests.length r.tc] := fun _ _ => rfl
  generalize OrPost8 r p w = PP at *
  clear h
  have g0 : G w (w.alloc (.cells r.v 26)) := (G.rf _).a _
  have b0 : Blk (w.alloc (.cells r.v 26)) w.heap.size 26 r.v := Blk.new _ _ _
  have m0 : (w.alloc (.cells r.v 26)).cell? ⟨w.heap.size, 0, none⟩ = some (.slice r.ra r.racers.length r.rc) := b0.cell 0
  have m1 : (w.alloc (.cells r.v 26)).cell? ⟨w.heap.size, 1, none⟩ = some (.slice r.pa r.pools.length r.pc) := b0.cell 1
  have m2 : (w.alloc (.cells r.v 26)).cell? ⟨w.heap.size, 2, none⟩ = some (.slice r.ta r.protests.length r.tc) := b0.cell 2
  have l0 := b0.lt
  have hrv : r.v = #[.slice r.ra r.racers.length r.rc, .slice r.pa r.pools.length r.pc, .slice r.ta r.protests.length r.tc] := rfl
  rw [hrv] at HQ g0 m0 m1 m2 l0 ⊢
  clear hrv b0
  generalize hQE : qE r p [] = QE at *
  go_enter Tryz.func21, Tryz.ntmps21
  go_upto_region 1 with fail
  change Code.wp _ _ _ _ (w.alloc (.cells #[.slice r.ra r.racers.length r.rc, .slice r.pa r.pools.length r.pc, .slice r.ta r.protests.length r.tc] 26))
  generalize w.alloc (.cells #[.slice r.ra r.racers.length r.rc, .slice r.pa r.pools.length r.pc, .slice r.ta r.protests.length r.tc] 26) = W1 at *
  by_cases hq : QE = 0
  · have HQ1 : Hid (Calls Tryz.prog 46 #[.agg #[.slice r.ra r.racers.length r.rc, .slice r.pa r.pools.length r.pc, .slice r.ta r.protests.length r.tc], .int .i64 p, .slice none 0 0] W1 fun e w' => ∃ fa fc, e = .returned (.tuple #[.agg (fuOf r p fa fc).v, .int .i64 0]) ∧ w'.ownsRow W1.heap.size 60 5 (.slice fa (runners r p).length fc) (runners r p).length (rcV (runners r p)) ∧ G W1 w') := by
      refine (HQ.out W1 g0).mono ?_
      rintro e w' ⟨hG, hh⟩
      rcases hh with ⟨a, _⟩ | ⟨_, fa, fc, a, b⟩
      · exact absurd hq a
      · exact ⟨fa, fc, a, b, hG⟩
    simp only [hv] at HQ1
    clear HQ HE
    have HC2 := Lib.hid (HC.out hq)
    clear HC
    simp only [hv] at HC2
    go_upto_region 2 with (go_at_call 46; refine (HQ1.out).mono ?_; rintro e w2 ⟨fa, fc, rfl, ho2, hG2⟩)
    have hn : fa ≠ none ∨ runners r p = [] := by
      rcases ho2.2 with ⟨_, h0⟩ | ⟨g, cap, cur, he, _⟩
      · exact .inr (List.length_eq_zero_iff.1 h0)
      · exact .inl (fun e => by rw [e] at he; cases he)
    obtain ⟨a0, c0, hve, hrow⟩ := own_row ho2
    obtain ⟨rfl, rfl⟩ : fa = a0 ∧ fc = c0 := by simpa using hve
    have ga := (G.rf w2).a (.cells #[.int .i64 (poolAt r p).stake, .int .i64 (poolAt r p).cut, .int .i64 (poolAt r p).kind, .slice (poolAt r p).ta (poolAt r p).table.length (poolAt r p).tc, .int .i64 (poolAt r p).quota, .bool (poolAt r p).first, .slice fa (runners r p).length fc, .slice r.ta r.protests.length r.tc] 85)
    have HC3 := Lib.hid (HC2.out _ ((g0.t hG2).t ga) fa fc (hrow.below ga) hn)
    clear hve hrow hn ho2 HC2
    go_wp2_with (go_at_call 58; refine (HC3.out).mono ?_; rintro e w3 ⟨v, cs, Bl, rfl, ho3, hG3⟩)
    have gz := ((g0.t hG2).t ga).t hG3
    rw [HPL.out] at ho3
    exact HS.out hq _ _ cs Bl gz (ho3.weaken ((g0.t hG2).t ga).size)
  · have HQ0 : Hid (Calls Tryz.prog 46 #[.agg #[.slice r.ra r.racers.length r.rc, .slice r.pa r.pools.length r.pc, .slice r.ta r.protests.length r.tc], .int .i64 p, .slice none 0 0] W1 fun e w' => e = .returned (.tuple #[.agg #[.int .i64 0, .int .i64 0, .int .i64 0, .slice none 0 0, .int .i64 0, .bool false, .slice none 0 0, .slice none 0 0], .int .i64 QE]) ∧ G W1 w') := by
      refine (HQ.out W1 g0).mono ?_
      rintro e w' ⟨hG, hh⟩
      rcases hh with ⟨_, a⟩ | ⟨a, _⟩
      · exact ⟨a, hG⟩
      · exact absurd a hq
    have e0 : (QE == 0) = false := by simpa using hq
    have HE2 := Lib.hid (HE.out hq)
    clear HQ HE HC HS hv
    go_wp2_with (go_at_call 46; refine (HQ0.out).mono ?_; rintro e w2 ⟨rfl, hG2⟩)
    first | exact HE2.out _ (g0.t hG2) | exact HE2.out _ ((g0.t hG2).a _) | trace_state
end Go.Proofs.YtnkmcoljijmgpaaGreat

set_option linter.unusedSimpArgs false
set_option linter.unusedVariables false
namespace Go.Proofs.YtnkmcoljijmgpaaGreat
open Go.RowKit Go.Shelf Go.Maps
attribute [local go_sem] Oper.semAt_some
theorem law3 : Keyed Tryz.prog 3 := int_keyed Tryz.underlying3
theorem wfI {x : Int} (h : -1000000000000 ≤ x ∧ x ≤ 1000000000000) : (Lit.int .i64 x).wf = true := by
  have e1 : IntKind.i64.min = -9223372036854775808 := by decide
  have e2 : IntKind.i64.max = 9223372036854775807 := by decide
  simp [Lit.wf, e1, e2]
  omega
/-- the sum of the values -/
def valI (d : DataW Unit) : Int := match d with | .lit (.int _ c) => c | _ => 0
def sumE (es : List (Lit × DataW Unit)) : Int := (es.map fun p => valI p.2).sum
def sumD (D : DataW Unit) : Int := match D with | .map es => sumE es | _ => 0
theorem sumE_insert (p : Lit × DataW Unit) : ∀ es : List (Lit × DataW Unit), sumE (DataW.insert p es) = sumE es + valI p.2
  | [] => by simp [DataW.insert, sumE]
  | q :: es => by
    have ih := sumE_insert p es
    unfold DataW.insert
    unfold sumE at *
    split <;> simp_all <;> omega
theorem sumD_put {D : DataW Unit} {k : Lit} {c : Int} (hD : IsMap D) (hn : has D k = false) : sumD (D.put k (.lit (.int .i64 c))) = sumD D + c := by
  obtain ⟨es, rfl⟩ := hD
  rw [has_eq, List.any_eq_false] at hn
  show sumE (DataW.insert (k, _) (es.filter fun p => !p.1.sameKey k)) = sumE es + c
  have e : (es.filter fun p => !p.1.sameKey k) = es := List.filter_eq_self.2 (fun p hp => by have := hn p hp; simpa using this)
  rw [e, sumE_insert]
  rfl
/-- block m is a map that holds these pairs of numbers, no two of one key -/
def Won (W : World) (m : Nat) (ps : List (Int × Int)) : Prop := ∃ D : DataW Unit, W.ownsMap Tryz.prog 3 (plainElem Tryz.prog 3) m ps.length D ∧ (∀ x : Int, has D (.int .i64 x) = ps.any fun p => p.1 == x) ∧ (∀ q, q ∈ ps → ∀ z, D.atKey (.int .i64 q.1) z = .lit (.int .i64 q.2)) ∧ sumD D = (ps.map Prod.snd).sum
theorem Won.made (W : World) : Won (W.alloc (.map #[] 0)) W.heap.size [] := ⟨_, World.ownsMap_made _ _ _ _, fun x => rfl, fun q h => by simp at h, rfl⟩
theorem Won.keep {W W' : World} {m : Nat} {ps : List (Int × Int)} (h : Won W m ps) (hG : G W W') : Won W' m ps := by
  obtain ⟨D, h1, h2⟩ := h
  refine ⟨D, ?_, h2⟩
  obtain ⟨es, clock, hb, F, hs, e⟩ := h1
  exact ⟨es, clock, (hG.block m (Array.getElem?_eq_some_iff.1 hb).1).trans hb, F, hs, e⟩
theorem Won.store {W : World} {m : Nat} {ps : List (Int × Int)} (h : Won W m ps) {x c : Int} (hx : -1000000000000 ≤ x ∧ x ≤ 1000000000000) (hc : -1000000000000 ≤ c ∧ c ≤ 1000000000000) (hn : ps.length < maxLen) (hf : (ps.any fun p => p.1 == x) = false) :
    ∃ W', (Instr.mapUpdate 90 (.map (some m)) (.int .i64 x) (.int .i64 c)).run Tryz.prog W = .ok () W' ∧ Won W' m (ps ++ [(x, c)]) ∧ W.grownBy W' (some m) := by
  obtain ⟨D, h1, h2, h3, h4⟩ := h
  have hk := keyOf_int_mk (P := Tryz.prog) (k := 3) Tryz.underlying3 (wfI hx)
  obtain ⟨W', hrun, hown, hg⟩ := h1.update law3 Tryz.underlying90 hn hk (plainElem_int Tryz.underlying3 (wfI hc))
  have hkl : WideAt.IsKeyLit (.int .i64 x) := law3.key hk
  have hno : has D (.int .i64 x) = false := by rw [h2]; exact hf
  have hinj : ∀ y : Int, y ≠ x → (Lit.int .i64 y) ≠ .int .i64 x := fun y hy e => hy (by injection e)
  refine ⟨W', hrun, ⟨_, by rw [List.length_append]; exact hown, fun y => ?_, fun q hq z => ?_, ?_⟩, hg⟩
  · rw [List.any_append]
    by_cases e : y = x
    · subst e
      rw [has_put_same h1.isMap hkl]
      simp
    · rw [has_put_other (hinj y e), h2]
      simp [Ne.symm e]
  · rw [List.mem_append, List.mem_singleton] at hq
    rcases hq with hq | rfl
    · have hne : q.1 ≠ x := fun e => by
        rw [List.any_eq_false] at hf
        exact hf q hq (by simp [e])
      rw [atKey_put_other (hinj _ hne)]
      exact h3 q hq z
    · exact atKey_put_same h1.isMap hkl _ _
  · rw [sumD_put h1.isMap hno, h4]
    simp
theorem Won.look {W : World} {m : Nat} {ps : List (Int × Int)} (h : Won W m ps) {x : Int} (hx : -1000000000000 ≤ x ∧ x ≤ 1000000000000) (hz : (zeroValue 3).run Tryz.prog W = .ok (.int .i64 0) W) :
    ∃ c, (Instr.lookup 90 (.map (some m)) (.int .i64 x) false).run Tryz.prog W = .ok (.int .i64 c) W ∧ (∀ q, q ∈ ps → q.1 = x → c = q.2) ∧ ((ps.any fun p => p.1 == x) = false → c = 0) := by
  obtain ⟨D, h1, h2, h3, h4⟩ := h
  have hk := keyOf_int_mk (P := Tryz.prog) (k := 3) Tryz.underlying3 (wfI hx)
  obtain ⟨c, hrun, hat, _⟩ := h1.lookup_int law3 Tryz.underlying90 Tryz.underlying3 hz hk
  refine ⟨c, hrun, fun q hq e => ?_, fun hf => ?_⟩
  · have := h3 q hq (.lit (.int .i64 0))
    rw [e, hat] at this
    simp only [DataW.lit.injEq, Lit.int.injEq, true_and] at this
    exact this
  · have hno : has D (.int .i64 x) = false := by rw [h2]; exact hf
    rw [atKey_of_not_has hno] at hat
    simp only [DataW.lit.injEq, Lit.int.injEq, true_and] at hat
    exact hat.symm
end Go.Proofs.YtnkmcoljijmgpaaGreat

set_option linter.unusedSimpArgs false
set_option linter.unusedVariables false
namespace Go.Proofs.YtnkmcoljijmgpaaGreat
open Go.RowKit Go.Shelf Go.Sort
attribute [local go_sem] Oper.semAt_some
theorem addLast_app (gs : List (List Int)) (g : List Int) (b : Int) : addLast (gs ++ [g]) b = gs ++ [g ++ [b]] := by
  unfold addLast
  rw [List.length_append, List.length_singleton, Nat.add_sub_cancel, getD_last rfl, List.set_append_right _ _ (Nat.le_refl _), Nat.sub_self]
  rfl
theorem addLast_flat {gs : List (List Int)} (h : gs ≠ []) (b : Int) : (addLast gs b).flatten = gs.flatten ++ [b] := by
  obtain ⟨g0, g, rfl⟩ : ∃ g0 g, gs = g0 ++ [g] := ⟨gs.dropLast, gs.getLast h, (List.dropLast_concat_getLast h).symm⟩
  rw [addLast_app]
  simp
/-- the groups are the birds in their order, and none is empty -/
theorem grpTo_flat (l : List Rc) (hd : ∀ i, i < l.length → (l.getD i default).day ≠ 0) : ∀ k, k ≤ l.length → (grpTo l k).flatten = (l.take k).map Rc.bird ∧ ∀ g ∈ grpTo l k, g ≠ []
  | 0, _ => by simp [grpTo]
  | k + 1, hk => by
    obtain ⟨ih1, ih2⟩ := grpTo_flat l hd k (by omega)
    have ht : (l.take (k + 1)).map Rc.bird = (l.take k).map Rc.bird ++ [(l.getD k default).bird] := by
      rw [List.take_add_one, List.map_append, List.getElem?_eq_getElem (by omega)]
      simp [List.getD_eq_getElem?_getD, show k < l.length by omega]
    rw [ht]
    unfold grpTo
    by_cases hs : sameB l k = true
    · rw [if_pos hs]
      have hpos : 0 < (grpTo l k).length := by
        have h1 := grpTo_pos l hd (k + 1) (by omega) hk
        unfold grpTo at h1
        rw [if_pos hs, addLast_len] at h1
        exact h1
      have hne : grpTo l k ≠ [] := fun e => by rw [e] at hpos; simp at hpos
      refine ⟨by rw [addLast_flat hne, ih1], ?_⟩
      obtain ⟨g0, g, he⟩ : ∃ g0 g, grpTo l k = g0 ++ [g] := ⟨_, _, (List.dropLast_concat_getLast hne).symm⟩
      rw [he, addLast_app]
      rw [he] at ih2
      intro x hx
      rcases List.mem_append.1 hx with h | h
      · exact ih2 x (List.mem_append_left _ h)
      · rw [List.mem_singleton.1 h]; simp
    · rw [if_neg hs, addLast_app]
      refine ⟨by rw [List.flatten_append, ih1]; simp, fun x hx => ?_⟩
      rcases List.mem_append.1 hx with h | h
      · exact ih2 x h
      · rw [List.mem_singleton.1 h]; simp
/-- what a group wins of the places that are left: bird and amount -/
def gWon (q : List Int) (g : List Int) : List (Int × Int) := (List.range g.length).map fun i => (g.getD i 0, shareI (q.take (min g.length q.length)).sum g.length i)
/-- behind the first j groups: the places that are left, and what was won -/
def wst (pl : List Int) (gs : List (List Int)) : Nat → List Int × List (Int × Int)
  | 0 => (pl, [])
  | j + 1 => ((wst pl gs j).1.drop (min (gs.getD j []).length (wst pl gs j).1.length), (wst pl gs j).2 ++ gWon (wst pl gs j).1 (gs.getD j []))
def wonL (f : Fu) (st : List Int) : List (Int × Int) := (wst (placesL f) (orderL f st) (orderL f st).length).2
theorem gWon_keys (q g : List Int) : (gWon q g).map Prod.fst = g := by
  unfold gWon
  rw [List.map_map]
  apply List.ext_getElem?
  intro i
  by_cases h : i < g.length
  · simp [h, List.getD_eq_getElem?_getD]
  · simp [h]
theorem wst_keys (pl : List Int) (gs : List (List Int)) : ∀ j, j ≤ gs.length → (wst pl gs j).2.map Prod.fst = (gs.take j).flatten
  | 0, _ => by simp [wst]
  | j + 1, hj => by
    have ih := wst_keys pl gs j (by omega)
    show ((wst pl gs j).2 ++ gWon (wst pl gs j).1 (gs.getD j [])).map Prod.fst = _
    rw [List.map_append, ih, gWon_keys, List.take_add_one, List.flatten_append, List.getElem?_eq_getElem (by omega)]
    simp [List.getD_eq_getElem?_getD, show j < gs.length by omega]
theorem wst_sub (pl : List Int) (gs : List (List Int)) : ∀ j, ∃ k, (wst pl gs j).1 = pl.drop k
  | 0 => ⟨0, by simp [wst]⟩
  | j + 1 => by
    obtain ⟨k, hk⟩ := wst_sub pl gs j
    refine ⟨k + min (gs.getD j []).length (wst pl gs j).1.length, ?_⟩
    show (wst pl gs j).1.drop _ = _
    rw [← List.drop_drop, ← hk]
end Go.Proofs.YtnkmcoljijmgpaaGreat

set_option linter.unusedSimpArgs false
set_option linter.unusedVariables false
namespace Go.Proofs.YtnkmcoljijmgpaaGreat
open Go.RowKit Go.Shelf Go.Sort
attribute [local go_sem] Oper.semAt_some
theorem Won.ne {W : World} {m : Nat} {ps : List (Int × Int)} (h : Won W m ps) {g : Nat} {t : TypeId} {cs : Array Value} (hb : Blk W g t cs) : g ≠ m := fun e => by
  subst e
  obtain ⟨D, h1, _⟩ := h
  obtain ⟨es, clock, hm, _⟩ := h1
  rw [show W.heap[g]? = _ from hb] at hm
  cases hm
theorem Won.ne_cell {W : World} {m : Nat} {ps : List (Int × Int)} (h : Won W m ps) {g o : Nat} {v : Value} (hb : W.cell? ⟨g, o, none⟩ = some v) : g ≠ m := fun e => by
  subst e
  obtain ⟨D, h1, _⟩ := h
  obtain ⟨es, clock, hm, _⟩ := h1
  simp [World.cell?, hm] at hb
theorem ints_fr {A B : World} {m : Nat} {ps : List (Int × Int)} (hw : Won A m ps) (hf : Fr (fun i => i = m) A B) {a : Option Addr} {l : List Int} (h : IntsAt A a l) : IntsAt B a l := by
  rcases h with h | ⟨b, off, h1, h2, h3⟩
  · exact .inl h
  · refine .inr ⟨b, off, h1, Nat.lt_of_lt_of_le h2 hf.size, fun k hk => ?_⟩
    have e := hf.block b h2 (hw.ne_cell (h3 k hk))
    have e3 := h3 k hk
    simp only [World.cell?] at e3 ⊢
    rw [e]
    exact e3
theorem ints_take {W : World} {a : Option Addr} {l : List Int} (h : IntsAt W a l) (t : Nat) : IntsAt W a (l.take t) := by
  rcases h with rfl | ⟨b, off, h1, h2, h3⟩
  · exact .inl (by simp)
  · refine .inr ⟨b, off, h1, h2, fun k hk => ?_⟩
    rw [List.length_take] at hk
    rw [h3 k (by omega)]
    simp [List.getD_eq_getElem?_getD, List.getElem?_take_of_lt (show k < t by omega)]
theorem ints_drop {W : World} {b off : Nat} {l : List Int} (h : IntsAt W (some ⟨b, off, none⟩) l) (t : Nat) : IntsAt W (some ⟨b, off + t, none⟩) (l.drop t) := by
  rcases h with rfl | ⟨b', off', h1, h2, h3⟩
  · exact .inl (by simp)
  · simp only [Option.some.injEq, Addr.mk.injEq, and_true] at h1
    obtain ⟨rfl, rfl⟩ := h1
    refine .inr ⟨_, _, rfl, h2, fun k hk => ?_⟩
    rw [List.length_drop] at hk
    rw [Nat.add_assoc, h3 (t + k) (by omega)]
    simp [List.getD_eq_getElem?_getD]
/-- the bounds that the sums need, and the rings -/
structure WonOk (PL : List Int) (GS : List (List Int)) : Prop where
  pl : PL.length ≤ 1000
  sums : ∀ k t, 0 ≤ ((PL.drop k).take t).sum ∧ ((PL.drop k).take t).sum ≤ 1000000000
  gl : GS.length ≤ 12
  gne : ∀ g ∈ GS, g ≠ [] ∧ g.length ≤ 12
  keys : GS.flatten.Pairwise fun a b => a ≠ b
  kb : ∀ b ∈ GS.flatten, 0 ≤ b ∧ b ≤ 9999
def PaOk (pa : Option Addr) (n pc : Nat) : Prop := (pa = none ∧ n = 0 ∧ pc = 0) ∨ ∃ b off, pa = some ⟨b, off, none⟩
theorem gWon_len (q g : List Int) : (gWon q g).length = g.length := by simp [gWon]
theorem gWon_get (q g : List Int) {i : Nat} (h : i < g.length) : (gWon q g).getD i (0, 0) = (g.getD i 0, shareI (q.take (min g.length q.length)).sum g.length i) := by
  unfold gWon
  simp [List.getD_eq_getElem?_getD, h]
theorem gWon_take (q g : List Int) {i : Nat} (h : i < g.length) : (gWon q g).take (i + 1) = (gWon q g).take i ++ [(g.getD i 0, shareI (q.take (min g.length q.length)).sum g.length i)] := by
  have hl : i < (gWon q g).length := by rw [gWon_len]; exact h
  rw [List.take_add_one, List.getElem?_eq_getElem hl, ← gWon_get q g h]
  simp [List.getD_eq_getElem?_getD, hl]
theorem fresh {GS : List (List Int)} (hk : GS.flatten.Pairwise fun a b => a ≠ b) {j i : Nat} (hj : j < GS.length) (hi : i < (GS.getD j []).length) (PL : List Int) :
    ((wst PL GS j).2 ++ (gWon (wst PL GS j).1 (GS.getD j [])).take i).any (fun p => p.1 == (GS.getD j []).getD i 0) = false := by
  have hgj : GS.getD j [] = GS[j] := by simp [List.getD_eq_getElem?_getD, hj]
  have e : GS.flatten = (GS.take j).flatten ++ (GS.getD j [] ++ (GS.drop (j + 1)).flatten) := by
    conv => lhs; rw [← List.take_append_drop j GS]
    rw [List.flatten_append, List.drop_eq_getElem_cons hj, List.flatten_cons, hgj]
  rw [e] at hk
  have hwk := wst_keys PL GS j (by omega)
  clear e hgj
  generalize GS.getD j [] = gr at *
  generalize (GS.drop (j + 1)).flatten = R at *
  generalize (GS.take j).flatten = L at *
  generalize (wst PL GS j).2 = acc at *
  generalize (wst PL GS j).1 = q at *
  rw [List.pairwise_append] at hk
  obtain ⟨_, h2, h3⟩ := hk
  rw [List.pairwise_append] at h2
  have hgi : gr.getD i 0 = gr[i] := by simp [List.getD_eq_getElem?_getD, hi]
  have hmem : gr.getD i 0 ∈ gr := by rw [hgi]; exact List.getElem_mem _
  rw [List.any_eq_false]
  intro p hp
  rw [List.mem_append] at hp
  have hne : p.1 ≠ gr.getD i 0 := by
    rcases hp with hp | hp
    · have h5 : p.1 ∈ L := by
        rw [← hwk]
        exact List.mem_map.2 ⟨p, hp, rfl⟩
      exact h3 _ h5 _ (List.mem_append_left _ hmem)
    · obtain ⟨t, ht, rfl⟩ := List.mem_iff_getElem.1 hp
      rw [List.length_take, gWon_len] at ht
      have htl : t < gr.length := by omega
      have hgt : gr.getD t 0 = gr[t] := by simp [List.getD_eq_getElem?_getD, htl]
      have e2 := gWon_get q gr htl
      rw [List.getElem_take]
      have e3 : (gWon q gr)[t]'(by rw [gWon_len]; omega) = (gWon q gr).getD t (0, 0) := by
        rw [List.getD_eq_getElem?_getD, List.getElem?_eq_getElem (by rw [gWon_len]; omega)]
        rfl
      rw [e3, e2]
      have h6 := List.pairwise_iff_getElem.1 h2.1 t i htl hi (by omega)
      rw [hgi]
      show gr.getD t 0 ≠ gr[i]
      rw [hgt]
      exact h6
  simpa using hne
def WonPost (w : World) (ps : List (Int × Int)) (e : Ending) (w' : World) : Prop := ∃ m, e = .returned (.map (some m)) ∧ Won w' m ps ∧ w.heap.size ≤ m ∧ G w w'
end Go.Proofs.YtnkmcoljijmgpaaGreat

set_option linter.unusedSimpArgs false
set_option linter.unusedVariables false
namespace Go.Proofs.YtnkmcoljijmgpaaGreat
open Go.RowKit Go.Shelf Go.Sort
attribute [local go_sem] Oper.semAt_some
theorem takers_mem {f : Fu} {st : List Int} {x : Rc} : x ∈ takersL f st ↔ x ∈ f.rs ∧ skipB f.po.first st x = false := by
  unfold takersL
  rw [(tks_perm _).mem_iff, List.mem_filter]
  simp
theorem takers_day {f : Fu} {st : List Int} {x : Rc} (h : x ∈ takersL f st) : x.day ≠ 0 := by
  have := (takers_mem.1 h).2
  unfold skipB at this
  intro e
  rw [e] at this
  simp at this
theorem takers_dayD (f : Fu) (st : List Int) : ∀ i, i < (takersL f st).length → ((takersL f st).getD i default).day ≠ 0 := fun i hi => by
  rw [List.getD_eq_getElem?_getD, List.getElem?_eq_getElem hi]
  exact takers_day (List.getElem_mem hi)
theorem orderL_flat (f : Fu) (st : List Int) : (orderL f st).flatten = (takersL f st).map Rc.bird := by
  have := (grpTo_flat (takersL f st) (takers_dayD f st) _ (Nat.le_refl _)).1
  rwa [List.take_length] at this
theorem orderL_ne (f : Fu) (st : List Int) : ∀ g ∈ orderL f st, g ≠ [] := (grpTo_flat (takersL f st) (takers_dayD f st) _ (Nat.le_refl _)).2
theorem takers_len (f : Fu) (st : List Int) : (takersL f st).length ≤ f.rs.length := by
  unfold takersL
  rw [tks_len]
  exact List.length_filter_le _ _
theorem takers_uniq {f : Fu} (hu : Uniq f.rs) (st : List Int) : Uniq (takersL f st) := by
  unfold takersL Uniq
  exact (tks_perm _).symm.pairwise (hu.sublist List.filter_sublist) (fun h e => h e.symm)
theorem sumBd {l : List Int} {M : Int} (h : ∀ x ∈ l, 0 ≤ x ∧ x ≤ M) : 0 ≤ l.sum ∧ l.sum ≤ M * l.length := by
  induction l with
  | nil => simp
  | cons a l ih =>
    have h1 := h a (List.mem_cons_self ..)
    have h2 := ih (fun x hx => h x (List.mem_cons_of_mem _ hx))
    rw [List.sum_cons, List.length_cons]
    have e : M * ((l.length + 1 : Nat) : Int) = M * l.length + M := by rw [Int.natCast_add, Int.mul_add]; simp
    rw [e]
    omega
theorem left_bd {f : Fu} (h : FuB f) : 0 ≤ lefI f ∧ lefI f ≤ 1200000 := by
  have a := h.tot
  have b := h.kep
  unfold lefI
  omega
theorem kind_table {x : Po} (h : poolB x = true) : ∀ n ∈ x.table, 0 ≤ n ∧ n ≤ 1000 := by
  unfold poolB kindB at h
  simp only [Bool.and_eq_true] at h
  obtain ⟨_, _, h⟩ := h
  intro n hn
  split at h
  · simp only [Bool.and_eq_true] at h
    have h1 := h.1
    unfold tableB at h1
    simp only [Bool.and_eq_true] at h1
    have h2 := allU_iff.1 h1.2.1
    obtain ⟨i, hi, rfl⟩ := List.mem_iff_getElem.1 hn
    have h3 := h2 i hi
    rw [List.getD_eq_getElem?_getD, List.getElem?_eq_getElem hi] at h3
    unfold isInB at h3
    simpa using h3
  · have : x.table = [] := by
      split at h
      · simp only [Bool.and_eq_true, decide_eq_true_eq] at h; exact List.length_eq_zero_iff.1 h.1
      · split at h
        · simp only [Bool.and_eq_true, decide_eq_true_eq] at h; exact List.length_eq_zero_iff.1 h.1
        · simp at h
    rw [this] at hn
    simp at hn
theorem kind_tlen {x : Po} (h : poolB x = true) : x.table.length ≤ 8 := by
  unfold poolB kindB at h
  simp only [Bool.and_eq_true] at h
  obtain ⟨_, _, h⟩ := h
  split at h
  · simp only [Bool.and_eq_true] at h
    have h1 := h.1
    unfold tableB at h1
    simp only [Bool.and_eq_true] at h1
    have h2 := h1.1
    unfold isInB at h2
    simp at h2
    omega
  · split at h
    · simp only [Bool.and_eq_true, decide_eq_true_eq] at h; omega
    · split at h
      · simp only [Bool.and_eq_true, decide_eq_true_eq] at h; omega
      · simp at h
theorem kind_quota {x : Po} (h : poolB x = true) (hk : x.kind = 2) : 1 ≤ x.quota ∧ x.quota ≤ 20 := by
  unfold poolB kindB at h
  simp only [Bool.and_eq_true] at h
  obtain ⟨_, _, h⟩ := h
  rw [if_neg (by omega), if_pos hk] at h
  simp only [Bool.and_eq_true] at h
  have := h.2
  unfold isInB at this
  simpa using this
theorem nPl_bd {f : Fu} (hF : FuB f) (hp : poolB f.po = true) (hk : f.po.kind = 2) : 0 ≤ nPl f ∧ nPl f ≤ 12 ∧ nPl f ≤ f.rs.length := by
  have hq := kind_quota hp hk
  have hm := hF.many
  unfold nPl
  have h0 : 0 ≤ ((f.rs.length : Int) + f.po.quota - 1) / f.po.quota := Int.ediv_nonneg (by omega) (by omega)
  have h1 : ((f.rs.length : Int) + f.po.quota - 1) / f.po.quota ≤ f.rs.length := by
    have : ((f.rs.length : Int) + f.po.quota - 1) / f.po.quota < f.rs.length + 1 := by
      apply Int.ediv_lt_of_lt_mul (by omega)
      have : ((f.rs.length : Int)) ≤ f.rs.length * f.po.quota := by
        have := Int.mul_le_mul_of_nonneg_left hq.1 (show (0 : Int) ≤ f.rs.length by omega)
        omega
      rw [Int.add_mul]
      omega
    omega
  omega
theorem places_bd {f : Fu} (hF : FuB f) (hp : poolB f.po = true) : (placesL f).length ≤ 12 ∧ ∀ x ∈ placesL f, 0 ≤ x ∧ x ≤ 1200000 := by
  have hl := left_bd hF
  unfold placesL
  split
  · refine ⟨by rw [List.length_map]; have := kind_tlen hp; omega, fun x hx => ?_⟩
    obtain ⟨n, hn, rfl⟩ := List.mem_map.1 hx
    have h1 := kind_table hp n hn
    have h2 : 0 ≤ lefI f * n := Int.mul_nonneg hl.1 h1.1
    have h3 : lefI f * n ≤ lefI f * 1000 := Int.mul_le_mul_of_nonneg_left h1.2 hl.1
    omega
  · split
    · rename_i h2
      have h3 := nPl_bd hF hp h2
      refine ⟨by rw [List.length_replicate]; omega, fun x hx => ?_⟩
      have e := List.eq_of_mem_replicate hx
      have h4 : 0 ≤ lefI f / nPl f := Int.ediv_nonneg hl.1 h3.1
      have h5 : lefI f / nPl f ≤ lefI f := Int.ediv_le_self _ hl.1
      omega
    · split
      · refine ⟨by simp, fun x hx => ?_⟩
        have e := List.mem_singleton.1 hx
        omega
      · exact ⟨by simp, fun x hx => by simp at hx⟩
theorem wonOk_any {f : Fu} (hF : FuB f) (hp : poolB f.po = true) (hu : Uniq f.rs) (hb : ∀ x ∈ f.rs, 0 ≤ x.bird ∧ x.bird ≤ 9999) (st : List Int) : WonOk (placesL f) (orderL f st) where
  pl := by have := (places_bd hF hp).1; omega
  sums k t := by
    have h := places_bd hF hp
    have h1 := sumBd (l := ((placesL f).drop k).take t) (M := 1200000) (fun x hx => h.2 x (List.mem_of_mem_drop (List.mem_of_mem_take hx)))
    have h2 : (((placesL f).drop k).take t).length ≤ 12 := by
      rw [List.length_take, List.length_drop]
      have := h.1
      omega
    omega
  gl := by
    have h1 := grpTo_le (takersL f st) (takersL f st).length
    have h2 := takers_len f st
    have h3 := hF.many
    unfold orderL
    omega
  gne g hg := by
    refine ⟨orderL_ne f st g hg, ?_⟩
    obtain ⟨i, hi, rfl⟩ := List.mem_iff_getElem.1 hg
    have h1 := grpTo_row (takersL f st) (takersL f st).length i
    have h2 := takers_len f st
    have h3 := hF.many
    have e : (grpTo (takersL f st) (takersL f st).length).getD i [] = (orderL f st)[i] := by
      show (orderL f st).getD i [] = _
      rw [List.getD_eq_getElem?_getD, List.getElem?_eq_getElem hi]
      rfl
    rw [e] at h1
    omega
  keys := by
    rw [orderL_flat, List.pairwise_map]
    exact takers_uniq hu st
  kb b hb' := by
    rw [orderL_flat] at hb'
    obtain ⟨x, hx, rfl⟩ := List.mem_map.1 hb'
    exact hb x (takers_mem.1 hx).1
theorem wst_len {PL : List Int} {GS : List (List Int)} (h : WonOk PL GS) : ∀ j, (wst PL GS j).2.length ≤ 12 * j
  | 0 => by simp [wst]
  | j + 1 => by
    have ih := wst_len h j
    show ((wst PL GS j).2 ++ gWon (wst PL GS j).1 (GS.getD j [])).length ≤ _
    rw [List.length_append, gWon_len]
    have : (GS.getD j []).length ≤ 12 := by
      rw [List.getD_eq_getElem?_getD]
      by_cases hj : j < GS.length
      · rw [List.getElem?_eq_getElem hj]
        exact (h.gne _ (List.getElem_mem hj)).2
      · rw [List.getElem?_eq_none (by omega)]
        simp
    omega
end Go.Proofs.YtnkmcoljijmgpaaGreat

set_option linter.unusedSimpArgs false
set_option linter.unusedVariables false
namespace Go.Proofs.YtnkmcoljijmgpaaGreat
open Go.RowKit Go.Shelf Go.Sort
attribute [local go_sem] Oper.semAt_some
def paF (pa : Option Addr) (t pc : Nat) : Option Addr := match pa with | none => none | some ⟨b, o, f⟩ => if t < pc then some ⟨b, o + t, f⟩ else some ⟨b, o, f⟩
theorem slHi (pa : Option Addr) (n cap t : Nat) (ht : t ≤ n) (hc : n ≤ cap) (hp : PaOk pa n cap) (W : World) : (Instr.sliceAt 24 (.slice pa n cap) none (some (.int .i64 t)) none).run Tryz.prog W = .ok (.slice pa t cap) W := by
  rcases hp with ⟨rfl, rfl, rfl⟩ | ⟨b, o, rfl⟩
  · obtain rfl : t = 0 := by omega
    go_simp
  · have h2 : (t : Int) ≤ cap := by omega
    have h3 : t ≤ cap := by omega
    go_simp
theorem slLo (pa : Option Addr) (n cap t : Nat) (ht : t ≤ n) (hc : n ≤ cap) (hp : PaOk pa n cap) (W : World) : (Instr.sliceAt 24 (.slice pa n cap) (some (.int .i64 t)) none none).run Tryz.prog W = .ok (.slice (paF pa t cap) (n - t) (cap - t)) W := by
  rcases hp with ⟨rfl, rfl, rfl⟩ | ⟨b, o, rfl⟩
  · obtain rfl : t = 0 := by omega
    go_simp
    rfl
  · have h2 : (t : Int) ≤ n := by omega
    dsimp only [paF]
    by_cases h : t < cap
    · rw [if_pos h]
      have h4 : (t : Int) < cap := by omega
      go_simp
      intro h; omega
    · rw [if_neg h]
      have h4 : ¬ (t : Int) < cap := by omega
      go_simp
      intro h; omega
theorem slHi2 (pa : Option Addr) (n cap t : Nat) (ht : t ≤ n) (hc : n ≤ cap) (hp : PaOk pa n cap) (W : World) : (Instr.slice 24 (.slice pa n cap) none (some (.int .i64 t)) none).run Tryz.prog W = .ok (.slice pa t cap) W := by
  rcases hp with ⟨rfl, rfl, rfl⟩ | ⟨b, o, rfl⟩
  · obtain rfl : t = 0 := by omega
    go_simp
  · have h2 : (t : Int) ≤ cap := by omega
    have h3 : t ≤ cap := by omega
    go_simp
theorem slLo2 (pa : Option Addr) (n cap t : Nat) (ht : t ≤ n) (hc : n ≤ cap) (hp : PaOk pa n cap) (W : World) : (Instr.slice 24 (.slice pa n cap) (some (.int .i64 t)) none none).run Tryz.prog W = .ok (.slice (paF pa t cap) (n - t) (cap - t)) W := by
  rcases hp with ⟨rfl, rfl, rfl⟩ | ⟨b, o, rfl⟩
  · obtain rfl : t = 0 := by omega
    go_simp
    rfl
  · have h2 : (t : Int) ≤ n := by omega
    dsimp only [paF]
    by_cases h : t < cap
    · rw [if_pos h]
      have h4 : (t : Int) < cap := by omega
      go_simp
      intro h; omega
    · rw [if_neg h]
      have h4 : ¬ (t : Int) < cap := by omega
      go_simp
      intro h; omega
theorem pa_ints {W : World} {pa : Option Addr} {pc : Nat} {q : List Int} (hp : PaOk pa q.length pc) (hc : q.length ≤ pc) (h : IntsAt W pa q) (t : Nat) : IntsAt W (paF pa t pc) (q.drop t) := by
  rcases hp with ⟨rfl, h0, rfl⟩ | ⟨b, o, rfl⟩
  · exact .inl (by rw [List.length_eq_zero_iff.1 h0]; simp)
  · dsimp only [paF]
    by_cases h1 : t < pc
    · rw [if_pos h1]
      exact ints_drop h t
    · exact .inl (List.drop_eq_nil_of_le (by omega))
theorem pa_ok {pa : Option Addr} {pc n : Nat} (hp : PaOk pa n pc) (t : Nat) (ht : t ≤ n) : PaOk (paF pa t pc) (n - t) (pc - t) := by
  rcases hp with ⟨rfl, rfl, rfl⟩ | ⟨b, o, rfl⟩
  · exact .inl ⟨rfl, by omega, by omega⟩
  · dsimp only [paF]
    by_cases h1 : t < pc
    · rw [if_pos h1]; exact .inr ⟨_, _, rfl⟩
    · rw [if_neg h1]; exact .inr ⟨_, _, rfl⟩
end Go.Proofs.YtnkmcoljijmgpaaGreat

set_option linter.unusedSimpArgs false
set_option linter.unusedVariables false
namespace Go.Proofs.YtnkmcoljijmgpaaGreat
open Go.RowKit Go.Shelf Go.Sort
attribute [local go_sem] Oper.semAt_some
set_option maxRecDepth 100000 in
set_option maxHeartbeats 8000000 in
theorem won_any (f : Fu) (st : List Int) (sa : Option Addr) (sc : Nat) (w : World) (hrow : RowE Rc.v 5 w f.fa f.rs) (hn : f.fa ≠ none ∨ f.rs = []) (hi : IntsAt w sa st) (hl : st.length ≤ 1000) (h12 : f.rs.length ≤ 12) (hu : Uniq f.rs) (hs : f.rs.Pairwise fun x y => x.bird ≤ y.bird)
    (hF : FuB f) (hp : poolB f.po = true) (ht : IntsAt w f.po.ta f.po.table) (hok : WonOk (placesL f) (orderL f st)) :
    Calls Tryz.prog 51 #[.agg f.v, .slice sa st.length sc] w (WonPost w (wonL f st)) := by
  have HO := Lib.hid (fun (W : World) (hW : G w W) => order_any f st sa sc W (hrow.below hW) hn (hi.below hW) hl h12 hu hs)
  have HPL := Lib.hid (fun (W : World) (hW : G w W) => places_any f W hF hp (ht.below hW))
  have HP : Hid (∀ w' m, Won w' m (wst (placesL f) (orderL f st) (orderL f st).length).2 → w.heap.size ≤ m → G w w' → WonPost w (wonL f st) (.returned (.map (some m))) w') := fun w' m a b c => ⟨m, rfl, a, b, c⟩
  generalize WonPost w (wonL f st) = PP at *
  generalize placesL f = PL at *
  generalize orderL f st = GS at *
  clear hrow hn hi hu hs hF hp ht
  obtain ⟨⟨ystake, ycut, ykind, yta, ytc, ytable, yquota, yfirst⟩, fa, fc, rs, pa, pc, ps⟩ := f
  unfold Fu.v at *
  dsimp only at *
  have g0 : G w (w.alloc (.cells #[.int .i64 ystake, .int .i64 ycut, .int .i64 ykind, .slice yta ytable.length ytc, .int .i64 yquota, .bool yfirst, .slice fa rs.length fc, .slice pa ps.length pc] 85)) := (G.rf _).a _
  have b0 : Blk (w.alloc (.cells #[.int .i64 ystake, .int .i64 ycut, .int .i64 ykind, .slice yta ytable.length ytc, .int .i64 yquota, .bool yfirst, .slice fa rs.length fc, .slice pa ps.length pc] 85)) w.heap.size 85 #[.int .i64 ystake, .int .i64 ycut, .int .i64 ykind, .slice yta ytable.length ytc, .int .i64 yquota, .bool yfirst, .slice fa rs.length fc, .slice pa ps.length pc] := Blk.new _ _ _
  go_enter Tryz.func51, Tryz.ntmps51
  go_upto_region 1 with fail
  change Code.wp _ _ _ _ (w.alloc (.cells #[.int .i64 ystake, .int .i64 ycut, .int .i64 ykind, .slice yta ytable.length ytc, .int .i64 yquota, .bool yfirst, .slice fa rs.length fc, .slice pa ps.length pc] 85))
  generalize w.alloc (.cells #[.int .i64 ystake, .int .i64 ycut, .int .i64 ykind, .slice yta ytable.length ytc, .int .i64 yquota, .bool yfirst, .slice fa rs.length fc, .slice pa ps.length pc] 85) = W1 at *
  have hmm := @run_makeMap Tryz.prog
  go_upto_region 2 with fail
  clear hmm
  have hs1 := (G.rf W1).a (.map #[] 0)
  have hw2 := Won.made W1
  have b2 := b0.alloc (.map #[] 0)
  have g2 : G w (W1.alloc (.map #[] 0)) := g0.a _
  have hmw : w.heap.size ≤ W1.heap.size := g0.size
  obtain ⟨m, hm⟩ : ∃ m, m = W1.heap.size := ⟨_, rfl⟩
  change Code.wp _ _ _ _ (W1.alloc (.map #[] 0))
  rw [← hm] at hw2 hmw ⊢
  generalize W1.alloc (.map #[] 0) = W2 at *
  clear hs1 g0 b0 hm
  have m0 := b2.cell 0
  have m1 := b2.cell 1
  have m2 := b2.cell 2
  have m3 := b2.cell 3
  have m4 := b2.cell 4
  have m5 := b2.cell 5
  have m6 := b2.cell 6
  have m7 := b2.cell 7
  have l0 := b2.lt
  go_wp2_with (first | (go_at_call 59; refine (HPL.out _ g2).mono ?_; rintro e w3 ⟨v3, rfl, ho3, hG3⟩; clear m0 m1 m2 m3 m4 m5 m6 m7 l0; have b3 := b2.keep hG3; have g3 := g2.t hG3; have m0 := b3.cell 0; have m1 := b3.cell 1; have m2 := b3.cell 2; have m3 := b3.cell 3; have m4 := b3.cell 4; have m5 := b3.cell 5; have m6 := b3.cell 6; have m7 := b3.cell 7; have l0 := b3.lt) | (go_at_call 58; refine (HO.out _ g3).mono ?_; rintro e w4 ⟨v4, cs, Bl, rfl, hor, hG4⟩; obtain ⟨oa, oc, rfl⟩ := own_slice hor.out))
  have g4 := g3.t hG4
  have hw4 := hw2.keep (hG3.t hG4)
  obtain ⟨pa3, pc3, rfl, hi3⟩ := own_ints ho3
  have hi4 := hi3.below hG4
  have HCAP3 : PL.length ≤ pc3 := by
    rcases ho3.2 with ⟨e, h0⟩ | ⟨g, cap, cur, e, _, _, h1, _⟩
    · omega
    · injection e with _ _ e3
      omega
  have HPA3 : Hid (PaOk pa3 PL.length pc3) := by
    rcases ho3.2 with ⟨e, h0⟩ | ⟨g, cap, cur, e, _⟩
    · injection e with e1 e2 e3
      exact .inl ⟨e1, h0, e3⟩
    · injection e with e1
      exact .inr ⟨g, 0, e1⟩
  have HOR := Lib.hid hor
  have HW4 := Lib.hid hw4
  have HOK := Lib.hid hok
  clear m0 m1 m2 m3 m4 m5 m6 m7 l0 b3 b2 hi3 ho3 hor hG3 hG4 hw2 HO HPL hok
  go_loopw [6, 20] (fun v i wr => ∃ (j : Nat) (pa : Option Addr) (pc : Nat), j ≤ GS.length ∧ i = .int .i64 j ∧ v = .slice pa (wst PL GS j).1.length pc ∧ (wst PL GS j).1.length ≤ pc ∧ Hid (PaOk pa (wst PL GS j).1.length pc) ∧ Hid (IntsAt w4 pa (wst PL GS j).1) ∧ Hid (Won wr m (wst PL GS j).2) ∧ Hid (Fr (fun i => i = m) w4 wr)) (fun _ i _ => GS.length - (intOf i).toNat)
  case atStart => exact ⟨0, pa3, pc3, Nat.zero_le _, rfl, rfl, HCAP3, HPA3, hi4, HW4.out, Fr.rf _ _⟩
  case round =>
    clear hi4 HCAP3 HPA3
    obtain ⟨j, pa, pc, hj, rfl, rfl, hpc, HPA, HIA, HWN, HFR⟩ := hrel
    obtain ⟨wo, rfl⟩ : ∃ wo, wo = wr := ⟨_, rfl⟩
    by_cases hlt : j < GS.length
    · have hji : (j : Int) < GS.length := by omega
      have hgm : GS.getD j [] ∈ GS := by
        rw [List.getD_eq_getElem?_getD, List.getElem?_eq_getElem hlt]
        exact List.getElem_mem _
      obtain ⟨hgne, hg12⟩ := HOK.out.gne _ hgm
      obtain ⟨go, ocap, ocur, hov, hbv, hlv, htv⟩ := own_some HOR.out.out (by omega)
      have hoi := HOR.out.inn j hlt
      obtain ⟨ga, gc, hcs, hig⟩ := own_ints hoi
      have hcl := HOR.out.len
      have hcell4 : w4.cell? ⟨go, j, none⟩ = some (.slice ga (GS.getD j []).length gc) := take_cell hbv htv (k := j) (by omega) (by rw [← hcs]; simp [List.getD_eq_getElem?_getD, show j < cs.length by omega])
      have hgom := HW4.out.ne hbv
      have hcell : wo.cell? ⟨go, j, none⟩ = some (.slice ga (GS.getD j []).length gc) := by
        have e := HFR.out.block go hlv hgom
        simp only [World.cell?] at hcell4 ⊢
        rw [e]
        exact hcell4
      have lgo : go < wo.heap.size := Nat.lt_of_lt_of_le hlv HFR.out.size
      simp only [Value.slice.injEq] at hov
      obtain ⟨rfl, _, rfl⟩ := hov
      obtain ⟨q, hq⟩ : ∃ q, q = (wst PL GS j).1 := ⟨_, rfl⟩
      obtain ⟨gr, hgr⟩ : ∃ gr, gr = GS.getD j [] := ⟨_, rfl⟩
      have hql : q.length ≤ 1000 := by
        obtain ⟨k, hk⟩ := wst_sub PL GS j
        rw [hq, hk, List.length_drop]
        have := HOK.out.pl
        omega
      have hqs : ∀ t, 0 ≤ (q.take t).sum ∧ (q.take t).sum ≤ 1000000000 := fun t => by
        obtain ⟨k, hk⟩ := wst_sub PL GS j
        rw [hq, hk]
        exact HOK.out.sums k t
      have HQS := Lib.hid hqs
      have HIG := Lib.hid hig
      rw [← hgr] at hgne hg12 HIG hcell
      rw [← hq] at hpc HIA HPA ⊢
      have HQ := Lib.hid hq
      have HGR := Lib.hid hgr
      clear hqs hig hcell4 hbv hlv htv hoi hcs hcl hgm hq hgr hgom
      have hj12 : GS.length ≤ 12 := HOK.out.gl
      have hgl : 0 < gr.length := List.length_pos_iff.2 hgne
      go_upto_region 7 with fail
      obtain ⟨t, ht⟩ : ∃ t, t = min gr.length q.length := ⟨_, rfl⟩
      have hmin : min (gr.length : Int) (q.length : Int) = (t : Nat) := by omega
      have htq : t ≤ q.length := by omega
      have htg : t ≤ gr.length := by omega
      rw [hmin]
      have htl : (q.take t).length = t := by rw [List.length_take]; omega
      have hsum := HQS.out t
      have HSM : Hid (∀ W' cap, G wo W' → Calls Tryz.prog 75 #[.slice pa t cap] W' fun e w' => e = .returned (.int .i64 (q.take t).sum) ∧ G W' w') := fun W' cap hW => by
        have h9 := sum_any (q.take t) pa cap W' ((ints_take (ints_fr HW4.out HFR.out HIA.out) t).below hW) (by omega) (fun k hk => by
          have h8 := HQS.out (min k t)
          unfold sumTo
          rw [List.take_take]
          omega)
        rw [htl] at h9
        exact h9
      have HTE := Lib.hid ht
      clear ht htl hmin
      have htc : (t : Int) ≤ pc := by omega
      have htqi : (t : Int) ≤ q.length := by omega
      have htc2 : t ≤ pc := by omega
      have HSA := Lib.hid (fun (a b : Int) (W : World) => shares_any a b W)
      have HSUM := Lib.hid hsum
      clear hsum hcell lgo HOR HP
      obtain ⟨SM, hSM⟩ : ∃ SM, SM = (q.take t).sum := ⟨_, rfl⟩
      rw [← hSM] at HSM HSUM
      have HSE := Lib.hid hSM
      clear hSM
      have e1 := slHi pa q.length pc t htq hpc HPA.out
      have e2 := slHi2 pa q.length pc t htq hpc HPA.out
      go_upto_region 8 with (first | (go_at_call 75; refine (HSM.out _ _ (G.rf wo)).mono ?_; rintro e w5 ⟨rfl, hG5⟩) | (go_at_call 74; refine (HSA.out _ _ _).mono ?_; rintro e w6 ⟨rfl, hA, hBk, hG6⟩))
      have HFR6 := Lib.hid ((HFR.out.g hG5).g hG6)
      have HW6 := Lib.hid (show Won w6 m ((wst PL GS j).2 ++ (gWon q gr).take 0) by rw [List.take_zero, List.append_nil]; exact (HWN.out.keep hG5).keep hG6)
      have HDR := Lib.hid (show (wst PL GS (j + 1)).1 = q.drop t by show (wst PL GS j).1.drop (min (GS.getD j []).length (wst PL GS j).1.length) = _; rw [← HQ.out, ← HGR.out, ← HTE.out])
      have HWX := Lib.hid (fun (W : World) (h : Won W m ((wst PL GS j).2 ++ (gWon q gr).take gr.length)) => show Won W m (wst PL GS (j + 1)).2 by
        have e : (gWon q gr).take gr.length = gWon q gr := by rw [← gWon_len q gr, List.take_length]
        rw [e, HQ.out, HGR.out] at h
        exact h)
      clear e1 e2
      have e1 := slLo pa q.length pc t htq hpc HPA.out
      have e2 := slLo2 pa q.length pc t htq hpc HPA.out
      go_upto_region 9 with fail
      clear e1 e2
      have HDC := Lib.hid (show (q.drop t).length ≤ pc - t by rw [List.length_drop]; omega)
      have HPX := Lib.hid (show PaOk (paF pa t pc) (q.drop t).length (pc - t) by rw [List.length_drop]; exact pa_ok HPA.out t htq)
      have HIX := Lib.hid (pa_ints HPA.out hpc HIA.out t)
      go_wp2_with fail
      go_loopw [41] (fun v wr => ∃ i : Nat, i ≤ gr.length ∧ v = .int .i64 i ∧ Hid (Won wr m ((wst PL GS j).2 ++ (gWon q gr).take i)) ∧ Hid (Fr (fun i => i = m) w6 wr)) (fun v _ => gr.length - (intOf v).toNat)
      case atStart => exact ⟨0, Nat.zero_le _, rfl, HW6.out, Fr.rf _ _⟩
      case round =>
        obtain ⟨i, hi, rfl, HWR, HF6⟩ := hrel
        obtain ⟨wi, rfl⟩ : ∃ wi, wi = wr := ⟨_, rfl⟩
        by_cases hil : i < gr.length
        · have hii : (i : Int) < gr.length := by omega
          have hfr := HFR6.out.t HF6.out
          rcases ints_fr HW4.out hfr HIG.out with h | ⟨gb, goff, rfl, lgb, hgc⟩
          · exact absurd h hgne
          have q0 := hgc i hil
          have hkeyb : 0 ≤ gr.getD i 0 ∧ gr.getD i 0 ≤ 9999 := by
            refine HOK.out.kb (gr.getD i 0) (List.mem_flatten.2 ⟨gr, ?_, ?_⟩)
            · rw [HGR.out, List.getD_eq_getElem?_getD, List.getElem?_eq_getElem hlt]; exact List.getElem_mem _
            · rw [List.getD_eq_getElem?_getD, List.getElem?_eq_getElem hil]
              exact List.getElem_mem _
          have hfs : ((wst PL GS j).2 ++ (gWon q gr).take i).any (fun p => p.1 == gr.getD i 0) = false := by
            have h8 := fresh HOK.out.keys hlt (i := i) (by rw [← HGR.out]; exact hil) PL
            rw [← HGR.out, ← HQ.out] at h8
            exact h8
          have htk : (gWon q gr).take (i + 1) = (gWon q gr).take i ++ [(gr.getD i 0, shareI SM gr.length i)] := by
            rw [gWon_take q gr hil, ← HTE.out, ← HSE.out]
          have HTK := Lib.hid htk
          have HFS := Lib.hid hfs
          obtain ⟨bd, hbd⟩ : ∃ bd, bd = gr.getD i 0 := ⟨_, rfl⟩
          rw [← hbd] at q0 hkeyb HFS HTK
          have hshb : 0 ≤ shareI SM gr.length i ∧ shareI SM gr.length i ≤ 1000000001 := by
            have hs5 := HSUM.out
            have h1 : 0 ≤ SM / (gr.length : Int) := Int.ediv_nonneg hs5.1 (by omega)
            have h2 : SM / (gr.length : Int) ≤ SM := Int.ediv_le_self _ hs5.1
            unfold shareI
            split <;> omega
          have hA9 : Blk wi w5.heap.size 3 #[.int .i64 SM] := (HF6.out.block _ hA.lt (HW6.out.ne hA)).trans hA
          have hB9 : Blk wi (w5.heap.size + 1) 3 #[.int .i64 gr.length] := (HF6.out.block _ hBk.lt (HW6.out.ne hBk)).trans hBk
          have HSH := Lib.hid (share99 SM gr.length i w5.heap.size (w5.heap.size + 1) wi ⟨HSUM.out.1, by have := HSUM.out.2; omega⟩ ⟨by omega, by omega⟩ (by omega) hA9 hB9)
          obtain ⟨SV, hSV⟩ : ∃ SV, SV = shareI SM gr.length i := ⟨_, rfl⟩
          rw [← hSV] at HSH HTK hshb
          have hnl : ((wst PL GS j).2 ++ (gWon q gr).take i).length < maxLen := by
            have h1 := wst_len HOK.out j; rw [List.length_append, List.length_take, gWon_len]; unfold maxLen; omega
          have HNL := Lib.hid hnl
          clear htk hfs hbd hSV hA9 hB9 hnl hgc hfr
          go_wp2_with ((first | go_at_call 99 | go_at_fn 99); refine (HSH.out).mono ?_; rintro e w7 ⟨rfl, hG7⟩; obtain ⟨W8, hrun, hwn8, hg8⟩ := Won.store (HWR.out.keep hG7) (x := bd) (c := SV) (by omega) (by omega) HNL.out HFS.out)
          go_roundw
          case rel => exact ⟨i + 1, by omega, by go_num, by rw [HTK.out, ← List.append_assoc]; exact hwn8, (HF6.out.g hG7).grown hg8 (fun g e => .inl (by cases e; rfl))⟩
          case measure => simp [intOf] <;> omega
        · obtain rfl : i = gr.length := by omega
          have hii : ¬ ((gr.length : Nat) : Int) < gr.length := by omega
          go_wp2_with fail
          go_roundw
          case rel => exact ⟨j + 1, paF pa t pc, pc - t, by omega, by go_num, by rw [HDR.out, List.length_drop], by rw [HDR.out]; exact HDC.out, by rw [HDR.out]; exact HPX.out, by rw [HDR.out]; exact HIX.out, HWX.out wi HWR.out, HFR6.out.t HF6.out⟩
          case measure => simp [intOf] <;> omega
    · obtain rfl : j = GS.length := by omega
      have hji : ¬ ((GS.length : Nat) : Int) < GS.length := by omega
      have gz : G w wo := ((G.fr (R := fun _ => False) g4).t2 HFR.out (fun i hi h => by omega)).toG (fun _ _ h => h)
      have HF := Lib.hid (HP.out wo m HWN.out hmw gz)
      clear HP
      go_wp2_with fail
      first | exact HF.out | (go_ret; exact HF.out)
end Go.Proofs.YtnkmcoljijmgpaaGreat

set_option linter.unusedSimpArgs false
set_option linter.unusedVariables false
namespace Go.Proofs.YtnkmcoljijmgpaaGreat
open Go.RowKit Go.Shelf Go.Sort Go.Maps
attribute [local go_sem] Oper.semAt_some
/-- a range over such a map under way: what is still to come -/
def WRng (W : World) (m r : Nat) (ps qs : List (Int × Int)) (cnt : Nat) : Prop := ∃ (D : DataW Unit) (left : Lit → Bool), W.ranges Tryz.prog 3 (plainElem Tryz.prog 3) m r ps.length D left cnt ∧ (∀ q, q ∈ ps → ∀ z, D.atKey (.int .i64 q.1) z = .lit (.int .i64 q.2)) ∧ (∀ x : Int, left (.int .i64 x) = qs.any fun p => p.1 == x) ∧ ∀ q ∈ qs, q ∈ ps
theorem WRng.left_eq {W : World} {m r : Nat} {ps qs : List (Int × Int)} {cnt : Nat} (h : WRng W m r ps qs cnt) : W.rangeLeft m r = cnt := by
  obtain ⟨D, left, h1, _⟩ := h
  exact h1.left_eq
section
variable {ops : Array Oper} {rest : List Oper} {o : Oper} {a : Act} {Q : Exit → Act → World → Prop}
theorem wpList_range_won (w : World) (hg : o.guard = none) (mo : Operand) (hop : o.op = Op.range 90 mo) {m : Nat} {ps : List (Int × Int)} (hm : a.eval mo = .map (some m)) (hw : Won w m ps)
    (hK : ∀ w', WRng w' m w.heap.size ps ps (w'.rangeLeft m w.heap.size) → w.grownBy w' none → w'.heap.size = w.heap.size + 1 → wpList Tryz.prog ops Q rest (a.put o.dst (.pointer (some ⟨w.heap.size, 0, none⟩))) w') :
    wpList Tryz.prog ops Q (o :: rest) a w := by
  obtain ⟨D, h1, h2, h3, _⟩ := hw
  refine wpList_range_own w hg mo 90 hop 3 3 law3 Tryz.underlying90 (plainElem Tryz.prog 3) m ps.length D hm h1 (fun w' hr hgr hsz => hK w' ?_ hgr hsz)
  exact ⟨D, _, by rw [hr.left_eq]; exact hr, h3, h2, fun q h => h⟩
theorem wpList_next_won (w : World) (hg : o.guard = none) (it : Operand) (hop : o.op = Op.next it false) {m r : Nat} {ps qs : List (Int × Int)} {cnt : Nat} (hit : a.eval it = .pointer (some ⟨r, 0, none⟩)) (h : WRng w m r ps qs cnt)
    (hDone : qs = [] → wpList Tryz.prog ops Q rest (a.put o.dst (.tuple #[.bool false])) w)
    (hMore : ∀ q ∈ qs, ∀ w' cnt', WRng w' m r ps (qs.filter fun p => p.1 != q.1) cnt' → cnt' < cnt → w.grownBy w' (some r) → w'.heap.size = w.heap.size → (Instr.entry (.pointer (some ⟨r, 0, none⟩))).run Tryz.prog w' = .ok (.tuple #[.int .i64 q.1, .int .i64 q.2]) w' → wpList Tryz.prog ops Q rest (a.put o.dst (.tuple #[.bool true, .int .i64 q.1, .int .i64 q.2])) w') :
    wpList Tryz.prog ops Q (o :: rest) a w := by
  obtain ⟨D, left, h1, h2, h3, h4⟩ := h
  refine wpList_next_ranges_ii w hg it hop 3 3 .i64 .i64 law3 Tryz.underlying3 Tryz.underlying3 m r ps.length D left cnt hit h1 (fun _ hl => hDone ?_) (fun x c w' cnt' _ _ hlx hat hr hlt hgr hsz hen => ?_)
  · rw [List.eq_nil_iff_forall_not_mem]
    intro q hq
    have e := h3 q.1
    rw [hl] at e
    have e' := List.any_eq_false.1 e.symm q hq
    simp at e'
  · rw [h3 x] at hlx
    obtain ⟨q, hq, hqx⟩ := List.any_eq_true.1 hlx
    have hqe : q.1 = x := by simpa using hqx
    have hc := h2 q (h4 q hq) .nil
    rw [hqe, hat] at hc
    simp only [DataW.lit.injEq, Lit.int.injEq, true_and] at hc
    subst hqe
    subst hc
    refine hMore q hq w' cnt' ⟨D, _, hr, h2, fun y => ?_, fun p hp => h4 p (List.mem_filter.1 hp).1⟩ hlt hgr hsz hen
    simp only [h3]
    have hsk : (Lit.int .i64 y).sameKey (.int .i64 q.1) = (y == q.1) := by
      have := WideAt.sameKey_iff (a := .int .i64 y) (b := .int .i64 q.1) (law3.key (keyOf_int_mk Tryz.underlying3 (by
        first | exact wfI (by omega) | (obtain ⟨_, _⟩ := hr; assumption) | assumption)))
      by_cases e : y = q.1
      · subst e
        rw [this.2 rfl]
        simp
      · have h9 : ¬ (Lit.int .i64 y).sameKey (.int .i64 q.1) = true := fun hh => e (by have := this.1 hh; injection this)
        rw [Bool.not_eq_true] at h9
        rw [h9]
        simp [e]
    rw [hsk, List.any_filter]
    by_cases e : y = q.1
    · subst e
      simp
    · have hb : (y == q.1) = false := by simpa using e
      rw [hb]
      simp only [Bool.not_false, Bool.and_true]
      congr 1
      funext p
      by_cases e2 : p.1 = y
      · subst e2
        simp [e]
      · simp [e2]
end
end Go.Proofs.YtnkmcoljijmgpaaGreat

set_option linter.unusedSimpArgs false
set_option linter.unusedVariables false
namespace Go.Proofs.YtnkmcoljijmgpaaGreat
open Go.RowKit Go.Shelf Go.Sort Go.Maps
attribute [local go_sem] Oper.semAt_some
def sndS (ps : List (Int × Int)) : Int := (ps.map Prod.snd).sum
theorem sndS_nonneg {ps : List (Int × Int)} (h : ∀ q ∈ ps, 0 ≤ q.2) : 0 ≤ sndS ps := by
  induction ps with
  | nil => simp [sndS]
  | cons a l ih =>
    have h1 := h a (List.mem_cons_self ..)
    have h2 := ih (fun x hx => h x (List.mem_cons_of_mem _ hx))
    unfold sndS at *
    rw [List.map_cons, List.sum_cons]
    omega
theorem filter_id {qs : List (Int × Int)} {x : Int} (h : ∀ p ∈ qs, p.1 ≠ x) : qs.filter (fun p => p.1 != x) = qs := List.filter_eq_self.2 (fun p hp => by simpa using h p hp)
theorem filter_sum {qs : List (Int × Int)} (hk : qs.Pairwise fun a b => a.1 ≠ b.1) {q : Int × Int} (hq : q ∈ qs) : sndS qs = q.2 + sndS (qs.filter fun p => p.1 != q.1) := by
  induction qs with
  | nil => simp at hq
  | cons a l ih =>
    rw [List.pairwise_cons] at hk
    rcases List.mem_cons.1 hq with rfl | hq
    · rw [List.filter_cons_of_neg (by simp), filter_id (fun p hp => (hk.1 p hp).symm)]
      simp [sndS]
    · have hne : a.1 ≠ q.1 := hk.1 q hq
      rw [List.filter_cons_of_pos (by simpa using hne)]
      have := ih hk.2 hq
      unfold sndS at *
      simp only [List.map_cons, List.sum_cons]
      omega
set_option maxRecDepth 100000 in
set_option maxHeartbeats 8000000 in
theorem rest_any (f : Fu) (prs : List (Int × Int)) (m : Nat) (w : World) (hw : Won w m prs) (hF : FuB f) (hk : prs.Pairwise fun a b => a.1 ≠ b.1) (hb : ∀ q ∈ prs, 0 ≤ q.2) (hs : sndS prs ≤ 1000000000000) :
    Calls Tryz.prog 50 #[.agg f.v, .map (some m)] w fun e w' => e = .returned (.int .i64 (lefI f - sndS prs)) ∧ G w w' := by
  have HL := Lib.hid (fun (W : World) => left_any f W hF)
  have hlb : 0 ≤ lefI f ∧ lefI f ≤ 1200000 := left_bd hF
  generalize lefI f = LV at *
  clear hF
  obtain ⟨⟨ystake, ycut, ykind, yta, ytc, ytable, yquota, yfirst⟩, fa, fc, rs, pa, pc, ps⟩ := f
  unfold Fu.v at *
  dsimp only at *
  have g0 : G w (w.alloc (.cells #[.int .i64 ystake, .int .i64 ycut, .int .i64 ykind, .slice yta ytable.length ytc, .int .i64 yquota, .bool yfirst, .slice fa rs.length fc, .slice pa ps.length pc] 85)) := (G.rf _).a _
  have b0 : Blk (w.alloc (.cells #[.int .i64 ystake, .int .i64 ycut, .int .i64 ykind, .slice yta ytable.length ytc, .int .i64 yquota, .bool yfirst, .slice fa rs.length fc, .slice pa ps.length pc] 85)) w.heap.size 85 #[.int .i64 ystake, .int .i64 ycut, .int .i64 ykind, .slice yta ytable.length ytc, .int .i64 yquota, .bool yfirst, .slice fa rs.length fc, .slice pa ps.length pc] := Blk.new _ _ _
  have hw0 := hw.keep g0
  clear hw
  go_enter Tryz.func50, Tryz.ntmps50
  go_upto_region 1 with fail
  change Code.wp _ _ _ _ (w.alloc (.cells #[.int .i64 ystake, .int .i64 ycut, .int .i64 ykind, .slice yta ytable.length ytc, .int .i64 yquota, .bool yfirst, .slice fa rs.length fc, .slice pa ps.length pc] 85))
  generalize w.alloc (.cells #[.int .i64 ystake, .int .i64 ycut, .int .i64 ykind, .slice yta ytable.length ytc, .int .i64 yquota, .bool yfirst, .slice fa rs.length fc, .slice pa ps.length pc] 85) = W1 at *
  have m0 := b0.cell 0
  have m1 := b0.cell 1
  have m2 := b0.cell 2
  have m3 := b0.cell 3
  have m4 := b0.cell 4
  have m5 := b0.cell 5
  have m6 := b0.cell 6
  have m7 := b0.cell 7
  have l0 := b0.lt
  go_upto_region 2 with (go_at_call 49; refine (HL.out _).mono ?_; rintro e w2 ⟨rfl, hG2⟩)
  have hw2 := hw0.keep hG2
  have g2 := g0.t hG2
  clear m0 m1 m2 m3 m4 m5 m6 m7 l0 hw0
  go_wp2_with (at_range; refine wpList_range_won _ rfl _ rfl rfl hw2 ?_; intro w3 hrg3 hgr3 hs3)
  go_frame
  have hrn : w.heap.size ≤ w2.heap.size := g2.size
  obtain ⟨r, hr⟩ : ∃ r, r = w2.heap.size := ⟨_, rfl⟩
  rw [← hr] at hrg3 hs3 hrn ⊢
  clear hr
  have g3 : G w w3 := (Fr.grown (G.fr (R := fun _ => False) g2) hgr3 (fun g e => by cases e)).toG (fun _ _ h => h)
  clear hgr3 hs3 g2 hG2 g0 b0
  have HS0 := Lib.hid (sndS_nonneg hb)
  go_loopw [5] (fun v wr => ∃ (qs : List (Int × Int)) (cnt : Nat), WRng wr m r prs qs cnt ∧ v = .int .i64 (LV - (sndS prs - sndS qs)) ∧ Hid (qs.Pairwise fun a b => a.1 ≠ b.1) ∧ Hid (∀ q ∈ qs, 0 ≤ q.2) ∧ Hid (sndS qs ≤ sndS prs) ∧ G w wr) (fun _ wr => wr.rangeLeft m r)
  case atStart => exact ⟨prs, _, hrg3, by congr 1; omega, hk, hb, Int.le_refl _, g3⟩
  case round =>
    obtain ⟨qs, cnt, hrg, rfl, HK, HB, HLE, hgw⟩ := hrel
    obtain ⟨wo, rfl⟩ : ∃ wo, wo = wr := ⟨_, rfl⟩
    clear hrg3 hk hb
    go_wp2_with (at_next; refine wpList_next_won _ rfl _ rfl rfl hrg ?_ ?_)
    · intro h0
      subst h0
      have hz : LV - (sndS prs - sndS []) = LV - sndS prs := by simp [sndS]
      rw [hz]
      go_wp2_with fail
      go_ret
      exact ⟨rfl, hgw⟩
    · intro qk qv hq w5 cnt5 hrg5 hlt5 hg5 hs5 hen

      have hgw5 : G w w5 := (Fr.grown (G.fr (R := fun _ => False) hgw) hg5 (fun g e => by cases e; exact .inr hrn)).toG (fun _ _ h => h)
      have hsum := filter_sum HK.out hq
      have hq2 : 0 ≤ qv := HB.out (qk, qv) hq
      dsimp only at hsum
      have hF2 := Lib.hid (HK.out.sublist (List.filter_sublist (p := fun p : Int × Int => p.1 != qk)))
      have hB2 : Hid (∀ p ∈ qs.filter (fun p : Int × Int => p.1 != qk), 0 ≤ p.2) := fun p hp => HB.out p (List.mem_filter.1 hp).1
      have hle := HLE.out
      have hnn := sndS_nonneg hB2.out
      have hHS := HS0.out
      obtain ⟨S', hS'⟩ : ∃ S', S' = sndS (qs.filter fun p => p.1 != qk) := ⟨_, rfl⟩
      have HS' := Lib.hid hS'
      obtain ⟨SP, hSP⟩ : ∃ SP, SP = sndS prs := ⟨_, rfl⟩
      obtain ⟨SQ, hSQ⟩ : ∃ SQ, SQ = sndS qs := ⟨_, rfl⟩
      rw [← hS'] at hsum hnn
      rw [← hSP] at hle hHS hs ⊢
      rw [← hSQ] at hle hsum ⊢
      have x1 : IntKind.i64.wrap (LV - (SP - SQ) - qv) = LV - (SP - SQ) - qv := IntWalk.i64_in _ (by omega)
      have HSUM := Lib.hid hsum
      have hSPQ := Lib.hid hSP
      have hle2 := Lib.hid hle
      clear hS' hSP hSQ hsum hle
      go_wp2_with fail
      go_roundw
      case rel => exact ⟨_, cnt5, hrg5, by rw [← HS'.out, ← hSPQ.out]; congr 1; have := HSUM.out; omega, hF2.out, hB2.out, by rw [← HS'.out, ← hSPQ.out]; show S' ≤ SP; have := HSUM.out; have := hle2.out; omega, hgw5⟩
      case measure => rw [hrg5.left_eq, hrg.left_eq]; exact hlt5
end Go.Proofs.YtnkmcoljijmgpaaGreat

set_option linter.unusedSimpArgs false
set_option linter.unusedVariables false
namespace Go.Proofs.YtnkmcoljijmgpaaGreat
open Go.RowKit Go.Shelf Go.Sort Go.Maps
attribute [local go_sem] Oper.semAt_some
theorem share_part (A : Int) (n : Nat) (hA : 0 ≤ A) (hn : 1 ≤ n) : ∀ k : Nat, ((List.range k).map fun i => shareI A n i).sum = k * (A / n) + min (k : Int) (A % n)
  | 0 => by
    have : 0 ≤ A % (n : Int) := Int.emod_nonneg _ (by omega)
    simp
    omega
  | k + 1 => by
    rw [List.range_succ, List.map_append, List.sum_append, share_part A n hA hn k]
    have h0 : 0 ≤ A % (n : Int) := Int.emod_nonneg _ (by omega)
    have e : ((k + 1 : Nat) : Int) * (A / n) = k * (A / n) + A / n := by rw [Int.natCast_add, Int.add_mul]; simp
    rw [e]
    simp only [List.map_cons, List.map_nil, List.sum_cons, List.sum_nil, shareI]
    generalize (k : Int) * (A / n) = X
    generalize A / (n : Int) = Y
    split <;> omega
theorem share_sum (A : Int) (n : Nat) (hA : 0 ≤ A) (hn : 1 ≤ n) : ((List.range n).map fun i => shareI A n i).sum = A := by
  rw [share_part A n hA hn n]
  have h0 : A % (n : Int) < n := Int.emod_lt_of_pos _ (by omega)
  have h1 := Int.mul_ediv_add_emod A n
  rw [show min (n : Int) (A % n) = A % n by omega]
  exact h1
theorem share_nonneg (A : Int) (n i : Nat) (hA : 0 ≤ A) : 0 ≤ shareI A n i := by
  unfold shareI
  have : 0 ≤ A / (n : Int) := Int.ediv_nonneg hA (by omega)
  split <;> omega
theorem sndS_append (a b : List (Int × Int)) : sndS (a ++ b) = sndS a + sndS b := by simp [sndS]
theorem gWon_sum {q g : List Int} (hg : g ≠ []) (hq : 0 ≤ (q.take (min g.length q.length)).sum) : sndS (gWon q g) = (q.take (min g.length q.length)).sum := by
  unfold sndS gWon
  rw [List.map_map]
  exact share_sum _ _ hq (List.length_pos_iff.2 hg)
theorem wst_sum {PL : List Int} {GS : List (List Int)} (h : WonOk PL GS) : ∀ j, j ≤ GS.length → sndS (wst PL GS j).2 + (wst PL GS j).1.sum = PL.sum
  | 0, _ => by simp [wst, sndS]
  | j + 1, hj => by
    have ih := wst_sum h j (by omega)
    show sndS ((wst PL GS j).2 ++ gWon (wst PL GS j).1 (GS.getD j [])) + ((wst PL GS j).1.drop (min (GS.getD j []).length (wst PL GS j).1.length)).sum = _
    have hm : GS.getD j [] ∈ GS := by
      rw [List.getD_eq_getElem?_getD, List.getElem?_eq_getElem (by omega)]
      exact List.getElem_mem _
    obtain ⟨k, hk⟩ := wst_sub PL GS j
    rw [sndS_append, gWon_sum (h.gne _ hm).1 (by rw [hk]; exact (h.sums k _).1)]
    have e := List.take_append_drop (min (GS.getD j []).length (wst PL GS j).1.length) (wst PL GS j).1
    have e2 := congrArg List.sum e
    rw [List.sum_append] at e2
    omega
theorem wst_nonneg {PL : List Int} {GS : List (List Int)} (h : WonOk PL GS) : ∀ j, ∀ q ∈ (wst PL GS j).2, 0 ≤ q.2
  | 0 => by simp [wst]
  | j + 1 => by
    intro q hq
    rcases List.mem_append.1 (show q ∈ (wst PL GS j).2 ++ gWon (wst PL GS j).1 (GS.getD j []) from hq) with hq | hq
    · exact wst_nonneg h j q hq
    · unfold gWon at hq
      obtain ⟨i, _, rfl⟩ := List.mem_map.1 hq
      obtain ⟨k, hk⟩ := wst_sub PL GS j
      exact share_nonneg _ _ _ (by rw [hk]; exact (h.sums k _).1)
/-- what the three laws on what was won say of a fund -/
structure WonFacts (f : Fu) (st : List Int) : Prop where
  ok : WonOk (placesL f) (orderL f st)
  keys : (wonL f st).map Prod.fst = (orderL f st).flatten
  dist : (wonL f st).Pairwise fun a b => a.1 ≠ b.1
  nonneg : ∀ q ∈ wonL f st, 0 ≤ q.2
  le : sndS (wonL f st) ≤ lefI f
  pos : 0 ≤ sndS (wonL f st)
  bound : lefI f ≤ 1200000
theorem sum_nonneg {l : List Int} (h : ∀ x ∈ l, 0 ≤ x) : 0 ≤ l.sum := by
  induction l with
  | nil => simp
  | cons a l ih =>
    have h1 := h a (List.mem_cons_self ..)
    have h2 := ih (fun x hx => h x (List.mem_cons_of_mem _ hx))
    rw [List.sum_cons]
    omega
theorem table_sum (L : Int) (hL : 0 ≤ L) : ∀ l : List Int, (∀ n ∈ l, 0 ≤ n) → (l.map fun n => L * n / 1000).sum * 1000 ≤ L * l.sum
  | [], _ => by simp
  | a :: l, h => by
    have ih := table_sum L hL l (fun n hn => h n (List.mem_cons_of_mem _ hn))
    rw [List.map_cons, List.sum_cons, List.sum_cons, Int.mul_add]
    generalize (l.map fun n => L * n / 1000).sum = S at *
    generalize L * l.sum = T at *
    generalize L * a = B at *
    omega
theorem places_sum {f : Fu} (hF : FuB f) (hp : poolB f.po = true) : (placesL f).sum ≤ lefI f := by
  have hl := left_bd hF
  unfold placesL
  split
  · rename_i hk
    have h1 := table_sum (lefI f) hl.1 f.po.table (fun n hn => (kind_table hp n hn).1)
    have h2 : f.po.table.sum ≤ 1000 := by
      unfold poolB kindB at hp
      simp only [Bool.and_eq_true] at hp
      obtain ⟨_, _, hp⟩ := hp
      rw [if_pos hk] at hp
      simp only [Bool.and_eq_true] at hp
      have h3 := hp.1
      unfold tableB at h3
      simp only [Bool.and_eq_true, decide_eq_true_eq] at h3
      exact h3.2.2
    have h3 : lefI f * f.po.table.sum ≤ lefI f * 1000 := Int.mul_le_mul_of_nonneg_left h2 hl.1
    omega
  · split
    · rename_i h2
      have h3 := nPl_bd hF hp h2
      rw [List.sum_replicate_int]
      have e : ((nPl f).toNat : Int) = nPl f := Int.toNat_of_nonneg h3.1
      rw [e]
      by_cases h0 : nPl f = 0
      · rw [h0]; simp; exact hl.1
      · exact Int.mul_ediv_self_le h0
    · split
      · simp
      · simp [hl.1]
theorem wonFacts_any {f : Fu} (hF : FuB f) (hp : poolB f.po = true) (hu : Uniq f.rs) (hb : ∀ x ∈ f.rs, 0 ≤ x.bird ∧ x.bird ≤ 9999) (st : List Int) : WonFacts f st := by
  have ok := wonOk_any hF hp hu hb st
  have hk : (wonL f st).map Prod.fst = (orderL f st).flatten := by
    unfold wonL
    rw [wst_keys _ _ _ (Nat.le_refl _), List.take_length]
  refine ⟨ok, hk, ?_, wst_nonneg ok _, ?_, sndS_nonneg (wst_nonneg ok _), (left_bd hF).2⟩
  · have := ok.keys
    rw [← hk, List.pairwise_map] at this
    exact this
  · have h1 := wst_sum ok _ (Nat.le_refl _)
    have h2 := places_sum hF hp
    have h3 : 0 ≤ (wst (placesL f) (orderL f st) (orderL f st).length).1.sum := by
      obtain ⟨k, hk⟩ := wst_sub (placesL f) (orderL f st) (orderL f st).length
      rw [hk]
      exact sum_nonneg (fun x hx => ((places_bd hF hp).2 x (List.mem_of_mem_drop hx)).1)
    unfold wonL
    omega
end Go.Proofs.YtnkmcoljijmgpaaGreat

set_option linter.unusedSimpArgs false
set_option linter.unusedVariables false
namespace Go.Proofs.YtnkmcoljijmgpaaGreat
open Go.RowKit Go.Shelf Go.Sort Go.Maps
attribute [local go_sem] Oper.semAt_some
/-- a good fund as it lies -/
structure GF (f : Fu) (W : World) : Prop where
  row : RowE Rc.v 5 W f.fa f.rs
  fn : f.fa ≠ none ∨ f.rs = []
  B : FuB f
  po : poolB f.po = true
  tab : IntsAt W f.po.ta f.po.table
  uq : Uniq f.rs
  srt : f.rs.Pairwise fun x y => x.bird ≤ y.bird
  bd : ∀ x ∈ f.rs, 0 ≤ x.bird ∧ x.bird ≤ 9999
  prot : IntsAt W f.pa f.ps
  np : f.ps.length ≤ 4
theorem GF.keep {f : Fu} {W W' : World} (h : GF f W) (hG : G W W') : GF f W' := ⟨h.row.below hG, h.fn, h.B, h.po, h.tab.below hG, h.uq, h.srt, h.bd, h.prot.below hG, h.np⟩
theorem GF.facts {f : Fu} {W : World} (h : GF f W) (st : List Int) : WonFacts f st := wonFacts_any h.B h.po h.uq h.bd st
theorem GF.won {f : Fu} {W : World} (h : GF f W) (st : List Int) (sa : Option Addr) (sc : Nat) (hi : IntsAt W sa st) (hl : st.length ≤ 1000) : Calls Tryz.prog 51 #[.agg f.v, .slice sa st.length sc] W (WonPost W (wonL f st)) :=
  won_any f st sa sc W h.row h.fn hi hl h.B.many h.uq h.srt h.B h.po h.tab (h.facts st).ok
theorem GF.rest {f : Fu} {W : World} (h : GF f W) (st : List Int) (m : Nat) (hw : Won W m (wonL f st)) : Calls Tryz.prog 50 #[.agg f.v, .map (some m)] W fun e w' => e = .returned (.int .i64 (lefI f - sndS (wonL f st))) ∧ G W w' :=
  rest_any f (wonL f st) m W hw h.B (h.facts st).dist (h.facts st).nonneg (by have a := (h.facts st).le; have b := (h.facts st).bound; omega)
theorem racers_bd {r : Ra} (h : raceB r = true) : ∀ x ∈ r.racers, 0 ≤ x.bird ∧ x.bird ≤ 9999 := by
  have h1 := race_parts h
  unfold racersB at h1
  simp only [Bool.and_eq_true] at h1
  intro x hx
  obtain ⟨i, hi, rfl⟩ := List.mem_iff_getElem.1 hx
  have h2 := allU_iff.1 h1.2 i hi
  rw [List.getD_eq_getElem?_getD, List.getElem?_eq_getElem hi] at h2
  simp only [Bool.and_eq_true] at h2
  have h3 := h2.2
  unfold racerB at h3
  simp only [Bool.and_eq_true] at h3
  have h4 := h3.1
  unfold isInB at h4
  simpa using h4
theorem race_np {r : Ra} (h : raceB r = true) : r.protests.length ≤ 4 := by
  unfold raceB at h
  simp only [Bool.and_eq_true, decide_eq_true_eq] at h
  exact h.2.2.2.1
theorem runners_sub {r : Ra} {p : Int} {x : Rc} (h : x ∈ runners r p) : x ∈ r.racers ∧ inL x.pools p = true := by
  unfold runners at h
  exact List.mem_filter.1 ((srt_perm _).mem_iff.1 h)
theorem own_fn {W : World} {B : Nat} {fa : Option Addr} {fc : Nat} {l : List Rc} (h : W.ownsRow B 60 5 (.slice fa l.length fc) l.length (rcV l)) : (fa ≠ none ∨ l = []) ∧ RowE Rc.v 5 W fa l := by
  have hn : fa ≠ none ∨ l = [] := by
    rcases h.2 with ⟨_, h0⟩ | ⟨g, cap, cur, he, _⟩
    · exact .inr (List.length_eq_zero_iff.1 h0)
    · exact .inl (fun e => by rw [e] at he; cases he)
  obtain ⟨a0, c0, hve, hrow⟩ := own_row h
  obtain ⟨rfl, rfl⟩ : fa = a0 ∧ fc = c0 := by simpa using hve
  exact ⟨hn, hrow⟩
theorem gf_of {r : Ra} {p : Int} {W : World} {B : Nat} {fa : Option Addr} {fc : Nat} (hr : raceB r = true) (hp : isInB p 0 ((r.pools.length : Int) - 1) = true) (h : r.At W) (ho : W.ownsRow B 60 5 (.slice fa (runners r p).length fc) (runners r p).length (rcV (runners r p))) : GF (fuOf r p fa fc) W :=
  ⟨(own_fn ho).2, (own_fn ho).1, fu_bounds hr hp fa fc, (pool_of hr hp).2, h.ps.tables _ (pool_of hr hp).1, runners_uniq hr p, runners_sorted r p, fun x hx => racers_bd hr x (runners_sub hx).1, h.ts, race_np hr⟩
/-- the cells of a row of structs -/
def cv {α : Type} (v : α → Array Value) (l : List α) : List Value := l.flatMap fun x => (v x).toList
section
variable {α : Type} {v : α → Array Value} {k : Nat}
theorem cv_len (hv : ∀ x, (v x).size = k) (l : List α) : (cv v l).length = l.length * k := by
  induction l with
  | nil => simp [cv]
  | cons a l ih =>
    show ((v a).toList ++ cv v l).length = _
    rw [List.length_append, ih, Array.length_toList, hv, List.length_cons, Nat.add_mul]
    omega
theorem cv_snoc (l : List α) (x : α) : cv v (l ++ [x]) = cv v l ++ (v x).toList := by simp [cv]
theorem cv_get [Inhabited α] (hv : ∀ x, (v x).size = k) : ∀ (l : List α) {i r : Nat}, i < l.length → r < k → (cv v l)[i * k + r]? = (v (l.getD i default)).toList[r]?
  | [], _, _, h, _ => by simp at h
  | a :: l, 0, r, _, hr => by
    show ((v a).toList ++ cv v l)[0 * k + r]? = _
    rw [List.getElem?_append_left (by rw [Array.length_toList, hv]; omega)]
    simp
  | a :: l, i + 1, r, h, hr => by
    show ((v a).toList ++ cv v l)[(i + 1) * k + r]? = _
    have e : (i + 1) * k + r = k + (i * k + r) := by rw [Nat.add_mul]; omega
    rw [e, List.getElem?_append_right (by rw [Array.length_toList, hv]; omega), Array.length_toList, hv, show k + (i * k + r) - k = i * k + r by omega, cv_get hv l (by simpa using h) hr]
    rfl
theorem own_rowE [Inhabited α] (hv : ∀ x, (v x).size = k) {W : World} {B : Nat} {T : TypeId} {u : Value} {l : List α} (h : W.ownsRow B T k u l.length (cv v l)) : ∃ a c, u = .slice a l.length c ∧ RowE v k W a l := by
  rcases h.2 with ⟨rfl, h0⟩ | ⟨g, cap, cur, rfl, hb, hg, h1, h2, h3, h4⟩
  · exact ⟨none, 0, by rw [h0], .inl h0⟩
  · refine ⟨_, _, rfl, .inr ⟨g, 0, rfl, (Array.getElem?_eq_some_iff.1 hg).1, fun i hi r hr => ?_⟩⟩
    have e := cv_get hv l hi hr
    have hB : Blk W g T cur := hg
    have hlt : i * k + r < l.length * k := by
      have h1 : (i + 1) * k ≤ l.length * k := Nat.mul_le_mul_right _ hi
      rw [Nat.add_mul] at h1
      omega
    rw [show 0 + i * k + r = i * k + r by omega, hB.cell, ← Array.getElem?_toList]
    have h5 : (cur.toList.take (l.length * k))[i * k + r]? = (cv v l)[i * k + r]? := by rw [h4]
    rw [List.getElem?_take_of_lt hlt] at h5
    rw [h5, e]
    simp
end
/-- a prize -/
structure Pz where
  bird : Int
  won : Int
  back : Int
instance : Inhabited Pz := ⟨⟨0, 0, 0⟩⟩
def Pz.v (x : Pz) : Array Value := #[.int .i64 x.bird, .int .i64 x.won, .int .i64 x.back]
theorem Pz.vs (x : Pz) : x.v.size = 3 := rfl
/-- what a bird has won -/
def wonAt (ps : List (Int × Int)) (b : Int) : Int := match ps.find? fun p => p.1 == b with | some q => q.2 | none => 0
theorem Won.at {W : World} {m : Nat} {ps : List (Int × Int)} (h : Won W m ps) {x : Int} (hx : -1000000000000 ≤ x ∧ x ≤ 1000000000000) (hz : (zeroValue 3).run Tryz.prog W = .ok (.int .i64 0) W) :
    (Instr.lookup 90 (.map (some m)) (.int .i64 x) false).run Tryz.prog W = .ok (.int .i64 (wonAt ps x)) W := by
  obtain ⟨c, h1, h2, h3⟩ := h.look hx hz
  have e : c = wonAt ps x := by
    unfold wonAt
    cases hf : ps.find? fun p => p.1 == x with
    | none =>
      refine h3 (List.any_eq_false.2 fun q hq => ?_)
      have := List.find?_eq_none.1 hf q hq
      simpa using this
    | some q =>
      have h5 := List.find?_some hf
      exact h2 q (List.mem_of_find?_eq_some hf) (by simpa using h5)
  rw [← e]
  exact h1
def resI (f : Fu) (st : List Int) : Int := lefI f - sndS (wonL f st)
def prizesL (f : Fu) : List Pz := (List.range f.rs.length).map fun i => ⟨(f.rs.getD i default).bird, wonAt (wonL f []) (f.rs.getD i default).bird, shareI (resI f []) f.rs.length i⟩
theorem prizesL_len (f : Fu) : (prizesL f).length = f.rs.length := by simp [prizesL]
theorem prizesL_take (f : Fu) {i : Nat} (h : i < f.rs.length) : (prizesL f).take (i + 1) = (prizesL f).take i ++ [⟨(f.rs.getD i default).bird, wonAt (wonL f []) (f.rs.getD i default).bird, shareI (resI f []) f.rs.length i⟩] := by
  have hl : i < (prizesL f).length := by rw [prizesL_len]; exact h
  rw [List.take_add_one, List.getElem?_eq_getElem hl]
  simp [prizesL]
theorem wonAt_nonneg {ps : List (Int × Int)} (h : ∀ q ∈ ps, 0 ≤ q.2) (b : Int) : 0 ≤ wonAt ps b := by
  unfold wonAt
  cases hf : ps.find? fun p => p.1 == b with
  | none => exact Int.le_refl _
  | some q => exact h q (List.mem_of_find?_eq_some hf)
theorem mem_le_sum {ps : List (Int × Int)} (h : ∀ q ∈ ps, 0 ≤ q.2) {q : Int × Int} (hq : q ∈ ps) : q.2 ≤ sndS ps := by
  induction ps with
  | nil => simp at hq
  | cons a l ih =>
    have h1 := h a (List.mem_cons_self ..)
    have h2 := sndS_nonneg (fun x hx => h x (List.mem_cons_of_mem _ hx))
    have e : sndS (a :: l) = a.2 + sndS l := by simp [sndS]
    rcases List.mem_cons.1 hq with rfl | hq
    · omega
    · have := ih (fun x hx => h x (List.mem_cons_of_mem _ hx)) hq
      omega
theorem wonAt_le {ps : List (Int × Int)} (h : ∀ q ∈ ps, 0 ≤ q.2) (b : Int) : wonAt ps b ≤ sndS ps := by
  have h2 := sndS_nonneg h
  unfold wonAt
  cases hf : ps.find? fun p => p.1 == b with
  | none => exact h2
  | some q => exact mem_le_sum h (List.mem_of_find?_eq_some hf)
def PzPost (w : World) (l : List Pz) (e : Ending) (w' : World) : Prop := ∃ v, e = .returned v ∧ w'.ownsRow w.heap.size 40 3 v l.length (cv Pz.v l) ∧ G w w'
theorem info40 : (Tryz.prog.info? 40).map (fun i => (i.zero, i.size, i.bytes)) = some (some (.agg #[.int .i64 0, .int .i64 0, .int .i64 0]), 3, 24) := by kernel_rfl
end Go.Proofs.YtnkmcoljijmgpaaGreat

