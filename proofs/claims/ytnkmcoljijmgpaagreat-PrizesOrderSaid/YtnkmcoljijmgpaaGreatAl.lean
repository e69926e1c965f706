import Derived.Lib.SliceRun
import Derived.Test.YtnkmcoljijmgpaaGreatAk
set_option linter.unusedSimpArgs false
set_option linter.unusedVariables false
namespace Go.Proofs.YtnkmcoljijmgpaaGreat
open Go.RowKit Go.Shelf Go.Sort
attribute [local go_sem] Oper.semAt_some
set_option maxRecDepth 100000 in
set_option maxHeartbeats 4000000 in
theorem IdxRc_ex (C : FuncId) (eg : ∀ args w, (callFunc C args).run Tryz.prog w = .ok (.enter C args) w) (lb : Array Value) (W : World) (a : Option Addr) (cap : Nat) (l : List Rc) (p : Nat → Bool) (hn : l.length ≤ 1000) (ha : RowE Rc.v 5 W a l)
    (hc : ∀ W', G W W' → ∀ i, i < l.length → Calls Tryz.prog C (#[.agg (l.getD i default).v] ++ lb) W' fun e w' => e = .returned (.bool (p i)) ∧ G W' w') :
    Calls Tryz.prog 118 #[.slice a l.length cap, .func (.func C) #[] lb] W fun e w' => ∃ r : Int, e = .returned (.int .i64 r) ∧ ((r = -1 ∧ ∀ j, j < l.length → p j = false) ∨ ∃ k : Nat, r = (k : Int) ∧ k < l.length ∧ p k = true ∧ ∀ j, j < k → p j = false) ∧ G W w' := by
  have HC := Lib.hid hc
  clear hc
  go_enter Tryz.func118, Tryz.ntmps118
  go_wp2
  go_loopw [8] (fun i wr => ∃ k : Nat, k ≤ l.length ∧ i = .int .i64 k ∧ Hid (∀ j, j < k → p j = false) ∧ G W wr) (fun i _ => l.length - (intOf i).toNat)
  case atStart => exact ⟨0, Nat.zero_le _, rfl, fun j hj => by omega, G.rf _⟩
  case round =>
    obtain ⟨k, hk, rfl, hno, hG⟩ := hrel
    by_cases hlt : k < l.length
    · have hki : (k : Int) < l.length := by omega
      rcases ha with h | ⟨g, off, rfl, hg, hcell⟩
      · omega
      have lg := Nat.lt_of_lt_of_le hg hG.size
      have hcl := fun r hr => ((bcellB hG).1 g _ hg).trans (hcell k hlt r hr)
      have HC2 := Lib.hid (HC.out wr hG k hlt)
      obtain ⟨y, hy⟩ : ∃ y, y = l.getD k default := ⟨_, rfl⟩
      rw [← hy] at hcl HC2
      clear hy
      obtain ⟨ybird, yowner, yrank, yday, ypa, ypc, ypools⟩ := y
      unfold Rc.v at HC2 hcl
      have q0 : wr.cell? ⟨g, off + k * 5, none⟩ = some (.int .i64 ybird) := hcl 0 (by omega)
      have q1 : wr.cell? ⟨g, off + k * 5 + 1, none⟩ = some (.int .i64 yowner) := hcl 1 (by omega)
      have q2 : wr.cell? ⟨g, off + k * 5 + 2, none⟩ = some (.int .i64 yrank) := hcl 2 (by omega)
      have q3 : wr.cell? ⟨g, off + k * 5 + 3, none⟩ = some (.int .i64 yday) := hcl 3 (by omega)
      have q4 : wr.cell? ⟨g, off + k * 5 + 4, none⟩ = some (.slice ypa ypools.length ypc) := hcl 4 (by omega)
      clear hcl
      clear hcell HC
      cases hp : p k
      · rw [hp] at HC2
        have HP := Lib.hid hp
        clear hp
        go_wp2_with (go_at_fn C; refine (HC2.out).mono ?_; rintro e w1 ⟨rfl, hG1⟩)
        go_roundw
        case rel => exact ⟨k + 1, by omega, by go_num, fun j hj => by
          rcases Nat.lt_or_ge j k with h | h
          · exact hno.out j h
          · obtain rfl : j = k := by omega
            exact HP.out, hG.t hG1⟩
        case measure => simp [intOf] <;> omega
      · rw [hp] at HC2
        have HP := Lib.hid hp
        clear hp
        go_wp2_with (go_at_fn C; refine (HC2.out).mono ?_; rintro e w1 ⟨rfl, hG1⟩)
        go_ret
        exact ⟨k, rfl, .inr ⟨k, rfl, hlt, HP.out, hno.out⟩, hG.t hG1⟩
    · have hki : ¬ (k : Int) < l.length := by omega
      obtain rfl : k = l.length := by omega
      go_wp2
      go_ret
      exact ⟨-1, rfl, .inl ⟨rfl, hno.out⟩, hG⟩
theorem Blk.setMany {g : Nat} {t : TypeId} : ∀ (vs : List Value) (o : Nat) (W : World) (cs : Array Value), Blk W g t cs → Blk (W.setCells g o vs) g t (setMany cs o vs)
  | [], _, _, _, h => h
  | v :: r, o, W, cs, h => Blk.setMany r (o + 1) _ _ (h.set_ o v)
theorem G_setCells {w0 : World} {g : Nat} (hg : w0.heap.size ≤ g) : ∀ (vs : List Value) (o : Nat) (W : World), G w0 W → G w0 (W.setCells g o vs)
  | [], _, _, h => h
  | v :: r, o, W, h => G_setCells hg r (o + 1) _ (h.s (p := ⟨g, o, none⟩) hg v)
theorem many_get {cs : Array Value} {o : Nat} {vs : List Value} {t : Nat} (h : t < cs.size) : (setMany cs o vs)[t]? = if o ≤ t ∧ t < o + vs.length then vs[t - o]? else cs[t]? := by
  have e := get_setMany vs o cs t h
  have h2 : t < (setMany cs o vs).size := by rw [size_setMany]; exact h
  rw [getElem!_pos _ t h2] at e
  rw [Array.getElem?_eq_getElem h2, e]
  by_cases hc : o ≤ t ∧ t < o + vs.length
  · rw [if_pos hc, if_pos hc]
    have h3 : t - o < vs.length := by omega
    rw [getElem!_pos vs _ h3, List.getElem?_eq_getElem h3]
  · rw [if_neg hc, if_neg hc, getElem!_pos cs t h, Array.getElem?_eq_getElem h]
theorem blk_has {W : World} {g : Nat} {t : TypeId} {cs : Array Value} (h : Blk W g t cs) {i : Nat} (hi : i < cs.size) : (W.cell? ⟨g, i, none⟩).isSome = true := by
  rw [h.cell i, Array.getElem?_eq_getElem hi]
  rfl
/-- a whole store at a place of a row of one's own -/
theorem wpList_storeC {w : World} {ops : Array Oper} {rest : List Oper} {o : Oper} {a : Act} {Q : Exit → Act → World → Prop} (g off T : Nat) (d s : Operand) (vs : List Value) {cs : Array Value} {t : TypeId} (hgd : o.guard = none) (ho : o.op = .store T d s) (hv : a.eval d = .pointer (some ⟨g, off, none⟩)) (hs : a.eval s = .agg vs.toArray) (hsz : ∀ w, (Go.sizeOf T).run Tryz.prog w = .ok vs.length w) (hB : Blk w g t cs) (hin : off + vs.length ≤ cs.size) (h1 : ∀ v ∈ vs, v.oneCell' = true)
    (h : wpList Tryz.prog ops Q rest (a.put o.dst undef) (w.setCells g off vs)) : wpList Tryz.prog ops Q (o :: rest) a w := by
  refine wpList_plain hgd fun K hK => ?_
  have hst := run_storeCells_cells (P := Tryz.prog) g off vs 0 w (fun j hj => by rw [Nat.add_zero]; exact blk_has hB (by omega)) (fun j hj => hB.frozen _) h1
  rw [Nat.add_zero] at hst
  unfold Oper.wp
  have he : (execOp a.eval o).run Tryz.prog w = .ok .skip (w.setCells g off vs) := by
    unfold execOp
    simp only [ho, hv, hs]
    have hz := hsz w
    go_simp
  rw [he]
  exact hK _ _ h
/-- what is kept of the first j -/
def keep (p : Rc → Bool) (l : List Rc) (j : Nat) : List Rc := (l.take j).filter fun x => !p x
theorem keep_succ (p : Rc → Bool) (l : List Rc) {j : Nat} (h : j < l.length) : keep p l (j + 1) = if p (l.getD j default) = true then keep p l j else keep p l j ++ [l.getD j default] := by
  unfold keep
  rw [List.take_add_one, List.filter_append, List.getElem?_eq_getElem h]
  have e : l.getD j default = l[j] := by simp [List.getD_eq_getElem?_getD, h]
  rw [e]
  cases hv : p l[j] <;> simp [hv]
theorem keep_len (p : Rc → Bool) (l : List Rc) (j : Nat) : (keep p l j).length ≤ j := by
  unfold keep
  exact Nat.le_trans (List.length_filter_le _ _) (by rw [List.length_take]; omega)
theorem keep_all (p : Rc → Bool) (l : List Rc) (j : Nat) (h : ∀ i, i < j → p (l.getD i default) = false) (hj : j ≤ l.length) : keep p l j = l.take j := by
  unfold keep
  apply List.filter_eq_self.2
  intro x hx
  obtain ⟨i, hi, rfl⟩ := List.mem_iff_getElem.1 hx
  rw [List.length_take] at hi
  have := h i (by omega)
  rw [List.getElem_take]
  simp [List.getD_eq_getElem?_getD, show i < l.length by omega] at this
  simp [this]
theorem keep_full (p : Rc → Bool) (l : List Rc) : keep p l l.length = l.filter fun x => !p x := by unfold keep; rw [List.take_length]
/-- the row while DeleteFunc works: the first ones are those kept, from j on it is as it was -/
structure DelAt (W : World) (g cap : Nat) (p : Rc → Bool) (l : List Rc) (j : Nat) (cur : Array Value) : Prop where
  blk : Blk W g 60 cur
  sz : cur.size = cap * 5
  done : ∀ t, t < (keep p l j).length → ∀ r, r < 5 → cur[t * 5 + r]? = (rcE ((keep p l j).getD t default))[r]?
  rest : ∀ t, j ≤ t → t < l.length → ∀ r, r < 5 → cur[t * 5 + r]? = (rcE (l.getD t default))[r]?
theorem DelAt.keepG {W W' : World} {g cap j : Nat} {p : Rc → Bool} {l : List Rc} {cur : Array Value} (h : DelAt W g cap p l j cur) (hG : G W W') : DelAt W' g cap p l j cur := ⟨h.blk.keep hG, h.sz, h.done, h.rest⟩
theorem DelAt.skip {W : World} {g cap j : Nat} {p : Rc → Bool} {l : List Rc} {cur : Array Value} (h : DelAt W g cap p l j cur) (hj : j < l.length) (hp : p (l.getD j default) = true) : DelAt W g cap p l (j + 1) cur :=
  ⟨h.blk, h.sz, by rw [keep_succ p l hj, if_pos hp]; exact h.done, fun t a b => h.rest t (by omega) b⟩
theorem DelAt.put {W : World} {g cap j : Nat} {p : Rc → Bool} {l : List Rc} {cur : Array Value} (h : DelAt W g cap p l j cur) (hj : j < l.length) (hc : l.length ≤ cap) (hp : p (l.getD j default) = false) :
    DelAt (W.setCells g ((keep p l j).length * 5) (rcE (l.getD j default))) g cap p l (j + 1) (setMany cur ((keep p l j).length * 5) (rcE (l.getD j default))) := by
  have hk := keep_len p l j
  have hs := h.sz
  refine ⟨Blk.setMany _ _ _ _ h.blk, by rw [size_setMany]; exact hs, ?_, ?_⟩
  · rw [keep_succ p l hj, if_neg (by rw [hp]; simp)]
    intro t ht r hr
    rw [List.length_append, List.length_singleton] at ht
    rw [many_get (by omega), rcE_len]
    by_cases h1 : t < (keep p l j).length
    · rw [if_neg (by omega), h.done t h1 r hr]
      simp [List.getD_eq_getElem?_getD, List.getElem?_append_left h1]
    · obtain rfl : t = (keep p l j).length := by omega
      rw [if_pos (by omega), show (keep p l j).length * 5 + r - (keep p l j).length * 5 = r by omega]
      simp [List.getD_eq_getElem?_getD]
  · intro t ht1 ht2 r hr
    rw [many_get (by omega), rcE_len, if_neg (by omega)]
    exact h.rest t (by omega) ht2 r hr
theorem DelAt.start {W : World} {g cap k : Nat} {p : Rc → Bool} {l : List Rc} {cur : Array Value} (hB : Blk W g 60 cur) (hs : cur.size = cap * 5) (ht : cur.toList.take (l.length * 5) = rcV l) (hk : k < l.length) (hp : p (l.getD k default) = true) (hn : ∀ i, i < k → p (l.getD i default) = false) :
    (keep p l (k + 1)).length = k ∧ DelAt W g cap p l (k + 1) cur := by
  have hget : ∀ t, t < l.length → ∀ r, r < 5 → cur[t * 5 + r]? = (rcE (l.getD t default))[r]? := fun t ht1 r hr => by
    have e := rcV_get l ht1 hr
    have h5 : (cur.toList.take (l.length * 5))[t * 5 + r]? = (rcV l)[t * 5 + r]? := by rw [ht]
    rw [List.getElem?_take_of_lt (by omega)] at h5
    rw [← Array.getElem?_toList, h5, e]
  have hk1 : keep p l (k + 1) = l.take k := by rw [keep_succ p l hk, if_pos hp, keep_all p l k hn (by omega)]
  have hkl : (l.take k).length = k := by rw [List.length_take]; omega
  refine ⟨by rw [hk1, hkl], ⟨hB, hs, ?_, fun t _ b => hget t b⟩⟩
  rw [hk1]
  intro t ht1 r hr
  rw [hkl] at ht1
  rw [hget t (by omega) r hr]
  simp [List.getD_eq_getElem?_getD, List.getElem?_take_of_lt ht1]
/-- the end: the kept ones' row -/
theorem DelAt.fin {W W' : World} {g cap B c : Nat} {p : Rc → Bool} {l : List Rc} {cur : Array Value} (h : DelAt W g cap p l l.length cur) (hg : B ≤ g) (h1 : l.length ≤ cap) (h2 : cap ≤ maxLen) (vs : List Value) (hW : W' = W.setCells g ((keep p l l.length).length * 5) vs) :
    W'.ownsRow B 60 5 (.slice (some ⟨g, 0, none⟩) (keep p l l.length).length cap) (keep p l l.length).length (rcV (keep p l l.length)) := by
  subst hW
  have hk := keep_len p l l.length
  have hs := h.sz
  refine ⟨rcV_len _, .inr ⟨g, cap, _, rfl, hg, Blk.setMany vs _ _ _ h.blk, by omega, h2, by rw [size_setMany]; exact hs, ?_⟩⟩
  apply List.ext_getElem?
  intro t
  by_cases ht : t < (keep p l l.length).length * 5
  · rw [List.getElem?_take_of_lt ht, Array.getElem?_toList, many_get (by omega), if_neg (by omega)]
    have e := h.done (t / 5) (by omega) (t % 5) (by omega)
    have e2 := rcV_get (keep p l l.length) (i := t / 5) (r := t % 5) (by omega) (by omega)
    rw [show t / 5 * 5 + t % 5 = t by omega] at e e2
    rw [e, e2]
  · rw [List.getElem?_take_eq_none (by omega), List.getElem?_eq_none (by rw [rcV_len]; omega)]
end Go.Proofs.YtnkmcoljijmgpaaGreat
