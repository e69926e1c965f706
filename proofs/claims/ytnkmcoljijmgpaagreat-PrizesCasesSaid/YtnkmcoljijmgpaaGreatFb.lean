import Derived.Maps.RangeWalk
import Derived.Sort.MapsRangeIn
import Derived.Test.YtnkmcoljijmgpaaGreatFa
set_option linter.unusedSimpArgs false
set_option linter.unusedVariables false
namespace Go.Proofs.YtnkmcoljijmgpaaGreat
open Go.RowKit Go.Shelf Go.Maps
attribute [local go_sem] Oper.semAt_some wide_fn wide_dep wideR_fn wideR_dep
section
variable {F : Fence} {n : Nat} {P : Program}
/-- a range over a function that goes through a map; the loop variable is a slot -/
theorem rangeFunc_varW {α : Type} {g : Operand} {tv : Tmp} {assign body : Code} {Q : Exit → Act → World → Prop} {a : Act} {w : World}
    (hro : F.round = none) (h1 : 1 ≤ n) {gf : Nat} {lb : Array Value} (hg : a.eval g = .func (.func gf) #[] lb) (hFg : F.fn gf) (eg : ∀ args w, (callFunc gf args).run P w = .ok (.enter gf args) w)
    {ev : α → Value} {S Sp : List α → Prop} {N : Nat} {w0 : World} (hseq : SeqStopsK F (n - 1) P gf lb (fun x => #[ev x]) KeepsWalks S Sp N w0)
    (hb0 : Below w0.heap.size w0 w)
    (I : List α → World → Prop) (Ix : Code → List α → World → Prop) (hI : OwnFrom w.heap.size I) (hIx : ∀ c, OwnFrom w.heap.size (Ix c)) (h0 : I [] w)
    (tb : Tmp)
    (hassign : ∀ (l : Nat) (x : α) (W : World) (K : Act → World → Prop), K { tmps := (a.tmps.setIfInBounds tv (ev x)).setIfInBounds tb (ev x), defers := [] } W →
      assign.wpIn (F.inRound l) (n - 1 - 1) P (Exit.then K (fun _ _ _ => False)) { tmps := a.tmps.setIfInBounds tv (ev x), defers := [] } W)
    (hbody : ∀ (l : Nat) (pre : List α) (x : α) (W : World), w.heap.size ≤ l → (∃ r, W.heap[l]? = some (.loop r)) → I pre W → pre.length < N →
      body.wpIn (F.inRound l) (n - 1 - 1) P (ownPostG w.heap.size KeepsWalks I Ix (pre ++ [x]) W) { tmps := (a.tmps.setIfInBounds tv (ev x)).setIfInBounds tb (ev x), defers := [] } W)
    (hdone : ∀ (D : Nat) (xs : List α) (W : World), w.heap.size ≤ D → S xs → I xs W → W.heap[D]? = some (.deferred (some [])) → Q .normal { a with defers := { target := .collected D, args := #[] } :: a.defers } W)
    (hstop : ∀ (D : Nat) (c : Code) (pre : List α) (W : World), w.heap.size ≤ D → Sp pre → Ix c pre W → W.heap[D]? = some (.deferred (some [])) → c.wpIn F n P Q { a with defers := { target := .collected D, args := #[] } :: a.defers } W) :
    (Code.rangeFunc g #[tv] assign body).wpIn F n P Q a w := by
  refine wpIn_rangeFunc_ownH hro h1 hg hFg eg hseq walksK_t walksK_b hb0 (fun _ => rfl) I Ix hI hIx h0
    (fun x a' _ => a' = { tmps := (a.tmps.setIfInBounds tv (ev x)).setIfInBounds tb (ev x), defers := [] })
    ?_ ?_ ?_ hdone hstop
  · rintro x a' _ X Y row h _ _
    exact h
  · intro l pre x W K hi hK
    have e : ((#[tv] : Array Tmp).zip #[ev x]).foldl (fun t (p, v) => t.setIfInBounds p v) a.tmps = a.tmps.setIfInBounds tv (ev x) := by simp
    rw [e]
    exact hassign l x W K (hK _ _ ((KeepsOthers.refl W).from _) (KeepsWalks.refl _) hi rfl)
  · rintro l pre x a' W hl hr hi rfl hN
    exact hbody l pre x W hl hr hi hN
end
/-- a map of numbers: a purse stands for a key (its owner) and a count (staked) -/
def ciD (x : Pu) : DataW Unit := .lit (.int .i64 x.staked)
def CnM (W : World) (m N : Nat) (ps : List Pu) : Prop := ∃ D : DataW Unit, W.ownsMap Tryz.prog 3 (plainElem Tryz.prog 3) m N D ∧ (∀ x : Int, has D (.int .i64 x) = ps.any fun p => p.owner == x) ∧ ∀ q, q ∈ ps → ∀ z, D.atKey (.int .i64 q.owner) z = ciD q
theorem CnM.made (W : World) : CnM (W.alloc (.map #[] 0)) W.heap.size 0 [] := ⟨_, World.ownsMap_made _ _ _ _, fun x => rfl, fun q h => by simp at h⟩
theorem CnM.keep {W W' : World} {m N : Nat} {ps : List Pu} (h : CnM W m N ps) (hG : G W W') : CnM W' m N ps := by
  obtain ⟨D, h1, h2⟩ := h
  refine ⟨D, ?_, h2⟩
  obtain ⟨es, clock, hb, F, hs, e⟩ := h1
  exact ⟨es, clock, (hG.block m (Array.getElem?_eq_some_iff.1 hb).1).trans hb, F, hs, e⟩
theorem CnM.fr {R : Nat → Prop} {W W' : World} {m N : Nat} {ps : List Pu} (h : CnM W m N ps) (hF : Fr R W W') (hn : ¬ R m) : CnM W' m N ps := by
  obtain ⟨D, h1, h2⟩ := h
  refine ⟨D, ?_, h2⟩
  obtain ⟨es, clock, hb, F, hs, e⟩ := h1
  exact ⟨es, clock, (hF.block m (Array.getElem?_eq_some_iff.1 hb).1 hn).trans hb, F, hs, e⟩
theorem CnM.grown {W W' : World} {m N : Nat} {ps : List Pu} {row : Option Nat} (h : CnM W m N ps) (hg : W.grownBy W' row) (hne : some m ≠ row) : CnM W' m N ps := by
  obtain ⟨D, h1, h2⟩ := h
  refine ⟨D, ?_, h2⟩
  obtain ⟨es, clock, hb, F, hs, e⟩ := h1
  exact ⟨es, clock, (hg.block m (Array.getElem?_eq_some_iff.1 hb).1 hne).trans hb, F, hs, e⟩
theorem CnM.lt {W : World} {m N : Nat} {ps : List Pu} (h : CnM W m N ps) : m < W.heap.size := by
  obtain ⟨D, h1, _⟩ := h
  exact h1.lt
theorem CnM.ne {W : World} {m N : Nat} {ps : List Pu} (h : CnM W m N ps) {g : Nat} {t : TypeId} {cs : Array Value} (hb : Blk W g t cs) : g ≠ m := fun e => by
  subst e
  obtain ⟨D, h1, _⟩ := h
  obtain ⟨es, clock, hm, _⟩ := h1
  rw [show W.heap[g]? = _ from hb] at hm
  cases hm
theorem CnM.isMap {W : World} {m N : Nat} {ps : List Pu} (h : CnM W m N ps) : ∃ es c, W.heap[m]? = some (.map es c) := by
  obtain ⟨D, h1, _⟩ := h
  obtain ⟨es, clock, hm, _⟩ := h1
  exact ⟨_, _, hm⟩
theorem CnM.store {W : World} {m N : Nat} {ps : List Pu} (h : CnM W m N ps) (q : Pu) (hx : -1000000000000 ≤ q.owner ∧ q.owner ≤ 1000000000000) (hc : -1000000000000 ≤ q.staked ∧ q.staked ≤ 1000000000000) (hn : N < maxLen) :
    ∃ W', (Instr.mapUpdate 90 (.map (some m)) (.int .i64 q.owner) (.int .i64 q.staked)).run Tryz.prog W = .ok () W' ∧ CnM W' m (N + 1) (putP ps q) ∧ W.grownBy W' (some m) := by
  obtain ⟨D, h1, h2, h3⟩ := h
  have hk := keyOf_int_mk (P := Tryz.prog) (k := 3) Tryz.underlying3 (wfI hx)
  obtain ⟨W', hrun, hown, hg⟩ := h1.update law3 Tryz.underlying90 hn hk (plainElem_int Tryz.underlying3 (wfI hc))
  have hkl : WideAt.IsKeyLit (.int .i64 q.owner) := law3.key hk
  have hinj : ∀ y : Int, y ≠ q.owner → (Lit.int .i64 y) ≠ .int .i64 q.owner := fun y hy e => hy (by injection e)
  refine ⟨W', hrun, ⟨_, hown, fun y => ?_, fun p hp z => ?_⟩, hg⟩
  · rw [putP_any]
    by_cases e : y = q.owner
    · subst e
      rw [has_put_same h1.isMap hkl]
      simp
    · rw [has_put_other (hinj y e), h2]
      simp [Ne.symm e]
  · rcases putP_mem hp with rfl | ⟨hp, hne⟩
    · exact atKey_put_same h1.isMap hkl _ _
    · rw [atKey_put_other (hinj _ hne)]
      exact h3 p hp z
theorem CnM.at {W : World} {m N : Nat} {ps : List Pu} (h : CnM W m N ps) {x : Int} (hx : -1000000000000 ≤ x ∧ x ≤ 1000000000000) (hz : (zeroValue 3).run Tryz.prog W = .ok (.int .i64 0) W) :
    (Instr.lookup 90 (.map (some m)) (.int .i64 x) false).run Tryz.prog W = .ok (.int .i64 (atP ps x).staked) W := by
  obtain ⟨D, h1, h2, h3⟩ := h
  have hk := keyOf_int_mk (P := Tryz.prog) (k := 3) Tryz.underlying3 (wfI hx)
  obtain ⟨c, hrun, hat, _⟩ := h1.lookup_int law3 Tryz.underlying90 Tryz.underlying3 hz hk
  have e : c = (atP ps x).staked := by
    unfold atP
    cases hf : ps.find? fun p => p.owner == x with
    | none =>
      have hno : has D (.int .i64 x) = false := by
        rw [h2]
        refine List.any_eq_false.2 fun q hq => ?_
        have := List.find?_eq_none.1 hf q hq
        simpa using this
      rw [atKey_of_not_has hno] at hat
      simp only [DataW.lit.injEq, Lit.int.injEq, true_and] at hat
      exact hat.symm
    | some q =>
      have h5 := h3 q (List.mem_of_find?_eq_some hf) (.lit (.int .i64 0))
      have h6 : q.owner = x := by simpa using List.find?_some hf
      rw [h6, hat] at h5
      unfold ciD at h5
      simp only [DataW.lit.injEq, Lit.int.injEq, true_and] at h5
      exact h5
  rw [← e]
  exact hrun
/-- a range over such a map under way -/
def CRng (W : World) (m r N : Nat) (ps qs : List Pu) (cnt : Nat) : Prop := ∃ (D : DataW Unit) (left : Lit → Bool), W.ranges Tryz.prog 3 (plainElem Tryz.prog 3) m r N D left cnt ∧ (∀ q, q ∈ ps → ∀ z, D.atKey (.int .i64 q.owner) z = ciD q) ∧ (∀ x : Int, left (.int .i64 x) = qs.any fun p => p.owner == x) ∧ ∀ q ∈ qs, q ∈ ps
theorem CRng.left_eq {W : World} {m r N : Nat} {ps qs : List Pu} {cnt : Nat} (h : CRng W m r N ps qs cnt) : W.rangeLeft m r = cnt := by
  obtain ⟨D, left, h1, _⟩ := h
  exact h1.left_eq
theorem CRng.kept {W W' : World} {m r N : Nat} {ps qs : List Pu} {cnt : Nat} (h : CRng W m r N ps qs cnt) (hk : KeepsWalks W W') : CRng W' m r N ps qs cnt := by
  obtain ⟨D, left, h1, h2⟩ := h
  exact ⟨D, left, h1.of_walks hk, h2⟩
theorem CRng.walk {W : World} {m r N : Nat} {ps qs : List Pu} {cnt : Nat} (h : CRng W m r N ps qs cnt) : ∃ o : Obj, W.heap[r]? = some o ∧ o.isWalk = true := by
  obtain ⟨D, left, ⟨es, clock, since, seen, c0, hb, F, hs, hD, hr, _⟩, _⟩ := h
  exact ⟨_, hr, rfl⟩
section
variable {F : Fence} {n : Nat} {ops : Array Oper} {rest : List Oper} {o : Oper} {a : Act} {Q : Exit → Act → World → Prop}
set_option maxRecDepth 100000 in
theorem wpListIn_range_cn (w : World) (hg : o.guard = none) (mo : Operand) (hop : o.op = Op.range 90 mo) {m N : Nat} {ps : List Pu} (hm : a.eval mo = .map (some m)) (hw : CnM w m N ps)
    (hK : ∀ w', CRng w' m w.heap.size N ps ps (w'.rangeLeft m w.heap.size) → w.grownBy w' none → w'.heap.size = w.heap.size + 1 → wpListIn F n Tryz.prog ops Q rest (a.put o.dst (.pointer (some ⟨w.heap.size, 0, none⟩))) w') :
    wpListIn F n Tryz.prog ops Q (o :: rest) a w := by
  obtain ⟨D, h1, h2, h3⟩ := hw
  refine wpListIn_range_own w hg mo 90 hop 3 3 law3 Tryz.underlying90 (plainElem Tryz.prog 3) m N D hm h1 (fun w' hr hgr hsz => hK w' ?_ hgr hsz)
  exact ⟨D, _, by rw [hr.left_eq]; exact hr, h3, h2, fun q h => h⟩
set_option maxRecDepth 100000 in
theorem wpListIn_next_cn (w : World) (hg : o.guard = none) (it : Operand) (hop : o.op = Op.next it false) {m r N : Nat} {ps qs : List Pu} {cnt : Nat} (hit : a.eval it = .pointer (some ⟨r, 0, none⟩)) (h : CRng w m r N ps qs cnt)
    (hDone : qs = [] → wpListIn F n Tryz.prog ops Q rest (a.put o.dst (.tuple #[.bool false])) w)
    (hMore : ∀ q : Pu, q ∈ qs → ∀ w' cnt', CRng w' m r N ps (qs.filter fun p => p.owner != q.owner) cnt' → cnt' < cnt → w.grownBy w' (some r) → w'.heap.size = w.heap.size → (Instr.entry (.pointer (some ⟨r, 0, none⟩))).run Tryz.prog w' = .ok (.tuple #[.int .i64 q.owner, .int .i64 q.staked]) w' → wpListIn F n Tryz.prog ops Q rest (a.put o.dst (.tuple #[.bool true, .int .i64 q.owner, .int .i64 q.staked])) w') :
    wpListIn F n Tryz.prog ops Q (o :: rest) a w := by
  obtain ⟨D, left, h1, h2, h3, h4⟩ := h
  refine wpListIn_next_ranges w hg it hop 3 law3 (plainElem Tryz.prog 3) (Value.int .i64) (Value.int .i64) (fun key kl hkey => by obtain ⟨x, rfl, _⟩ := Maps.keyOf_int_inv Tryz.underlying3 hkey; exact ⟨x, rfl⟩) (fun v y hv => by obtain ⟨c, rfl, _⟩ := plainElem_int_inv Tryz.underlying3 hv; exact ⟨c, rfl⟩) m r N D left cnt hit h1 (fun _ hl => hDone ?_) (fun x c kl y w' cnt' hkey hlx hR hat hr hlt hgr hsz hen => ?_)
  · rw [List.eq_nil_iff_forall_not_mem]
    intro q hq
    have e := h3 q.owner
    rw [hl] at e
    have e' := List.any_eq_false.1 e.symm q hq
    simp at e'
  · obtain ⟨x', hx', rfl, hwf⟩ := Maps.keyOf_int_inv Tryz.underlying3 hkey
    cases hx'
    rw [h3 x] at hlx
    obtain ⟨q, hq, hqx⟩ := List.any_eq_true.1 hlx
    have hqe : q.owner = x := by simpa using hqx
    obtain ⟨c', hc', hy'⟩ := plainElem_int_inv Tryz.underlying3 hR
    have hc := h2 q (h4 q hq) .nil
    rw [hqe, hat] at hc
    have hcq : c = q.staked := by
      injection hc' with _ e
      rw [hy'.1] at hc
      unfold ciD at hc
      simp only [DataW.lit.injEq, Lit.int.injEq, true_and] at hc
      rw [e, hc]
    subst hcq
    subst hqe
    refine hMore q hq w' cnt' ⟨D, _, hr, h2, fun y => ?_, fun p hp => h4 p (List.mem_filter.1 hp).1⟩ hlt hgr hsz hen
    simp only [h3]
    have hsk : (Lit.int .i64 y).sameKey (.int .i64 q.owner) = (y == q.owner) := by
      have := WideAt.sameKey_iff (a := .int .i64 y) (b := .int .i64 q.owner) (law3.key (keyOf_int_mk Tryz.underlying3 hwf))
      by_cases e : y = q.owner
      · subst e
        rw [this.2 rfl]
        simp
      · have h9 : ¬ (Lit.int .i64 y).sameKey (.int .i64 q.owner) = true := fun hh => e (by have := this.1 hh; injection this)
        rw [Bool.not_eq_true] at h9
        rw [h9]
        simp [e]
    rw [hsk, List.any_filter]
    by_cases e : y = q.owner
    · subst e
      simp
    · have hb : (y == q.owner) = false := by simpa using e
      rw [hb]
      simp only [Bool.not_false, Bool.and_true]
      congr 1
      funext p
      by_cases e2 : p.owner = y
      · subst e2
        simp [e]
      · simp [e2]
end
set_option maxRecDepth 100000 in
set_option maxHeartbeats 4000000 in
theorem keys_in (n : Nat) (hn : 1 ≤ n) (l Bm m N : Nat) (ps : List Pu) (hd : UniqP ps) (J Jx : List Pu → World → Prop)
    (W : World) (hJ : AbidesFrom W.heap.size J)
    (hY : ∀ pre x W1, J pre W1 → pre.length < ps.length → YieldAt Fence.wide (n - 1) Tryz.prog l #[.int .i64 x.owner] W1 fun e W' => (e = .returned (.bool true) ∧ J (pre ++ [x]) W' ∧ KeepsWalks W1 W') ∨ (e = .returned (.bool false) ∧ Jx (pre ++ [x]) W'))
    (hBm : Blk W Bm 90 #[.map (some m)]) (hm : CnM W m N ps) (h0 : J [] W) :
    CallsIn Fence.wide n Tryz.prog 87 #[.func (.yield l) #[] #[], .pointer (some ⟨Bm, 0, none⟩)] W fun e W' => (∃ v, e = .returned v) ∧ ((∃ xs : List Pu, xs.Perm ps ∧ J xs W') ∨ (∃ pre, True ∧ Jx pre W')) := by
  have m0 := hBm.cell 0
  have lB := hBm.lt
  refine callsIn_of_wp Tryz.func87 rfl trivial ?_ rfl
  simp only [Tryz.ntmps87, List.size_toArray, List.length_cons, List.length_nil, Nat.reduceAdd, Nat.reduceSub, Array.replicate_succ, Array.replicate_zero, List.push_toArray, List.append_toArray, List.nil_append, List.cons_append]
  gi_wp2_with (first | (gi_at_range; refine wpListIn_range_cn _ rfl _ rfl rfl hm ?_; intro w0 hrg0 hg0 hs0) | gi_in)
  go_frame
  have HY := Lib.hid hY
  clear hY hm m0 lB
  gi_loopw [3] (fun _ wr => ∃ (xs qs : List Pu) (cnt : Nat), CRng wr m W.heap.size N ps qs cnt ∧ Hid ((xs ++ qs).Perm ps) ∧ Hid (UniqP qs) ∧ Hid (J xs wr)) (fun _ wr => wr.rangeLeft m W.heap.size)
  case atStart => exact ⟨[], ps, _, hrg0, by show ([] ++ ps).Perm ps; exact List.Perm.refl _, hd, hJ _ _ _ none h0 hg0 (fun r e => by cases e)⟩
  case round =>
    clear hrg0
    obtain ⟨xs, qs, cnt, hrg, HP, HU, HJ⟩ := hrel
    obtain ⟨wo, rfl⟩ : ∃ wo, wo = wr := ⟨_, rfl⟩
    gi_wp2_with (first | (gi_at_next; refine wpListIn_next_cn _ rfl _ rfl rfl hrg ?_ ?_) | gi_in)
    · intro h0
      subst h0
      gi_wp2_with gi_in
      go_end0
      have := HP.out
      rw [List.append_nil] at this
      exact ⟨⟨_, rfl⟩, .inl ⟨xs, this, HJ.out⟩⟩
    · intro q hq w5 cnt5 hrg5 hlt5 hg5 hs5 hen
      have hj5 := hJ _ _ _ (some W.heap.size) HJ.out hg5 (fun r e => by cases e; exact ⟨Nat.le_refl _, hrg.walk⟩)
      have hfp := filter_permP HU.out hq
      have hlen : xs.length < ps.length := by
        have := HP.out.length_eq
        rw [List.length_append] at this
        have h2 : 0 < qs.length := List.length_pos_of_mem hq
        omega
      have HP2 : Hid ((xs ++ [q] ++ qs.filter fun p => p.owner != q.owner).Perm ps) := by
        refine List.Perm.trans ?_ HP.out
        rw [List.append_assoc]
        exact List.Perm.append_left _ hfp.symm
      have HU2 := Lib.hid (show UniqP (qs.filter fun p => p.owner != q.owner) from List.Pairwise.filter _ HU.out)
      obtain ⟨fn, tmps, assign, body, hy', hR⟩ := HY.out xs q _ hj5 hlen
      have hR2 := Lib.hid hR
      have hrg6 := hrg5
      clear hR hfp hj5 hq hs5 hg5
      obtain ⟨qs', hqs'⟩ : ∃ qs', qs' = qs.filter fun p => p.owner != q.owner := ⟨_, rfl⟩
      rw [← hqs'] at hrg6 HP2 HU2
      clear hqs' hrg5
      obtain ⟨qo, qst, qp⟩ := q
      dsimp only at *
      gi_wp2_with gi_in
      refine hR2.out.mono ?_
      rintro e W3 (⟨rfl, hJ3, hk3⟩ | ⟨rfl, hJx3⟩)
      · gi_wp2_with gi_in
        go_roundw
        case rel => exact ⟨_, qs', cnt5, hrg6.kept hk3, HP2.out, HU2.out, hJ3⟩
        case measure => rw [(hrg6.kept hk3).left_eq, hrg.left_eq]; exact hlt5
      · gi_wp2_with gi_in
        refine bodyPost_ret (results_none rfl _ _ _) rfl ?_
        exact ⟨⟨_, rfl⟩, .inr ⟨_, trivial, hJx3⟩⟩
theorem keys_stops (n : Nat) (hn : 1 ≤ n) (Bm m N : Nat) (ps : List Pu) (hd : UniqP ps) (w : World) (hBm : Blk w Bm 90 #[.map (some m)]) (hm : CnM w m N ps) :
    SeqStopsK Fence.wide n Tryz.prog 87 #[.pointer (some ⟨Bm, 0, none⟩)] (fun x : Pu => #[.int .i64 x.owner]) KeepsWalks (fun xs => xs.Perm ps) (fun _ => True) ps.length w :=
  fun l J Jx W hW hJ _ hY h0 => keys_in n hn l Bm m N ps hd J Jx W hJ hY (hBm.keep hW) (hm.keep hW) h0
theorem keys_any (m : Nat) (w : World) : Calls Tryz.prog 62 #[.map (some m)] w fun e w' => e = .returned (.func (.func 87) #[] #[.pointer (some ⟨w.heap.size, 0, none⟩)]) ∧ w' = w.alloc (.cells #[.map (some m)] 90) := by
  go_enter Tryz.func62, Tryz.ntmps62
  go_wp2
  go_ret
  exact ⟨rfl, rfl⟩
def KApInv (w : World) (pre : List Pu) (W : World) : Prop := ApInv w (pre.map Pu.owner) W
theorem kapInv_own (w : World) (B : Nat) (hB : w.heap.size + 1 ≤ B) : OwnFrom B (KApInv w) := fun pre X Y row h hg hrow => apInv_own w B hB (pre.map Pu.owner) X Y row h hg hrow
set_option maxRecDepth 100000 in
set_option maxHeartbeats 4000000 in
theorem kappend_in (n : Nat) (hn : 3 ≤ n) (Bm m N : Nat) (ps : List Pu) (hd : UniqP ps) (hlen : ps.length ≤ 1000) (w : World) (hBm : Blk w Bm 90 #[.map (some m)]) (hm : CnM w m N ps) :
    CallsIn Fence.wide n Tryz.prog 111 #[.slice none 0 0, .func (.func 87) #[] #[.pointer (some ⟨Bm, 0, none⟩)]] w fun e w' =>
      ∃ (v : Value) (l : List Pu), e = .returned v ∧ l.Perm ps ∧ w'.ownsRow w.heap.size 3 1 v l.length (iv (l.map Pu.owner)) ∧ G w w' := by
  refine callsIn_of_wp_marks Tryz.func111 rfl trivial ?_ rfl
  simp only [Tryz.ntmps111, List.size_toArray, List.length_cons, List.length_nil, Nat.reduceAdd, Nat.reduceSub, Array.replicate_succ, Array.replicate_zero, List.push_toArray, List.append_toArray, List.nil_append, List.cons_append]
  gi_wp2
  refine rangeFunc_varW (F := Fence.wide) (α := Pu) (gf := 87) (lb := #[.pointer (some ⟨Bm, 0, none⟩)]) rfl (by omega) rfl trivial (enters_of Tryz.func87 (by kernel_rfl) rfl)
    (ev := fun x => .int .i64 x.owner) (keys_stops (n - 1) (by omega) Bm m N ps hd (w.alloc (.cells #[.slice none 0 0] 24)) (hBm.alloc _) (hm.keep ((G.rf _).a _)))
    (Below.refl _ _) (KApInv w) (fun _ _ _ => False) (kapInv_own _ _ (by simp)) (fun _ _ _ _ _ h _ _ => h) ?h0 5 ?assign ?body ?done ?stop
  case h0 => exact ⟨_, Blk.new _ _ _, World.ownsRow_nil _ _ _ _, (G.rf _).a _, by simp⟩
  case assign =>
    intro l x W K hK
    gi_wp2
    exact hK
  case body =>
    rintro l pre x W hl hrec hpi hN
    obtain ⟨v, b1, hr, hG, hs⟩ := hpi
    have hln : (pre.map Pu.owner).length = pre.length := List.length_map ..
    rw [hln] at hr
    have hsn : iv ((pre ++ [x]).map Pu.owner) = (pre.map Pu.owner).map (Value.int .i64) ++ [.int .i64 x.owner] := by simp [iv]
    obtain ⟨i0, hi0, hz0, hz1, hz2⟩ := info_parts info3
    have c0 := b1.cell 0
    have lA := b1.lt
    have nA := own_ne hr b1 (by decide)
    gi_wp2_with (gi_at_builtin; refine wpListIn_append_own _ rfl _ _ 24 rfl (w.heap.size + 1) 3 i0 (.int .i64 0) 1 8 Tryz.underlying24 hi0 hz0 hz1 hz2 rfl (by decide) _ _ _ rfl (hr.alloc _) ⟨W.heap.size, 0, none⟩ 1 1 [.int .i64 x.owner] rfl rfl (cell_one_new _ _ _) (by simp [Value.oneCell']) (by unfold maxLen; omega) (by omega) (by simp; omega) ?_; intro v' w3 hown' hg3 hnil3; have b3 := (b1.alloc (.cells #[.int .i64 x.owner] 3)).grown hg3 nA; have c3 := b3.cell 0; have z3 := b3.frozen 0; obtain ⟨g', cap', rfl⟩ : ∃ g' cap', v' = .slice (some ⟨g', 0, none⟩) (pre.length + 1) cap' := (by
         rcases hown'.2 with ⟨_, h0⟩ | ⟨g', cap', _, h1, _⟩
         · exact absurd h0 (by omega)
         · exact ⟨g', cap', h1⟩); go_frame)
    have bE := b3.set_ 0 (.slice (some ⟨g', 0, none⟩) (pre.length + 1) cap')
    have hownE := hown'.kept (grownBy_set w3 ⟨w.heap.size, 0, none⟩ (.slice (some ⟨g', 0, none⟩) (pre.length + 1) cap')) (.inr (own_ne hown' b3 (by decide)).symm)
    have frE : Fr (fun i => i = w.heap.size ∨ v.ownBlock = some i) W (w3.setCell ⟨w.heap.size, 0, none⟩ (.slice (some ⟨g', 0, none⟩) (pre.length + 1) cap')) :=
      (((Fr.rf _ W).a _).grown hg3 (fun g e => .inl (.inr e))).s (.inl (.inl rfl)) _
    generalize w3.setCell ⟨w.heap.size, 0, none⟩ (.slice (some ⟨g', 0, none⟩) (pre.length + 1) cap') = wE at *
    have hB3 : ∀ i, v.ownBlock = some i → w.heap.size + 1 ≤ i := fun i h => own_base hr h
    have hcs : ∀ i, (i = w.heap.size ∨ v.ownBlock = some i) → i < W.heap.size → ∃ c t f, W.heap[i]? = some (.cells c t f) := by
      rintro i (rfl | h) _
      · exact ⟨_, _, _, b1⟩
      · exact own_cells hr h
    refine ⟨frE.keeps hcs _, ⟨frE.size, fun i o hi ho => ?_⟩, ?_⟩
    · refine (frE.block i (Array.getElem?_eq_some_iff.1 hi).1 (fun e => ?_)).trans hi
      obtain ⟨c, t, f, h5⟩ := hcs i e (Array.getElem?_eq_some_iff.1 hi).1
      rw [h5] at hi
      cases hi
      cases ho
    · have hlen2 : ((pre ++ [x]).map Pu.owner).length = pre.length + 1 := by simp
      refine (show ApInv w ((pre ++ [x]).map Pu.owner) wE from ⟨_, bE, by rw [hlen2, show (((pre ++ [x]).map Pu.owner).map (Value.int .i64)) = _ from hsn]; exact hownE, ((G.fr (R := fun _ => False) hG).t2 frE (fun i hi h => ?_)).toG (fun _ _ h => h), Nat.le_trans hs frE.size⟩)
      rcases h with h | h
      · omega
      · have := hB3 _ h; omega
  case done =>
    rintro D xs W hD hS hpi hDef
    obtain ⟨v, b1, hr, hG, hs⟩ := hpi
    have c0 := b1.cell 0
    gi_wp2
    refine ⟨by simp, .inl ⟨_, _, rfl, run_takeDeferred hDef, ?_⟩⟩
    refine ⟨_, results_tmp rfl _ _ _, _, xs, rfl, hS, ?_, ?_⟩
    · rw [show xs.length = (xs.map Pu.owner).length from (List.length_map ..).symm]
      exact own_weaken (ownsRow_kept' (row := some D) hr ⟨rfl, rfl, rfl, by simp [World.putObj], fun i _ hn => World.putObj_heap_other (fun e => hn (by rw [e]))⟩ (fun r e => by cases e; exact ⟨_, hDef, rfl⟩)) (by omega)
    · have hf : Fr (fun i => i = D) W (W.putObj D (.deferred none)) := ⟨rfl, rfl, rfl, by simp [World.putObj], fun i _ hn => World.putObj_heap_other hn⟩
      refine ((G.fr (R := fun _ => False) hG).t2 hf (fun i hi h => ?_)).toG (fun _ _ h => h)
      simp at hD
      omega
  case stop =>
    rintro D c pre W _ _ h _
    exact h.elim
theorem kcollect_any (Bm m N : Nat) (ps : List Pu) (hd : UniqP ps) (hlen : ps.length ≤ 1000) (w : World) (hBm : Blk w Bm 90 #[.map (some m)]) (hm : CnM w m N ps) :
    Calls Tryz.prog 85 #[.func (.func 87) #[] #[.pointer (some ⟨Bm, 0, none⟩)]] w fun e w' => ∃ (v : Value) (l : List Pu), e = .returned v ∧ l.Perm ps ∧ w'.ownsRow w.heap.size 3 1 v l.length (iv (l.map Pu.owner)) ∧ G w w' := by
  have HA := Lib.hid ((callsIn_wide (n := 3)).1 (kappend_in 3 (by omega) Bm m N ps hd hlen w hBm hm))
  go_enter Tryz.func85, Tryz.ntmps85
  go_wp2_with (go_at_call 111; refine HA.out.mono ?_; rintro e w1 ⟨v, l, rfl, hp, ho, hG⟩)
  go_ret
  exact ⟨v, l, rfl, hp, ho, hG⟩
theorem sortL_eq {l l' : List Int} (h : l.Perm l') : sortL l = sortL l' :=
  List.Perm.eq_of_pairwise (le := fun a b : Int => a ≤ b) (fun a b _ _ h1 h2 => by omega) (sortL_pw l) (sortL_pw l') (((sortL_perm l).trans h).trans (sortL_perm l').symm)
/-- slices.Sorted at the keys of a map -/
theorem ksorted_any (Bm m N : Nat) (ps : List Pu) (hd : UniqP ps) (hlen : ps.length ≤ 1000) (w : World) (hBm : Blk w Bm 90 #[.map (some m)]) (hm : CnM w m N ps) :
    Calls Tryz.prog 61 #[.func (.func 87) #[] #[.pointer (some ⟨Bm, 0, none⟩)]] w fun e w' => ∃ v, e = .returned v ∧ w'.ownsRow w.heap.size 3 1 v ps.length (iv (sortL (ps.map Pu.owner))) ∧ G w w' := by
  have HC := Lib.hid (kcollect_any Bm m N ps hd hlen w hBm hm)
  have HL := Lib.hid hlen
  clear hd hlen hm
  go_enter Tryz.func61, Tryz.ntmps61
  go_wp2_with (first | (go_at_call 85; refine HC.out.mono ?_; rintro e w1 ⟨v, l, rfl, hp, ho, hG⟩) | (go_at_call 86; refine (sortI_own (l.map Pu.owner) (by rw [List.length_map, hp.length_eq]; exact HL.out) _ _ _ (by rw [List.length_map]; exact ho)).mono ?_; rintro e w2 ⟨rfl, ho2, hg2⟩))
  go_ret
  refine ⟨v, rfl, ?_, grow_own hG ho (Nat.le_refl _) hg2⟩
  rw [List.length_map, hp.length_eq, sortL_eq (hp.map Pu.owner)] at ho2
  exact ho2
end Go.Proofs.YtnkmcoljijmgpaaGreat
