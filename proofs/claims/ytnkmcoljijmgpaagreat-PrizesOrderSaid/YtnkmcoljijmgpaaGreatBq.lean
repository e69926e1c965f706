import Derived.Test.YtnkmcoljijmgpaaGreatBp
set_option linter.unusedSimpArgs false
set_option linter.unusedVariables false
namespace Go.Proofs.YtnkmcoljijmgpaaGreat
open Go.RowKit Go.Shelf Go.Maps
attribute [local go_sem] Oper.semAt_some wide_fn wide_dep wideR_fn wideR_dep
section
variable {F : Fence} {n : Nat} {P : Program}
/-- a range over a function that goes through a map; the loop variable is boxed -/
theorem rangeFunc_boxW {α : Type} {g : Operand} {tv : Tmp} {assign body : Code} {Q : Exit → Act → World → Prop} {a : Act} {w : World}
    (hro : F.round = none) (h1 : 1 ≤ n) {gf : Nat} {lb : Array Value} (hg : a.eval g = .func (.func gf) #[] lb) (hFg : F.fn gf) (eg : ∀ args w, (callFunc gf args).run P w = .ok (.enter gf args) w)
    {ev : α → Value} {S Sp : List α → Prop} {N : Nat} {w0 : World} (hseq : SeqStopsK F (n - 1) P gf lb (fun x => #[ev x]) KeepsWalks S Sp N w0)
    (hb0 : Below w0.heap.size w0 w)
    (I : List α → World → Prop) (Ix : Code → List α → World → Prop) (hI : OwnFrom w.heap.size I) (hIx : ∀ c, OwnFrom w.heap.size (Ix c)) (hIs : ∀ pre W, I pre W → w.heap.size ≤ W.heap.size) (h0 : I [] w)
    (tb : Tmp) (tt : TypeId) (bx : α → Array Value)
    (hassign : ∀ (l : Nat) (x : α) (W : World) (K : Act → World → Prop), K { tmps := (a.tmps.setIfInBounds tv (ev x)).setIfInBounds tb (.pointer (some ⟨W.heap.size, 0, none⟩)), defers := [] } (W.alloc (.cells (bx x) tt)) →
      assign.wpIn (F.inRound l) (n - 1 - 1) P (Exit.then K (fun _ _ _ => False)) { tmps := a.tmps.setIfInBounds tv (ev x), defers := [] } W)
    (hbody : ∀ (l : Nat) (pre : List α) (x : α) (Bp : Nat) (W : World), w.heap.size ≤ l → (∃ r, W.heap[l]? = some (.loop r)) → I pre W → w.heap.size ≤ Bp → Blk W Bp tt (bx x) → pre.length < N →
      body.wpIn (F.inRound l) (n - 1 - 1) P (ownPostG w.heap.size KeepsWalks I Ix (pre ++ [x]) W) { tmps := (a.tmps.setIfInBounds tv (ev x)).setIfInBounds tb (.pointer (some ⟨Bp, 0, none⟩)), defers := [] } W)
    (hdone : ∀ (D : Nat) (xs : List α) (W : World), w.heap.size ≤ D → S xs → I xs W → W.heap[D]? = some (.deferred (some [])) → Q .normal { a with defers := { target := .collected D, args := #[] } :: a.defers } W)
    (hstop : ∀ (D : Nat) (c : Code) (pre : List α) (W : World), w.heap.size ≤ D → Sp pre → Ix c pre W → W.heap[D]? = some (.deferred (some [])) → c.wpIn F n P Q { a with defers := { target := .collected D, args := #[] } :: a.defers } W) :
    (Code.rangeFunc g #[tv] assign body).wpIn F n P Q a w := by
  refine wpIn_rangeFunc_ownH hro h1 hg hFg eg hseq walksK_t walksK_b hb0 (fun _ => rfl) I Ix hI hIx h0
    (fun x a' W => ∃ Bp, w.heap.size ≤ Bp ∧ Blk W Bp tt (bx x) ∧ a' = { tmps := (a.tmps.setIfInBounds tv (ev x)).setIfInBounds tb (.pointer (some ⟨Bp, 0, none⟩)), defers := [] })
    ?_ ?_ ?_ hdone hstop
  · rintro x a' _ X Y row ⟨Bp, h1, h2, h3⟩ hg' hr
    exact ⟨Bp, h1, blk_own Bp tt (fun _ : Unit => bx x) () X Y row h2 hg' (fun r e => (hr r e).2), h3⟩
  · intro l pre x W K hi hK
    have e : ((#[tv] : Array Tmp).zip #[ev x]).foldl (fun t (p, v) => t.setIfInBounds p v) a.tmps = a.tmps.setIfInBounds tv (ev x) := by simp
    rw [e]
    refine hassign l x W K (hK _ _ ((KeepsOthers.alloc W _).from _) ?_ (hI.alloc _ hi) ⟨W.heap.size, hIs _ _ hi, Blk.new _ _ _, rfl⟩)
    exact KeepsWalks.alloc W _
  · rintro l pre x a' W hl hr hi ⟨Bp, h1, h2, rfl⟩ hN
    exact hbody l pre x Bp W hl hr hi h1 h2 hN
end
/-- a range over a map of purses under way -/
def PRng (W : World) (m r N : Nat) (ps qs : List Pu) (cnt : Nat) : Prop := ∃ (D : DataW Unit) (left : Lit → Bool), W.ranges Tryz.prog 3 puR m r N D left cnt ∧ (∀ q, q ∈ ps → ∀ z, D.atKey (.int .i64 q.owner) z = puD q) ∧ (∀ x : Int, left (.int .i64 x) = qs.any fun p => p.owner == x) ∧ ∀ q ∈ qs, q ∈ ps
theorem PRng.left_eq {W : World} {m r N : Nat} {ps qs : List Pu} {cnt : Nat} (h : PRng W m r N ps qs cnt) : W.rangeLeft m r = cnt := by
  obtain ⟨D, left, h1, _⟩ := h
  exact h1.left_eq
theorem PRng.kept {W W' : World} {m r N : Nat} {ps qs : List Pu} {cnt : Nat} (h : PRng W m r N ps qs cnt) (hk : KeepsWalks W W') : PRng W' m r N ps qs cnt := by
  obtain ⟨D, left, h1, h2⟩ := h
  exact ⟨D, left, h1.of_walks hk, h2⟩
theorem PRng.walk {W : World} {m r N : Nat} {ps qs : List Pu} {cnt : Nat} (h : PRng W m r N ps qs cnt) : ∃ o : Obj, W.heap[r]? = some o ∧ o.isWalk = true := by
  obtain ⟨D, left, ⟨es, clock, since, seen, c0, hb, F, hs, hD, hr, _⟩, _⟩ := h
  exact ⟨_, hr, rfl⟩
section
variable {F : Fence} {n : Nat} {ops : Array Oper} {rest : List Oper} {o : Oper} {a : Act} {Q : Exit → Act → World → Prop}
set_option maxRecDepth 100000 in
theorem wpListIn_range_pu (w : World) (hg : o.guard = none) (mo : Operand) (hop : o.op = Op.range 93 mo) {m N : Nat} {ps : List Pu} (hm : a.eval mo = .map (some m)) (hw : PuM w m N ps)
    (hK : ∀ w', PRng w' m w.heap.size N ps ps (w'.rangeLeft m w.heap.size) → w.grownBy w' none → w'.heap.size = w.heap.size + 1 → wpListIn F n Tryz.prog ops Q rest (a.put o.dst (.pointer (some ⟨w.heap.size, 0, none⟩))) w') :
    wpListIn F n Tryz.prog ops Q (o :: rest) a w := by
  obtain ⟨D, h1, h2, h3⟩ := hw
  refine wpListIn_range_own w hg mo 93 hop 3 47 law3 Tryz.underlying93 puR m N D hm h1 (fun w' hr hgr hsz => hK w' ?_ hgr hsz)
  exact ⟨D, _, by rw [hr.left_eq]; exact hr, h3, h2, fun q h => h⟩
set_option maxRecDepth 100000 in
theorem wpListIn_next_pu (w : World) (hg : o.guard = none) (it : Operand) (hop : o.op = Op.next it false) {m r N : Nat} {ps qs : List Pu} {cnt : Nat} (hit : a.eval it = .pointer (some ⟨r, 0, none⟩)) (h : PRng w m r N ps qs cnt)
    (hDone : qs = [] → wpListIn F n Tryz.prog ops Q rest (a.put o.dst (.tuple #[.bool false])) w)
    (hMore : ∀ q : Pu, q ∈ qs → ∀ w' cnt', PRng w' m r N ps (qs.filter fun p => p.owner != q.owner) cnt' → cnt' < cnt → w.grownBy w' (some r) → w'.heap.size = w.heap.size → (Instr.entry (.pointer (some ⟨r, 0, none⟩))).run Tryz.prog w' = .ok (.tuple #[.int .i64 q.owner, .agg q.v]) w' → wpListIn F n Tryz.prog ops Q rest (a.put o.dst (.tuple #[.bool true, .int .i64 q.owner, .agg q.v])) w') :
    wpListIn F n Tryz.prog ops Q (o :: rest) a w := by
  obtain ⟨D, left, h1, h2, h3, h4⟩ := h
  refine wpListIn_next_ranges w hg it hop 3 law3 puR (Value.int .i64) (fun x : Pu => .agg x.v) (fun key kl hkey => by obtain ⟨x, rfl, _⟩ := Maps.keyOf_int_inv Tryz.underlying3 hkey; exact ⟨x, rfl⟩) (fun v y hv => by obtain ⟨c, rfl, _⟩ := puR_inv hv; exact ⟨c, rfl⟩) m r N D left cnt hit h1 (fun _ hl => hDone ?_) (fun x c kl y w' cnt' hkey hlx hR hat hr hlt hgr hsz hen => ?_)
  · rw [List.eq_nil_iff_forall_not_mem]
    intro q hq
    have e := h3 q.owner
    rw [hl] at e
    have e' := List.any_eq_false.1 e.symm q hq
    simp at e'
  · obtain ⟨x', hx', rfl, hwf⟩ := Maps.keyOf_int_inv Tryz.underlying3 hkey
    cases hx'
    rw [h3 x] at hlx
    obtain ⟨q, hq, hqx⟩ := List.any_eq_true.1 hlx
    have hqe : q.owner = x := by simpa using hqx
    rw [puR_mk] at hR
    have hy : y = (puD c, []) := by injection hR with hR; exact hR.symm
    have hc := h2 q (h4 q hq) .nil
    rw [hqe, hat, hy] at hc
    have hcq : c = q := puD_inj hc
    subst hcq
    subst hqe
    refine hMore c hq w' cnt' ⟨D, _, hr, h2, fun y => ?_, fun p hp => h4 p (List.mem_filter.1 hp).1⟩ hlt hgr hsz hen
    simp only [h3]
    have hsk : (Lit.int .i64 y).sameKey (.int .i64 c.owner) = (y == c.owner) := by
      have := WideAt.sameKey_iff (a := .int .i64 y) (b := .int .i64 c.owner) (law3.key (keyOf_int_mk Tryz.underlying3 hwf))
      by_cases e : y = c.owner
      · subst e
        rw [this.2 rfl]
        simp
      · have h9 : ¬ (Lit.int .i64 y).sameKey (.int .i64 c.owner) = true := fun hh => e (by have := this.1 hh; injection this)
        rw [Bool.not_eq_true] at h9
        rw [h9]
        simp [e]
    rw [hsk, List.any_filter]
    by_cases e : y = c.owner
    · subst e
      simp
    · have hb : (y == c.owner) = false := by simpa using e
      rw [hb]
      simp only [Bool.not_false, Bool.and_true]
      congr 1
      funext p
      by_cases e2 : p.owner = y
      · subst e2
        simp [e]
      · simp [e2]
end
theorem filter_permP {qs : List Pu} (hk : UniqP qs) {q : Pu} (hq : q ∈ qs) : qs.Perm (q :: qs.filter fun p => p.owner != q.owner) := by
  induction qs with
  | nil => simp at hq
  | cons a l ih =>
    have hk2 := List.pairwise_cons.1 hk
    rcases List.mem_cons.1 hq with rfl | hq
    · rw [List.filter_cons_of_neg (by simp)]
      have e : l.filter (fun p => p.owner != q.owner) = l := List.filter_eq_self.2 (fun p hp => by simpa using (hk2.1 p hp).symm)
      rw [e]
    · have hne : a.owner ≠ q.owner := hk2.1 q hq
      rw [List.filter_cons_of_pos (by simpa using hne)]
      exact ((ih hk2.2 hq).cons a).trans (List.Perm.swap ..)
set_option maxRecDepth 100000 in
set_option maxHeartbeats 4000000 in
theorem pvals_in (n : Nat) (hn : 1 ≤ n) (l Bm m N : Nat) (ps : List Pu) (hd : UniqP ps) (J Jx : List Pu → World → Prop)
    (W : World) (hJ : AbidesFrom W.heap.size J)
    (hY : ∀ pre x W1, J pre W1 → pre.length < ps.length → YieldAt Fence.wide (n - 1) Tryz.prog l #[.agg x.v] W1 fun e W' => (e = .returned (.bool true) ∧ J (pre ++ [x]) W' ∧ KeepsWalks W1 W') ∨ (e = .returned (.bool false) ∧ Jx (pre ++ [x]) W'))
    (hBm : Blk W Bm 93 #[.map (some m)]) (hm : PuM W m N ps) (h0 : J [] W) :
    CallsIn Fence.wide n Tryz.prog 81 #[.func (.yield l) #[] #[], .pointer (some ⟨Bm, 0, none⟩)] W fun e W' => (∃ v, e = .returned v) ∧ ((∃ xs : List Pu, xs.Perm ps ∧ J xs W') ∨ (∃ pre, True ∧ Jx pre W')) := by
  have m0 := hBm.cell 0
  have lB := hBm.lt
  refine callsIn_of_wp Tryz.func81 rfl trivial ?_ rfl
  simp only [Tryz.ntmps81, List.size_toArray, List.length_cons, List.length_nil, Nat.reduceAdd, Nat.reduceSub, Array.replicate_succ, Array.replicate_zero, List.push_toArray, List.append_toArray, List.nil_append, List.cons_append]
  gi_wp2_with (first | (gi_at_range; refine wpListIn_range_pu _ rfl _ rfl rfl hm ?_; intro w0 hrg0 hg0 hs0) | gi_in)
  go_frame
  have HY := Lib.hid hY
  clear hY hm m0 lB
  gi_loopw [4] (fun _ wr => ∃ (xs qs : List Pu) (cnt : Nat), PRng wr m W.heap.size N ps qs cnt ∧ Hid ((xs ++ qs).Perm ps) ∧ Hid (UniqP qs) ∧ Hid (J xs wr)) (fun _ wr => wr.rangeLeft m W.heap.size)
  case atStart => exact ⟨[], ps, _, hrg0, by show ([] ++ ps).Perm ps; exact List.Perm.refl _, hd, hJ _ _ _ none h0 hg0 (fun r e => by cases e)⟩
  case round =>
    clear hrg0
    obtain ⟨xs, qs, cnt, hrg, HP, HU, HJ⟩ := hrel
    obtain ⟨wo, rfl⟩ : ∃ wo, wo = wr := ⟨_, rfl⟩
    gi_wp2_with (first | (gi_at_next; refine wpListIn_next_pu _ rfl _ rfl rfl hrg ?_ ?_) | gi_in)
    · intro h0
      subst h0
      gi_wp2_with gi_in
      go_end0
      have := HP.out
      rw [List.append_nil] at this
      exact ⟨⟨_, rfl⟩, .inl ⟨xs, this, HJ.out⟩⟩
    · intro q hq w5 cnt5 hrg5 hlt5 hg5 hs5 hen
      have hj5 := hJ _ _ _ (some W.heap.size) HJ.out hg5 (fun r e => by cases e; exact ⟨Nat.le_refl _, hrg.walk⟩)
      have hfp := filter_permP HU.out hq
      have hlen : xs.length < ps.length := by
        have := HP.out.length_eq
        rw [List.length_append] at this
        have h2 : 0 < qs.length := List.length_pos_of_mem hq
        omega
      have HP2 : Hid ((xs ++ [q] ++ qs.filter fun p => p.owner != q.owner).Perm ps) := by
        refine List.Perm.trans ?_ HP.out
        rw [List.append_assoc]
        exact List.Perm.append_left _ hfp.symm
      have HU2 := Lib.hid (show UniqP (qs.filter fun p => p.owner != q.owner) from List.Pairwise.filter _ HU.out)
      have hj6 := hJ _ _ _ none hj5 (World.grownBy_alloc w5 (.cells q.v 47) none) (fun r e => by cases e)
      obtain ⟨fn, tmps, assign, body, hy', hR⟩ := HY.out xs q _ hj6 hlen
      have hR2 := Lib.hid hR
      have hrg6 := hrg5.kept (KeepsWalks.alloc w5 (.cells q.v 47))
      clear hR hfp hj5 hj6 hq hs5 hg5
      obtain ⟨qs', hqs'⟩ : ∃ qs', qs' = qs.filter fun p => p.owner != q.owner := ⟨_, rfl⟩
      rw [← hqs'] at hrg6 HP2 HU2
      clear hqs' hrg5
      obtain ⟨qo, qst, qp⟩ := q
      unfold Pu.v at *
      dsimp only at *
      gi_wp2_with gi_in
      refine hR2.out.mono ?_
      rintro e W3 (⟨rfl, hJ3, hk3⟩ | ⟨rfl, hJx3⟩)
      · gi_wp2_with gi_in
        go_roundw
        case rel => exact ⟨_, qs', cnt5, hrg6.kept hk3, HP2.out, HU2.out, hJ3⟩
        case measure => rw [(hrg6.kept hk3).left_eq, hrg.left_eq]; exact hlt5
      · gi_wp2_with gi_in
        refine bodyPost_ret (results_none rfl _ _ _) rfl ?_
        exact ⟨⟨_, rfl⟩, .inr ⟨_, trivial, hJx3⟩⟩
theorem pvals_stops (n : Nat) (hn : 1 ≤ n) (Bm m N : Nat) (ps : List Pu) (hd : UniqP ps) (w : World) (hBm : Blk w Bm 93 #[.map (some m)]) (hm : PuM w m N ps) :
    SeqStopsK Fence.wide n Tryz.prog 81 #[.pointer (some ⟨Bm, 0, none⟩)] (fun x : Pu => #[.agg x.v]) KeepsWalks (fun xs => xs.Perm ps) (fun _ => True) ps.length w :=
  fun l J Jx W hW hJ _ hY h0 => pvals_in n hn l Bm m N ps hd J Jx W hJ hY (hBm.keep hW) (hm.keep hW) h0
theorem pvalues_any (m : Nat) (w : World) : Calls Tryz.prog 55 #[.map (some m)] w fun e w' => e = .returned (.func (.func 81) #[] #[.pointer (some ⟨w.heap.size, 0, none⟩)]) ∧ w' = w.alloc (.cells #[.map (some m)] 93) := by
  go_enter Tryz.func55, Tryz.ntmps55
  go_wp2
  go_ret
  exact ⟨rfl, rfl⟩
def PApInv (w : World) (pre : List Pu) (W : World) : Prop :=
  ∃ v, Blk W w.heap.size 43 #[v] ∧ W.ownsRow (w.heap.size + 1) 47 3 v pre.length (puV pre) ∧ G w W ∧ w.heap.size + 1 ≤ W.heap.size
theorem papInv_own (w : World) (B : Nat) (hB : w.heap.size + 1 ≤ B) : OwnFrom B (PApInv w) := by
  rintro pre X Y row ⟨v, b1, hr, hG, hs⟩ hg hrow
  have hn : some w.heap.size ≠ row := fun e => by
    obtain ⟨_, o, ho, hc⟩ := hrow _ e.symm
    rw [show X.heap[w.heap.size]? = _ from b1] at ho; cases ho; cases hc
  exact ⟨v, b1.grown hg hn, ownsRow_kept' hr hg (fun r e => (hrow r e).2), (((G.fr (R := fun _ => False) hG).grown hg (fun g e => .inr (by have := (hrow g e).1; omega)))).toG (fun _ _ h => h), Nat.le_trans hs hg.size⟩
theorem info47 : (Tryz.prog.info? 47).map (fun i => (i.zero, i.size, i.bytes)) = some (some (.agg #[.int .i64 0, .int .i64 0, .int .i64 0]), 3, 24) := by kernel_rfl
set_option maxRecDepth 100000 in
set_option maxHeartbeats 4000000 in
theorem pappend_in (n : Nat) (hn : 3 ≤ n) (Bm m N : Nat) (ps : List Pu) (hd : UniqP ps) (hlen : ps.length ≤ 1000) (w : World) (hBm : Blk w Bm 93 #[.map (some m)]) (hm : PuM w m N ps) :
    CallsIn Fence.wide n Tryz.prog 103 #[.slice none 0 0, .func (.func 81) #[] #[.pointer (some ⟨Bm, 0, none⟩)]] w fun e w' =>
      ∃ v l, e = .returned v ∧ l.Perm ps ∧ w'.ownsRow w.heap.size 47 3 v l.length (puV l) ∧ G w w' := by
  refine callsIn_of_wp_marks Tryz.func103 rfl trivial ?_ rfl
  simp only [Tryz.ntmps103, List.size_toArray, List.length_cons, List.length_nil, Nat.reduceAdd, Nat.reduceSub, Array.replicate_succ, Array.replicate_zero, List.push_toArray, List.append_toArray, List.nil_append, List.cons_append]
  gi_wp2
  refine rangeFunc_boxW (F := Fence.wide) (α := Pu) (gf := 81) (lb := #[.pointer (some ⟨Bm, 0, none⟩)]) rfl (by omega) rfl trivial (enters_of Tryz.func81 (by kernel_rfl) rfl)
    (ev := fun x => .agg x.v) (pvals_stops (n - 1) (by omega) Bm m N ps hd (w.alloc (.cells #[.slice none 0 0] 43)) (hBm.alloc _) (hm.keep ((G.rf _).a _)))
    (Below.refl _ _) (PApInv w) (fun _ _ _ => False) (papInv_own _ _ (by simp)) (fun _ _ _ _ _ h _ _ => h) ?hIs ?h0 5 47 (fun x => x.v) ?assign ?body ?done ?stop
  case hIs =>
    rintro pre W ⟨v, _, _, _, hs⟩
    simpa using hs
  case h0 => exact ⟨_, Blk.new _ _ _, World.ownsRow_nil _ _ _ _, (G.rf _).a _, by simp⟩
  case assign =>
    intro l x W K hK
    unfold Pu.v at hK ⊢
    gi_wp2
    exact hK
  case body =>
    rintro l pre x Bp W hl hrec ⟨v, b1, hr, hG, hs⟩ hBp hbp hN
    obtain ⟨i0, hi0, hz0, hz1, hz2⟩ := info_parts info47
    have c0 := b1.cell 0
    have lA := b1.lt
    have nA := own_ne hr b1 (by decide)
    have hsn : puV (pre ++ [x]) = puV pre ++ puE x := puV_snoc pre x
    obtain ⟨xo, xs, xp⟩ := x
    unfold puE at hsn
    unfold Pu.v at *
    dsimp only at *
    have d0 := hbp.cell 0
    have d1 := hbp.cell 1
    have d2 := hbp.cell 2
    have lp := hbp.lt
    gi_wp2_with (gi_at_builtin; refine wpListIn_append_own _ rfl _ _ 43 rfl (w.heap.size + 1) 47 i0 (.agg #[.int .i64 0, .int .i64 0, .int .i64 0]) 3 24 Tryz.underlying43 hi0 hz0 hz1 hz2 rfl (by decide) _ _ _ rfl (hr.alloc _) ⟨W.heap.size, 0, none⟩ 1 1 [.int .i64 xo, .int .i64 xs, .int .i64 xp] rfl rfl (cell_new5 _ _ _) (by simp [Value.oneCell']) (by unfold maxLen; omega) (by omega) (by simp; omega) ?_; intro v' w3 hown' hg3 hnil3; have b3 := (b1.alloc (.cells #[.int .i64 xo, .int .i64 xs, .int .i64 xp] 47)).grown hg3 nA; have c3 := b3.cell 0; have z3 := b3.frozen 0; obtain ⟨g', cap', rfl⟩ : ∃ g' cap', v' = .slice (some ⟨g', 0, none⟩) (pre.length + 1) cap' := (by
         rcases hown'.2 with ⟨_, h0⟩ | ⟨g', cap', _, h1, _⟩
         · exact absurd h0 (by omega)
         · exact ⟨g', cap', h1⟩); go_frame)
    have bE := b3.set_ 0 (.slice (some ⟨g', 0, none⟩) (pre.length + 1) cap')
    have hownE := hown'.kept (grownBy_set w3 ⟨w.heap.size, 0, none⟩ (.slice (some ⟨g', 0, none⟩) (pre.length + 1) cap')) (.inr (own_ne hown' b3 (by decide)).symm)
    have frE : Fr (fun i => i = w.heap.size ∨ v.ownBlock = some i) W (w3.setCell ⟨w.heap.size, 0, none⟩ (.slice (some ⟨g', 0, none⟩) (pre.length + 1) cap')) :=
      (((Fr.rf _ W).a _).grown hg3 (fun g e => .inl (.inr e))).s (.inl (.inl rfl)) _
    generalize w3.setCell ⟨w.heap.size, 0, none⟩ (.slice (some ⟨g', 0, none⟩) (pre.length + 1) cap') = wE at *
    have hB3 : ∀ i, v.ownBlock = some i → w.heap.size + 1 ≤ i := fun i h => own_base hr h
    have hcs : ∀ i, (i = w.heap.size ∨ v.ownBlock = some i) → i < W.heap.size → ∃ c t f, W.heap[i]? = some (.cells c t f) := by
      rintro i (rfl | h) _
      · exact ⟨_, _, _, b1⟩
      · exact own_cells hr h
    refine ⟨frE.keeps hcs _, ⟨frE.size, fun i o hi ho => ?_⟩, ?_⟩
    · refine (frE.block i (Array.getElem?_eq_some_iff.1 hi).1 (fun e => ?_)).trans hi
      obtain ⟨c, t, f, h5⟩ := hcs i e (Array.getElem?_eq_some_iff.1 hi).1
      rw [h5] at hi
      cases hi
      cases ho
    · refine ⟨_, bE, by rw [List.length_append, hsn]; exact hownE, ((G.fr (R := fun _ => False) hG).t2 frE (fun i hi h => ?_)).toG (fun _ _ h => h), Nat.le_trans hs frE.size⟩
      rcases h with h | h
      · omega
      · have := hB3 _ h; omega
  case done =>
    rintro D xs W hD hS ⟨v, b1, hr, hG, hs⟩ hDef
    have c0 := b1.cell 0
    gi_wp2
    refine ⟨by simp, .inl ⟨_, _, rfl, run_takeDeferred hDef, ?_⟩⟩
    refine ⟨_, results_tmp rfl _ _ _, _, xs, rfl, hS, ?_, ?_⟩
    · exact own_weaken (ownsRow_kept' (row := some D) hr ⟨rfl, rfl, rfl, by simp [World.putObj], fun i _ hn => World.putObj_heap_other (fun e => hn (by rw [e]))⟩ (fun r e => by cases e; exact ⟨_, hDef, rfl⟩)) (by omega)
    · have hf : Fr (fun i => i = D) W (W.putObj D (.deferred none)) := ⟨rfl, rfl, rfl, by simp [World.putObj], fun i _ hn => World.putObj_heap_other hn⟩
      refine ((G.fr (R := fun _ => False) hG).t2 hf (fun i hi h => ?_)).toG (fun _ _ h => h)
      simp at hD
      omega
  case stop =>
    rintro D c pre W _ _ h _
    exact h.elim
theorem pcollect_any (Bm m N : Nat) (ps : List Pu) (hd : UniqP ps) (hlen : ps.length ≤ 1000) (w : World) (hBm : Blk w Bm 93 #[.map (some m)]) (hm : PuM w m N ps) :
    Calls Tryz.prog 79 #[.func (.func 81) #[] #[.pointer (some ⟨Bm, 0, none⟩)]] w fun e w' => ∃ v l, e = .returned v ∧ l.Perm ps ∧ w'.ownsRow w.heap.size 47 3 v l.length (puV l) ∧ G w w' := by
  have HA := Lib.hid ((callsIn_wide (n := 3)).1 (pappend_in 3 (by omega) Bm m N ps hd hlen w hBm hm))
  go_enter Tryz.func79, Tryz.ntmps79
  go_wp2_with (go_at_call 103; refine HA.out.mono ?_; rintro e w1 ⟨v, l, rfl, hp, ho, hG⟩)
  go_ret
  exact ⟨v, l, rfl, hp, ho, hG⟩
theorem srtP_perm_eq {l ps : List Pu} (hd : UniqP ps) (hp : l.Perm ps) : srtP l = srtP ps := (srtP_unique hd ((srtP_perm l).trans hp) (srtP_pw l))
theorem uniqP_perm {l ps : List Pu} (hd : UniqP ps) (hp : l.Perm ps) : UniqP l := (hp.pairwise_iff (fun h e => h e.symm)).2 hd
/-- slices.SortedFunc at the purses of a map -/
theorem psorted_any (Bm m N : Nat) (ps : List Pu) (hd : UniqP ps) (hlen : ps.length ≤ 1000) (w : World) (hBm : Blk w Bm 93 #[.map (some m)]) (hm : PuM w m N ps) :
    Calls Tryz.prog 54 #[.func (.func 81) #[] #[.pointer (some ⟨Bm, 0, none⟩)], .func (.func 56) #[] #[]] w fun e w' => ∃ v, e = .returned v ∧ w'.ownsRow w.heap.size 47 3 v ps.length (puV (srtP ps)) ∧ G w w' := by
  have HC := Lib.hid (pcollect_any Bm m N ps hd hlen w hBm hm)
  have HL := Lib.hid hlen
  have HD := Lib.hid hd
  clear hd hlen hm
  go_enter Tryz.func54, Tryz.ntmps54
  go_wp2_with (first | (go_at_call 79; refine HC.out.mono ?_; rintro e w1 ⟨v, l, rfl, hp, ho, hG⟩) | (go_at_call 80; refine (sortP_own l (uniqP_perm HD.out hp) (by rw [hp.length_eq]; exact HL.out) _ _ _ ho).mono ?_; rintro e w2 ⟨rfl, ho2, hg2⟩))
  go_ret
  exact ⟨v, rfl, by rw [← hp.length_eq, ← srtP_perm_eq HD.out hp]; exact ho2, grow_own hG ho (Nat.le_refl _) hg2⟩
end Go.Proofs.YtnkmcoljijmgpaaGreat
