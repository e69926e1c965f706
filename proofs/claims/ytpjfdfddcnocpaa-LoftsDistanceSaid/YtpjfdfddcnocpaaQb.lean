import Derived.Test.YtpjfdfddcnocpaaQa
import Derived.Test.YtpjfdfddcnocpaaMb
import Derived.Test.YtpjfdfddcnocpaaHa
import Derived.Sort.MapsRangeIn
set_option linter.unusedSimpArgs false
set_option linter.unusedVariables false
namespace Go.Proofs.Ytpjfdfddcnocpaa
open Go.RowKit Go.Shelf Go.Maps
attribute [local go_sem] Oper.semAt_some wide_fn wide_dep wideR_fn wideR_dep

theorem wpListIn_len_own {H : Type} {P : Program} {F : Fence} {n : Nat} {w : World} {ops : Array Oper} {rest : List Oper} {o : Oper} {a : Act} {Q : Exit → Act → World → Prop} (hg : o.guard = none) (m : Operand) (t : TypeId) (hop : o.op = Op.call { callee := Callee.builtin Builtin.len, args := #[m], argTypes := #[t] })
    (k e : TypeId) (ht : P.underlying t = some (.map k e)) (R : Value → Option (DataW H × List MemPlace)) (b nn : Nat) (D : DataW H) (hm : a.eval m = .map (some b)) (hown : w.ownsMap P k R b nn D)
    (hK : wpListIn F n P ops Q rest (a.put o.dst (.int .i64 (Maps.size D))) w) :
    wpListIn F n P ops Q (o :: rest) a w := by
  refine wpListIn_plain hg fun K' hK' => ?_
  unfold Oper.wpIn
  refine ⟨by simp [Oper.about, hop, resolve, Target.leads, Sem.run_pure], ?_⟩
  rw [Oper.semAt_plain F _ _ (by rw [hop]; intro c hc'; cases hc')]
  simp [execOp, hop, resolve, invoke, builtin, hm, hown.len ht o.type, Result.andThen]
  exact hK' _ _ hK
theorem wp_mapUpdate_own {H : Type} {P : Program} (w : World) {o : Oper} {a : Act} {K' : Act → World → Prop} {Q : Exit → Act → World → Prop}
    (m x v : Operand) (t : TypeId) (hop : o.op = Op.mapUpdate t m x v)
    (k e : TypeId) (K : Keyed P k) (ht : P.underlying t = some (.map k e)) (R : Value → Option (DataW H × List MemPlace)) (b n : Nat) (D : DataW H)
    (hm : a.eval m = .map (some b)) (hown : w.ownsMap P k R b n D) (hn : n < maxLen) (key val : Value) (kl : Lit) (hx : a.eval x = key) (hv : a.eval v = val) (hkey : keyOf P k key = some kl)
    (d : DataW H) (ps : List MemPlace) (hval : R val = some (d, ps))
    (hK : ∀ w', w'.ownsMap P k R b (n + 1) (D.put kl d) → w.grownBy w' (some b) → K' (a.put o.dst undef) w') :
    o.wp P a w K' Q := by
  obtain ⟨w', hrun, r1, r2⟩ := hown.update K ht hn hkey hval
  unfold Oper.wp
  simp [execOp, hop, hm, hx, hv, hrun, Result.andThen]
  exact hK w' r1 r2

theorem put_empty (k : Int) : (DataW.map ([] : List (Lit × DataW Unit))).put (.int .i64 k) (.lit (.bool true)) = oneD k := rfl
theorem put_same (k : Int) : (oneD k).put (.int .i64 k) (.lit (.bool true)) = oneD k := by
  simp [oneD, DataW.put_eq, ChangeMaps.putKey, ChangeMaps.notKey, Lit.sameKey, DataW.insert]
theorem put_other {k k' : Int} (h : k ≠ k') : Maps.size ((oneD k).put (.int .i64 k') (.lit (.bool true))) = 2 := by
  have ht : Maps.Tidy (oneD k) := ⟨_, rfl, by simp⟩
  rw [Maps.size_put ht]
  have : Maps.has (oneD k) (.int .i64 k') = false := by simp [oneD, Maps.has_eq, Lit.sameKey, h]
  rw [this]
  rfl
theorem cmpI_wf (p q : Int) : (Lit.int .i64 (cmpI p q)).wf = true := by
  unfold cmpI
  split
  · decide
  · split <;> decide
/-- the answers are all k -/
def nearV : List Int → Int
  | [] => 0
  | k :: ks => if ks.all (· == k) then k else 4
theorem nearV_same {k : Int} {l : List Int} (hl : l ≠ []) (h : ∀ x ∈ l, x = k) : nearV l = k := by
  cases l with
  | nil => exact absurd rfl hl
  | cons y l =>
    obtain rfl := h y List.mem_cons_self
    rw [show nearV (y :: l) = if l.all (· == y) = true then y else 4 from rfl, if_pos]
    rw [List.all_eq_true]
    intro x hx
    simpa using h x (List.mem_cons_of_mem _ hx)
theorem nearV_two {l : List Int} {x y : Int} (hx : x ∈ l) (hy : y ∈ l) (h : x ≠ y) : nearV l = 4 := by
  cases l with
  | nil => simp at hx
  | cons k l =>
    rw [show nearV (k :: l) = if l.all (· == k) = true then k else 4 from rfl, if_neg]
    intro ha
    have all : ∀ z ∈ k :: l, z = k := fun z hz => by
      rcases List.mem_cons.1 hz with rfl | hz
      · rfl
      · simpa using (List.all_eq_true.1 ha) z hz
    exact h ((all x hx).trans (all y hy).symm)

theorem w7_spec (w : World) (o3 : Obj) (c1 c2 c4 c5 : Array Value) (t1 t2 t4 t5 : TypeId) (n0 : Nat) (hn0 : n0 = w.heap.size) (W0 : World)
    (h : W0 = (((((w.alloc o3).alloc (.cells c1 t1)).alloc (.cells c2 t2)).alloc (.cells c4 t4)).alloc (.cells c5 t5))) :
    G w W0 ∧ W0.heap.size = n0 + 5 ∧ W0.heap[n0]? = some o3 ∧ Blk W0 (n0 + 1) t1 c1 ∧ Blk W0 (n0 + 2) t2 c2 ∧ Blk W0 (n0 + 3) t4 c4 ∧ Blk W0 (n0 + 4) t5 c5 := by
  subst h
  have g : G (w.alloc o3) (((((w.alloc o3).alloc (.cells c1 t1)).alloc (.cells c2 t2)).alloc (.cells c4 t4)).alloc (.cells c5 t5)) := ((((G.rf _).a _).a _).a _).a _
  refine ⟨((G.rf w).a _).t g, by simp [hn0], ?_, ?_, ?_, ?_, ?_⟩
  · rw [g.block n0 (by simp [hn0]), hn0]
    exact World.alloc_heap_new w o3
  · exact (((Blk.newAt (by simp [hn0]) _ _).alloc _).alloc _).alloc _
  · exact ((Blk.newAt (by simp [hn0]) _ _).alloc _).alloc _
  · exact (Blk.newAt (by simp [hn0]) _ _).alloc _
  · exact Blk.newAt (by simp [hn0]) _ _
theorem w7a_spec (w : World) (c0 c1 c2 c3 c4 c5 c6 : Array Value) (t0 t1 t2 t3 t4 t5 t6 : TypeId) (n0 : Nat) (hn0 : n0 = w.heap.size) (W0 : World)
    (h : W0 = (((((((w.alloc (.cells c0 t0)).alloc (.cells c1 t1)).alloc (.cells c2 t2)).alloc (.cells c3 t3)).alloc (.cells c4 t4)).alloc (.cells c5 t5)).alloc (.cells c6 t6))) :
    G w W0 ∧ Blk W0 n0 t0 c0 ∧ Blk W0 (n0 + 1) t1 c1 ∧ Blk W0 (n0 + 2) t2 c2 ∧ Blk W0 (n0 + 3) t3 c3 ∧ Blk W0 (n0 + 4) t4 c4 ∧ Blk W0 (n0 + 5) t5 c5 ∧ Blk W0 (n0 + 6) t6 c6 := by
  subst h
  refine ⟨(((((((G.rf w).a _).a _).a _).a _).a _).a _).a _, ?_, ?_, ?_, ?_, ?_, ?_, ?_⟩
  · exact ((((((Blk.newAt hn0.symm _ _).alloc _).alloc _).alloc _).alloc _).alloc _).alloc _
  · exact (((((Blk.newAt (by simp [hn0]) _ _).alloc _).alloc _).alloc _).alloc _).alloc _
  · exact ((((Blk.newAt (by simp [hn0]) _ _).alloc _).alloc _).alloc _).alloc _
  · exact (((Blk.newAt (by simp [hn0]) _ _).alloc _).alloc _).alloc _
  · exact ((Blk.newAt (by simp [hn0]) _ _).alloc _).alloc _
  · exact (Blk.newAt (by simp [hn0]) _ _).alloc _
  · exact Blk.newAt (by simp [hn0]) _ _
theorem res25 (tmps : Array Value) (w : World) (g g' : Nat) (x y : Int) (h : tmps.getD 8 undef = .pointer (some ⟨g, 0, none⟩)) (h2 : tmps.getD 9 undef = .pointer (some ⟨g', 0, none⟩)) (c0 : w.cell? ⟨g, 0, none⟩ = some (.int .i64 x)) (c1 : w.cell? ⟨g', 0, none⟩ = some (.int .i64 y)) :
    (results Try.f25 tmps).run Try.prog w = .ok (.tuple #[.int .i64 x, .int .i64 y]) w := by
  have hr : Try.f25.results = #[.cell 8 3, .cell 9 28] := rfl
  have h' : tmps[8]?.getD undef = .pointer (some ⟨g, 0, none⟩) := by simpa using h
  have h2' : tmps[9]?.getD undef = .pointer (some ⟨g', 0, none⟩) := by simpa using h2
  simp only [results, hr]
  go_simp

def cmpF (north : Int) (east : List Int) (o a b : Nat) (f : At) : Int := cmpI (q2 north east o a f) (q2 north east o b f)
def NearI (MB : Nat) (W0 : World) (cm : At → Int) (L : List At) (W : World) : Prop :=
  (∃ D, W.ownsMap (H := Unit) Try.prog 3 (plainElem Try.prog 4) MB L.length D ∧ ((L = [] ∧ D = .map []) ∨ (∃ k, L ≠ [] ∧ (∀ x ∈ L.map cm, x = k) ∧ D = oneD k))) ∧ Fr (fun i => i = MB) W0 W
def NearX (MB R1 R2 : Nat) (W0 : World) (cm : At → Int) (c : Code) (L : List At) (W : World) : Prop :=
  c = .ret ∧ (∃ x ∈ L.map cm, ∃ y ∈ L.map cm, x ≠ y) ∧ Fr (fun i => i = MB ∨ i = R1 ∨ i = R2) W0 W ∧ Blk W R1 3 #[.int .i64 4] ∧ Blk W R2 28 #[.int .i64 0]
theorem ownsMap_fr {H : Type} {R : Nat → Prop} {A B : World} {P : Program} {k : TypeId} {Rd : Value → Option (DataW H × List MemPlace)} {b n : Nat} {D : DataW H} (h : A.ownsMap P k Rd b n D) (hf : Fr R A B) (hn : ¬ R b) : B.ownsMap P k Rd b n D := by
  obtain ⟨es, clock, hb, r⟩ := h
  exact ⟨es, clock, (hf.block b (Array.getElem?_eq_some_iff.1 hb).1 hn).trans hb, r⟩
theorem ownsMap_kt {H : Type} {T : TypeId → Prop} {B : Nat} {X Y : World} {P : Program} {k : TypeId} {Rd : Value → Option (DataW H × List MemPlace)} {b n : Nat} {D : DataW H} (h : X.ownsMap P k Rd b n D) (hk : Kt T B X Y) : Y.ownsMap P k Rd b n D := by
  obtain ⟨es, clock, hb, r⟩ := h
  exact ⟨es, clock, hk.block b _ hb (.inr (fun c t f e => by cases e)), r⟩
theorem Fr.keepsLt {R : Nat → Prop} {A B : World} (h : Fr R A B) (b : Nat) (hr : ∀ i, R i → i < b) : KeepsFrom b A B :=
  ⟨h.size, fun k o hb hk _ => (h.block k (Array.getElem?_eq_some_iff.1 hk).1 (fun hR => by have := hr k hR; omega)).trans hk⟩

set_option maxRecDepth 100000 in
set_option maxHeartbeats 8000000 in
theorem Nearer_in (n : Nat) (hn : 4 ≤ n) (north wrong : Int) (cols lofts o a b : Nat) (east : List Int) (svs : List Sv) (ea sa : Option Addr) (ec sc : Nat) (w : World)
    (he : IntsAt w ea east) (hs : SvsAt w sa svs) (hk : checkE north cols east lofts svs wrong = 0) (ho : o < lofts) (ha : a < lofts) (hb : b < lofts) (hw : ¬ wrong < fewSum north cols east svs lofts) (hLL : (truthsOf (spotsOf north cols east svs) [o, a, b] (wrong - fewSum north cols east svs lofts)).length ≤ 1000000) :
    CallsIn Fence.wide n Try.prog 25 #[.agg #[.int .i64 north, .int .i64 cols, .slice ea east.length ec, .int .i64 lofts, .slice sa svs.length sc, .int .i64 wrong], .int .i64 o, .int .i64 a, .int .i64 b] w fun e w' => e = .returned (.tuple #[.int .i64 (nearV ((truthsOf (spotsOf north cols east svs) [o, a, b] (wrong - fewSum north cols east svs lofts)).map (cmpF north east o a b))), .int .i64 0]) ∧ G w w' := by
  obtain ⟨hv, hl2, hso⟩ := checkE_zero hk
  have hvb := vm_bounds hv
  have hne := truths_ne (ls := [o, a, b]) hk hw
  obtain ⟨L, hL⟩ : ∃ L, truthsOf (spotsOf north cols east svs) [o, a, b] (wrong - fewSum north cols east svs lofts) = L := ⟨_, rfl⟩
  rw [hL] at hne hLL ⊢
  obtain ⟨ans, hans⟩ : ∃ ans, nearV (L.map (cmpF north east o a b)) = ans := ⟨_, rfl⟩
  rw [hans]
  have hol : ((o : Nat) : Int) < 8 := by omega
  have hal : ((a : Nat) : Int) < 8 := by omega
  have hbl : ((b : Nat) : Int) < 8 := by omega
  have hQ := fun (W : World) (hW : G w W) (g : Nat) (hg : Blk W g 3 #[.int .i64 o, .int .i64 a, .int .i64 b]) => question_ok north wrong cols lofts east svs ea sa ec sc true [(o : Int), (a : Int), (b : Int)] (some ⟨g, 0, none⟩) 3 W (he.below hW) (hs.below hW)
    (.inr ⟨g, 0, rfl, hg.lt, fun k hk2 => by
      rw [hg.cell]
      match k, hk2 with
      | 0, _ => rfl
      | 1, _ => rfl
      | 2, _ => rfl⟩) (by simp) hk
  have hD : (true && ([(o : Int), (a : Int), (b : Int)].all fun n => isInB n 0 (lofts - 1))) = true := by simp [isInB]; omega
  rw [hD] at hQ
  have HQ := Lib.hid hQ
  have hfew := Nat.le_trans (fewSum_le north cols east svs lofts hl2) (show lofts * 16 ≤ 128 by omega)
  have hrl : ∀ j, j < lofts → (spotsOf north cols east svs j).length ≤ 100 := fun j _ => spotsOf_len north cols east svs j (by omega) (by omega)
  clear hQ hD
  have hmm := @run_makeMap Try.prog
  obtain ⟨n0, hn0⟩ : ∃ n0, n0 = w.heap.size := ⟨_, rfl⟩
  obtain ⟨g0, b0, b1, b2, b3, b4, b5, b6⟩ := w7a_spec w #[.int .i64 north, .int .i64 cols, .slice ea east.length ec, .int .i64 lofts, .slice sa svs.length sc, .int .i64 wrong] #[.int .i64 o] #[.int .i64 a] #[.int .i64 b] #[.int .i64 0] #[.int .i64 0] #[.int .i64 o, .int .i64 a, .int .i64 b] 25 3 3 3 3 28 3 n0 hn0 _ rfl
  refine callsIn_of_wp_marks Try.func25 rfl trivial ?_ rfl
  simp only [Try.ntmps25, List.size_toArray, List.length_cons, List.length_nil, Nat.reduceAdd, Nat.reduceSub, Array.replicate_succ, Array.replicate_zero, List.push_toArray, List.append_toArray, List.nil_append, List.cons_append]
  gi_wp2_with fail
  simp only [Nat.add_assoc, Nat.reduceAdd]
  rw [← hn0]
  refine (callsIn_wide.2 (HQ.out _ g0 _ b6)).mono ?_
  rintro e w1 ⟨hG1, hp⟩
  rw [if_neg (by simp), if_neg (by omega)] at hp
  obtain ⟨O, hOl, rfl, ⟨slv, hO, hSp⟩⟩ := hp
  replace b0 := b0.keep hG1
  replace b1 := b1.keep hG1
  replace b2 := b2.keep hG1
  replace b3 := b3.keep hG1
  replace b4 := b4.keep hG1
  replace b5 := b5.keep hG1
  have l0 := b0.lt
  have l1 := b1.lt
  have l2 := b2.lt
  have l3 := b3.lt
  have l4 := b4.lt
  have l5 := b5.lt
  replace g0 := g0.t hG1
  have m1 := b1.cell 0
  have m2 := b2.cell 0
  have m3 := b3.cell 0
  clear b6 HQ hG1
  have HN0 := Lib.hid hn0
  clear hn0
  gi_wp2_with (gi_at_call 58; refine (callsIn_wide.2 (truths_any _ _ _ _ _)).mono ?_; rintro e w' ⟨rfl, rfl⟩)
  obtain ⟨n1, hn1⟩ : ∃ n1, n1 = w1.heap.size := ⟨_, rfl⟩
  simp only [Nat.add_assoc, Nat.reduceAdd]
  rw [← hn1]
  generalize hW0 : (((((w1.alloc (.map #[] 0)).alloc (.cells #[.map (some n1)] 84)).alloc (.cells #[.int .i64 o, .int .i64 a, .int .i64 b] 3)).alloc (.cells #[.pointer (some ⟨O, 0, none⟩)] 75)).alloc (.cells #[.slice (some ⟨n1 + 2, 0, none⟩) 3 3] 22)) = W0
  obtain ⟨g5, z5, cM, c1, c2, c3, c4⟩ := w7_spec w1 _ _ _ _ _ _ _ _ _ n1 hn1 W0 hW0.symm
  clear hW0 m1 m2 m3 hmm
  have hn01 : n0 + 5 < n1 := by omega
  have hG0 : G w W0 := g0.t g5
  replace b0 := b0.keep g5
  replace b1 := b1.keep g5
  replace b2 := b2.keep g5
  replace b3 := b3.keep g5
  replace b4 := b4.keep g5
  replace b5 := b5.keep g5
  have hseq := truths_seq (n - 1) R0 O (n1 + 3) (n1 + 4) (n1 + 2) 0 3 [o, a, b] north wrong cols lofts (.slice ea east.length ec) (.slice sa svs.length sc) (fewSum north cols east svs lofts) slv (spotsOf north cols east svs) W0 (by omega) hrl
    (fun i h => h) (fun i h => h) (fun i h => h) (fun i _ h => h) (by omega) hfew (by simp) (by simp) (by simp [ho, ha, hb])
    ⟨⟨hO.keep g5, fun j hj => (hSp j hj).of (fun g cur hb => hb.keep g5)⟩, c3, c4, by omega, by
      intro k hk
      have hk2 : k < 3 := by simpa using hk
      rw [c2.cell]
      match k, hk2 with
      | 0, _ => rfl
      | 1, _ => rfl
      | 2, _ => rfl⟩
  have hgood : ∀ f ∈ L, ∀ l, (l = o ∨ l = a ∨ l = b) → (f l).1 < cols ∧ (f l).2 < east.length := fun f hf l hl => by
    rw [← hL] at hf
    obtain ⟨s, hs, _, e⟩ := settleL_more _ _ _ _ f hf l (namesOf_mem' (by rcases hl with rfl | rfl | rfl <;> simp))
    obtain ⟨e1, e2⟩ := spotsOf_mem hs
    rw [e]
    exact ⟨e1, e2⟩
  rw [hL] at hseq
  have HSQ := Lib.hid (fun (W : World) (hW : G w W) (x y : Nat × Nat) (hx : x.1 < cols ∧ x.2 < east.length) (hy : y.1 < cols ∧ y.2 < east.length) => square_any north cols lofts wrong (x.1 : Int) (y.1 : Int) x.2 y.2 east ea ec (.slice sa svs.length sc) W (he.below hW) hv hx.2 hy.2 (by simp [isInB]; omega) (by simp [isInB]; omega))
  have HANS := Lib.hid hans
  have HN1 := Lib.hid hn1
  have hemp := World.ownsMap_made (H := Unit) w1 Try.prog 3 (plainElem Try.prog 4)
  clear hn1 hans hL hrl hfew hO hSp he hs hv hvb hso l0 l1 l2 l3 l4 l5
  refine rangeFunc_T (F := Fence.wide) (α := { f : At // f ∈ L }) (T := T2) (gf := 88) (lb := #[.pointer (some ⟨n1 + 4, 0, none⟩), .pointer (some ⟨n1 + 3, 0, none⟩)]) rfl (by omega) rfl trivial (enters_of Try.func88 (by kernel_rfl) rfl)
    (ev := fun x => .agg (pc x.1)) (Kp := KC R0) hseq (Below.refl _ _) (fun h k => KC.t h k) (fun W l o o' _ h1 h2 => KC.put W l o o' h1 h2) (fun W o => G.kc ((G.rf W).a o))
    (fun pre W => NearI n1 W0 (cmpF north east o a b) (pre.map (·.1)) W) (fun c pre W => NearX n1 (n0 + 4) (n0 + 5) W0 (cmpF north east o a b) c (pre.map (·.1)) W) ?hI ?hIx ?hIT ?hIxT ?h0 13 82 (fun x => pc x.1) ?assign ?body ?done ?stop
  case hI => exact fun s' X Y row ⟨⟨D, h1, h2⟩, h3⟩ hg hr => ⟨⟨D, h1.kept hg (fun e => by have := (hr _ e.symm).1; omega), h2⟩, h3.grown hg (fun g e => .inr (hr g e).1)⟩
  case hIx => exact fun c s' X Y row ⟨h1, h2, h3, h4, h5⟩ hg hr => ⟨h1, h2, h3.grown hg (fun g e => .inr (hr g e).1), h4.grown hg (fun e => by have := (hr _ e.symm).1; omega), h5.grown hg (fun e => by have := (hr _ e.symm).1; omega)⟩
  case hIT =>
    rintro B hB s' X Y ⟨⟨D, h1, h2⟩, h3⟩ hk
    exact ⟨⟨D, ownsMap_kt h1 hk, h2⟩, h3.kt hk hB⟩
  case hIxT =>
    rintro c B hB s' X Y ⟨h1, h2, h3, h4, h5⟩ hk
    exact ⟨h1, h2, h3.kt hk hB, hk.blk h4 (.inl (by omega)), hk.blk h5 (.inl (by omega))⟩
  case h0 =>
    refine ⟨⟨.map [], ⟨#[], 0, cM, ?_⟩, .inl ⟨rfl, rfl⟩⟩, Fr.rf _ _⟩
    obtain ⟨es, clock, hb, r1, r2, r3⟩ := hemp
    have e := World.alloc_heap_new w1 (.map #[] 0)
    rw [e] at hb
    cases hb
    exact ⟨r1, by simp, r3⟩
  case assign =>
    intro l x W K hK
    unfold pc at hK ⊢
    gi_wp2
    exact hK
  case body =>
    rintro lp pre x Bp W ⟨⟨D, hown, hD⟩, hfr⟩ hBp bP hN
    have hMne : ∀ i, i ≠ n1 → ¬ (fun i => i = n1) i := fun i h => h
    have e0 := hfr.blk b0 (fun e => by replace e : _ = n1 := e; omega)
    have e1 := hfr.blk b1 (fun e => by replace e : _ = n1 := e; omega)
    have e2 := hfr.blk b2 (fun e => by replace e : _ = n1 := e; omega)
    have e3 := hfr.blk b3 (fun e => by replace e : _ = n1 := e; omega)
    have e4 := hfr.blk b4 (fun e => by replace e : _ = n1 := e; omega)
    have e5 := hfr.blk b5 (fun e => by replace e : _ = n1 := e; omega)
    have eV := hfr.blk c1 (fun e => by replace e : _ = n1 := e; omega)
    have hGW : G w W := ((G.fr (R := fun _ => False) hG0).t2 hfr (fun i hi h => by have := HN0.out; omega)).toG (fun _ _ h => h)
    have hgo := hgood x.1 x.2 o (.inl rfl)
    have hga := hgood x.1 x.2 a (.inr (.inl rfl))
    have hgb := hgood x.1 x.2 b (.inr (.inr rfl))
    obtain ⟨po1, po2⟩ := pc_get x.1 (l := o) (by omega)
    obtain ⟨pa1, pa2⟩ := pc_get x.1 (l := a) (by omega)
    obtain ⟨pb1, pb2⟩ := pc_get x.1 (l := b) (by omega)
    have HMAP : Hid ((pre ++ [x]).map (·.1) = pre.map (·.1) ++ [x.1]) := by unfold Hid; simp
    have hlen : (pre.map (·.1)).length = pre.length := by simp
    have hNL : pre.length ≤ 1000000 := by omega
    have HCM : Hid (cmpI (sqI north east ((x.1 o).1 : Int) (x.1 o).2 ((x.1 a).1 : Int) (x.1 a).2) (sqI north east ((x.1 o).1 : Int) (x.1 o).2 ((x.1 b).1 : Int) (x.1 b).2) = cmpF north east o a b x.1) := rfl
    have Hq1 := Lib.hid (fun (W : World) (hW : G w W) => HSQ.out W hW (x.1 o) (x.1 a) hgo hga)
    have Hq2 := Lib.hid (fun (W : World) (hW : G w W) => HSQ.out W hW (x.1 o) (x.1 b) hgo hgb)
    have hwf := cmpI_wf (sqI north east ((x.1 o).1 : Int) (x.1 o).2 ((x.1 a).1 : Int) (x.1 a).2) (sqI north east ((x.1 o).1 : Int) (x.1 o).2 ((x.1 b).1 : Int) (x.1 b).2)
    generalize sqI north east ((x.1 o).1 : Int) (x.1 o).2 ((x.1 a).1 : Int) (x.1 a).2 = qa at *
    generalize sqI north east ((x.1 o).1 : Int) (x.1 o).2 ((x.1 b).1 : Int) (x.1 b).2 = qb at *
    clear hseq hgood HSQ b0 b1 b2 b3 b4 b5 c1 c2 c3 c4 cM g5 g0 hG0
    gi_wp2
    refine wpIn_region_Y (l := some lp) (S := G W) 18 19 rfl (by kernel_rfl) (fun ⟨_, _, h⟩ => h) (by kernel_rfl) (G.rf W).d (fun hS => ?_)
    have fV : ∀ W', G W W' → W'.cell? ⟨n1 + 1, 0, none⟩ = some (.map (some n1)) := fun W' h => (eV.keep h).cell 0
    have fo : ∀ W', G W W' → W'.cell? ⟨n0 + 1, 0, none⟩ = some (.int .i64 o) := fun W' h => (e1.keep h).cell 0
    have fa : ∀ W', G W W' → W'.cell? ⟨n0 + 2, 0, none⟩ = some (.int .i64 a) := fun W' h => (e2.keep h).cell 0
    have fb : ∀ W', G W W' → W'.cell? ⟨n0 + 3, 0, none⟩ = some (.int .i64 b) := fun W' h => (e3.keep h).cell 0
    have fM0 : ∀ W', G W W' → W'.cell? ⟨n0, 0, none⟩ = some (.int .i64 north) := fun W' h => (e0.keep h).cell 0
    have fM1 : ∀ W', G W W' → W'.cell? ⟨n0, 1, none⟩ = some (.int .i64 cols) := fun W' h => (e0.keep h).cell 1
    have fM2 : ∀ W', G W W' → W'.cell? ⟨n0, 2, none⟩ = some (.slice ea east.length ec) := fun W' h => (e0.keep h).cell 2
    have fM3 : ∀ W', G W W' → W'.cell? ⟨n0, 3, none⟩ = some (.int .i64 lofts) := fun W' h => (e0.keep h).cell 3
    have fM4 : ∀ W', G W W' → W'.cell? ⟨n0, 4, none⟩ = some (.slice sa svs.length sc) := fun W' h => (e0.keep h).cell 4
    have fM5 : ∀ W', G W W' → W'.cell? ⟨n0, 5, none⟩ = some (.int .i64 wrong) := fun W' h => (e0.keep h).cell 5
    have fP1 : ∀ W', G W W' → W'.cell? ⟨Bp, o * 2, none⟩ = some (.int .i64 (x.1 o).1) := fun W' h => ((bP.keep h).cell _).trans po1
    have fP2 : ∀ W', G W W' → W'.cell? ⟨Bp, o * 2 + 1, none⟩ = some (.int .i64 (x.1 o).2) := fun W' h => ((bP.keep h).cell _).trans po2
    have fP3 : ∀ W', G W W' → W'.cell? ⟨Bp, a * 2, none⟩ = some (.int .i64 (x.1 a).1) := fun W' h => ((bP.keep h).cell _).trans pa1
    have fP4 : ∀ W', G W W' → W'.cell? ⟨Bp, a * 2 + 1, none⟩ = some (.int .i64 (x.1 a).2) := fun W' h => ((bP.keep h).cell _).trans pa2
    have fP5 : ∀ W', G W W' → W'.cell? ⟨Bp, b * 2, none⟩ = some (.int .i64 (x.1 b).1) := fun W' h => ((bP.keep h).cell _).trans pb1
    have fP6 : ∀ W', G W W' → W'.cell? ⟨Bp, b * 2 + 1, none⟩ = some (.int .i64 (x.1 b).2) := fun W' h => ((bP.keep h).cell _).trans pb2
    clear po1 po2 pa1 pa2 pb1 pb2 e0 e1 e2 e3
    generalize x.1 = f at *
    refine wpAnyY_take (i := 0) (v := ?_) rfl (by kernel_rfl) (by kernel_rfl) (by kernel_rfl) (by kernel_rfl) (fun _ _ _ h => h) (Or.inl ⟨by kernel_rfl, ?_⟩) (by assumption) ?_
    rotate_left
    · intro w' hSw; go_simp; with_reducible rfl
    try simp only [Act.put, List.setIfInBounds_toArray, List.set_cons_zero, List.set_cons_succ]
    refine wpAnyY_take (i := 1) (v := ?_) rfl (by kernel_rfl) (by kernel_rfl) (by kernel_rfl) (by kernel_rfl) (fun _ _ _ h => h) (Or.inl ⟨by kernel_rfl, ?_⟩) (by assumption) ?_
    rotate_left
    · intro w' hSw; go_simp; with_reducible rfl
    try simp only [Act.put, List.setIfInBounds_toArray, List.set_cons_zero, List.set_cons_succ]
    refine wpAnyY_take (i := 2) (v := ?_) rfl (by kernel_rfl) (by kernel_rfl) (by kernel_rfl) (by kernel_rfl) (fun _ _ _ h => h) (Or.inl ⟨by kernel_rfl, ?_⟩) (by assumption) ?_
    rotate_left
    · intro w' hSw; go_simp; with_reducible rfl
    try simp only [Act.put, List.setIfInBounds_toArray, List.set_cons_zero, List.set_cons_succ]
    refine wpAnyY_take (i := 3) (v := ?_) rfl (by kernel_rfl) (by kernel_rfl) (by kernel_rfl) (by kernel_rfl) (fun _ _ _ h => h) (Or.inl ⟨by kernel_rfl, ?_⟩) (by assumption) ?_
    rotate_left
    · intro w' hSw; go_simp; with_reducible rfl
    try simp only [Act.put, List.setIfInBounds_toArray, List.set_cons_zero, List.set_cons_succ]
    refine wpAnyY_take (i := 4) (v := ?_) rfl (by kernel_rfl) (by kernel_rfl) (by kernel_rfl) (by kernel_rfl) (fun _ _ _ h => h) (Or.inl ⟨by kernel_rfl, ?_⟩) (by assumption) ?_
    rotate_left
    · intro w' hSw; go_simp; with_reducible rfl
    try simp only [Act.put, List.setIfInBounds_toArray, List.set_cons_zero, List.set_cons_succ]
    refine wpAnyY_take (i := 5) (v := ?_) rfl (by kernel_rfl) (by kernel_rfl) (by kernel_rfl) (by kernel_rfl) (fun _ _ _ h => h) (Or.inl ⟨by kernel_rfl, ?_⟩) (by assumption) ?_
    rotate_left
    · intro w' hSw; go_simp; with_reducible rfl
    try simp only [Act.put, List.setIfInBounds_toArray, List.set_cons_zero, List.set_cons_succ]
    refine wpAnyY_take (i := 6) (v := ?_) rfl (by kernel_rfl) (by kernel_rfl) (by kernel_rfl) (by kernel_rfl) (fun _ _ _ h => h) (Or.inl ⟨by kernel_rfl, ?_⟩) (by assumption) ?_
    rotate_left
    · intro w' hSw; go_simp; with_reducible rfl
    try simp only [Act.put, List.setIfInBounds_toArray, List.set_cons_zero, List.set_cons_succ]
    refine wpAnyY_take (i := 7) (v := ?_) rfl (by kernel_rfl) (by kernel_rfl) (by kernel_rfl) (by kernel_rfl) (fun _ _ _ h => h) (Or.inl ⟨by kernel_rfl, ?_⟩) (by assumption) ?_
    rotate_left
    · intro w' hSw; go_simp; with_reducible rfl
    try simp only [Act.put, List.setIfInBounds_toArray, List.set_cons_zero, List.set_cons_succ]
    refine wpAnyY_take (i := 9) (v := ?_) rfl (by kernel_rfl) (by kernel_rfl) (by kernel_rfl) (by kernel_rfl) (fun _ _ _ h => h) (Or.inl ⟨by kernel_rfl, ?_⟩) (by assumption) ?_
    rotate_left
    · intro w' hSw; go_simp; with_reducible rfl
    try simp only [Act.put, List.setIfInBounds_toArray, List.set_cons_zero, List.set_cons_succ]
    refine wpAnyY_take (i := 10) (v := ?_) rfl (by kernel_rfl) (by kernel_rfl) (by kernel_rfl) (by kernel_rfl) (fun _ _ _ h => h) (Or.inl ⟨by kernel_rfl, ?_⟩) (by assumption) ?_
    rotate_left
    · intro w' hSw; go_simp; with_reducible rfl
    try simp only [Act.put, List.setIfInBounds_toArray, List.set_cons_zero, List.set_cons_succ]
    refine wpAnyY_take (i := 11) (v := ?_) rfl (by kernel_rfl) (by kernel_rfl) (by kernel_rfl) (by kernel_rfl) (fun _ _ _ h => h) (Or.inl ⟨by kernel_rfl, ?_⟩) (by assumption) ?_
    rotate_left
    · intro w' hSw; go_simp; with_reducible rfl
    try simp only [Act.put, List.setIfInBounds_toArray, List.set_cons_zero, List.set_cons_succ]
    refine wpAnyY_take (i := 12) (v := ?_) rfl (by kernel_rfl) (by kernel_rfl) (by kernel_rfl) (by kernel_rfl) (fun _ _ _ h => h) (Or.inl ⟨by kernel_rfl, ?_⟩) (by assumption) ?_
    rotate_left
    · intro w' hSw; go_simp; with_reducible rfl
    try simp only [Act.put, List.setIfInBounds_toArray, List.set_cons_zero, List.set_cons_succ]
    refine wpAnyY_take (i := 13) (v := ?_) rfl (by kernel_rfl) (by kernel_rfl) (by kernel_rfl) (by kernel_rfl) (fun _ _ _ h => h) (Or.inl ⟨by kernel_rfl, ?_⟩) (by assumption) ?_
    rotate_left
    · intro w' hSw; go_simp; with_reducible rfl
    try simp only [Act.put, List.setIfInBounds_toArray, List.set_cons_zero, List.set_cons_succ]
    refine wpAnyY_take (i := 14) (v := ?_) rfl (by kernel_rfl) (by kernel_rfl) (by kernel_rfl) (by kernel_rfl) (fun _ _ _ h => h) (Or.inl ⟨by kernel_rfl, ?_⟩) (by assumption) ?_
    rotate_left
    · intro w' hSw; go_simp; with_reducible rfl
    try simp only [Act.put, List.setIfInBounds_toArray, List.set_cons_zero, List.set_cons_succ]
    refine wpAnyY_take (i := 15) (v := ?_) rfl (by kernel_rfl) (by kernel_rfl) (by kernel_rfl) (by kernel_rfl) (fun _ _ _ h => h) (Or.inl ⟨by kernel_rfl, ?_⟩) (by assumption) ?_
    rotate_left
    · intro w' hSw; go_simp; with_reducible rfl
    try simp only [Act.put, List.setIfInBounds_toArray, List.set_cons_zero, List.set_cons_succ]
    refine wpAnyY_oneSW (i := 8) (by kernel_rfl) rfl (by kernel_rfl) (fun K8 hK8 => ?_)
    go_simp
    refine (Hq1.out _ (hGW.t (G.rf W).d)).mono ?_
    rintro e w2 ⟨rfl, hG2⟩
    have hGx : G W w2 := (G.rf W).d.t hG2
    clear hS hG2
    refine hK8.out _ _ hGx (fun hS => ?_)
    try simp only [Act.put, List.setIfInBounds_toArray, List.set_cons_zero, List.set_cons_succ]
    refine wpAnyY_oneSW (i := 16) (by kernel_rfl) rfl (by kernel_rfl) (fun K16 hK16 => ?_)
    go_simp
    refine (Hq2.out _ (hGW.t hGx)).mono ?_
    rintro e w3 ⟨rfl, hG3⟩
    have hGy : G W w3 := hGx.t hG3
    clear hS hG3
    refine hK16.out _ _ hGy (fun hS => ?_)
    try simp only [Act.put, List.setIfInBounds_toArray, List.set_cons_zero, List.set_cons_succ]
    refine wpAnyY_oneSW (i := 17) (by kernel_rfl) rfl (by kernel_rfl) (fun K17 hK17 => ?_)
    go_simp
    refine (nearer_any _ _ _).mono ?_
    rintro e w4 ⟨rfl, rfl⟩
    refine hK17.out _ _ hGy (fun hS => ?_)
    try simp only [Act.put, List.setIfInBounds_toArray, List.set_cons_zero, List.set_cons_succ]
    clear fo fa fb fM0 fM1 fM2 fM3 fM4 fM5 fP1 fP2 fP3 fP4 fP5 fP6 Hq1 Hq2
    have hown3 := ownsMap_fr hown hGy.fr (R := fun _ => False) (fun h => h)
    have eV3 := eV.keep hGy
    have e43 := e4.keep hGy
    have e53 := e5.keep hGy
    generalize hk' : cmpI qa qb = k' at *
    clear hk'
    refine wpAnyY_oneW (i := 18) (by kernel_rfl) rfl (by kernel_rfl) (by kernel_rfl) (fun K18 hK18 => ?_)
    refine wp_mapUpdate_own _ (.tmp 34) (.tmp 51) (.const (.bool true)) 84 rfl 3 4 law3 Try.underlying84 _ n1 _ D (by go_simp) hown3 (by rw [hlen]; unfold maxLen; omega) (.int .i64 k') (.bool true) (.int .i64 k') (by go_simp) rfl (keyOf_int_mk Try.underlying3 hwf) (.lit (.bool true)) [] (plainElem_bool Try.underlying4 true) ?_
    intro w5 hown5 hg5
    have f5 : Fr (fun i => i = n1) W w5 := (Fr.grown (hGy.fr) hg5 (fun g e => by cases e; exact .inl rfl))
    have eV5 := eV3.grown hg5 (fun e => by cases e)
    have e45 := e43.grown hg5 (fun e => by cases e; omega)
    have e55 := e53.grown hg5 (fun e => by cases e; omega)
    refine hK18.out _ _ ?_
    refine wpAnyY_done (by kernel_rfl) ?_ _
    have cV5 := eV5.cell 0
    have HMB : Hid (∃ es clock, W.heap[n1]? = some (.map es clock)) := by obtain ⟨es, clock, hb, _⟩ := hown; exact ⟨es, clock, hb⟩
    have hlK : pre.length ≤ 1000000 := hNL
    clear hown hown3 hg5 eV eV3 hS hGx hK8 hK16 hK17 hK18
    have hcase : (D.put (.int .i64 k') (.lit (.bool true)) = oneD k' ∧ (∀ y ∈ (pre.map (·.1)).map (cmpF north east o a b), y = k')) ∨ (Maps.size (D.put (.int .i64 k') (.lit (.bool true))) = 2 ∧ ∃ y ∈ (pre.map (·.1)).map (cmpF north east o a b), y ≠ k') := by
      rcases hD with ⟨h1, rfl⟩ | ⟨k, h1, h2, rfl⟩
      · exact .inl ⟨rfl, fun y hy => by rw [h1] at hy; simp at hy⟩
      · by_cases hkk : k = k'
        · subst hkk
          exact .inl ⟨put_same k, h2⟩
        · refine .inr ⟨put_other hkk, ?_⟩
          obtain ⟨z, hz⟩ := List.exists_mem_of_ne_nil _ h1
          exact ⟨_, List.mem_map.2 ⟨z, hz, rfl⟩, fun e => hkk ((h2 _ (List.mem_map.2 ⟨z, hz, rfl⟩)).symm.trans e)⟩
    clear hD
    rcases hcase with ⟨hput, hall⟩ | ⟨hsz, hex⟩
    · rw [hput] at hown5
      have hs1 : Maps.size (oneD k') = 1 := rfl
      have HALL := Lib.hid hall
      clear hall hput
      gi_wp2_with (gi_at_len; refine wpListIn_len_own rfl _ 84 rfl 3 4 Try.underlying84 _ n1 _ _ rfl hown5 ?_)
      refine ⟨f5.keepsLt _ (fun i hi => by subst hi; omega), ?_, ⟨⟨oneD k', ?_, .inr ⟨k', ?_, ?_, rfl⟩⟩, hfr.t f5⟩⟩
      · exact ⟨f5.size, fun i c t fz hi hn => (f5.block i (Array.getElem?_eq_some_iff.1 hi).1 (fun e => by obtain ⟨es, clock, hb⟩ := HMB.out; rw [e, hb] at hi; cases hi)).trans hi⟩
      · rw [HMAP.out, List.length_append]
        exact hown5
      · rw [HMAP.out]; simp
      · rw [HMAP.out, List.map_append]
        intro y hy
        rcases List.mem_append.1 hy with hy | hy
        · exact HALL.out y hy
        · have e := HCM.out
          simp at hy
          rw [hy, e]
    · have HEX := Lib.hid hex
      clear hex
      have d4 := e45.cell 0
      have z4 := e45.frozen 0
      have l4 := e45.lt
      have d5 := e55.cell 0
      have z5' := e55.frozen 0
      have l5 := e55.lt
      generalize D.put (.int .i64 k') (.lit (.bool true)) = D' at *
      gi_wp2_with (gi_at_len; refine wpListIn_len_own rfl _ 84 rfl 3 4 Try.underlying84 _ n1 _ _ rfl hown5 ?_; rw [hsz])
      have f6 : Fr (fun i => i = n1 ∨ i = n0 + 4 ∨ i = n0 + 5) W ((w5.setCell ⟨n0 + 4, 0, none⟩ (.int .i64 4)).setCell ⟨n0 + 5, 0, none⟩ (.int .i64 0)) :=
        Fr.s (Fr.s (f5.mono (fun i _ h => .inl h)) (.inl (.inr (.inl rfl))) _) (.inl (.inr (.inr rfl))) _
      refine ⟨f6.keepsLt _ (fun i hi => by rcases hi with rfl | rfl | rfl <;> omega), rfl, ?_, (hfr.mono (fun i _ h => .inl h)).t f6, ?_, ?_⟩
      · obtain ⟨y, hy, hne⟩ := HEX.out
        rw [HMAP.out, List.map_append]
        exact ⟨y, List.mem_append_left _ hy, k', List.mem_append_right _ (by rw [HCM.out]; simp), hne⟩
      · exact (e45.set_ 0 (.int .i64 4)).far (by simp) _
      · exact (e55.far (by simp) _).set_ 0 _
  case done =>
    rintro DD xs W hDD hxs ⟨⟨D, hown, hD⟩, hfr⟩ hDef
    have hxs : xs.map (·.1) = L := hxs
    have e4 := hfr.blk b4 (fun e => by replace e : _ = n1 := e; omega)
    have e5 := hfr.blk b5 (fun e => by replace e : _ = n1 := e; omega)
    have eV := hfr.blk c1 (fun e => by replace e : _ = n1 := e; omega)
    have hGW : G w W := ((G.fr (R := fun _ => False) hG0).t2 hfr (fun i hi h => by have := HN0.out; omega)).toG (fun _ _ h => h)
    rw [hxs] at hD hown
    obtain ⟨k, hall, rfl⟩ : ∃ k, (∀ x ∈ L.map (cmpF north east o a b), x = k) ∧ D = oneD k := by
      rcases hD with ⟨h1, _⟩ | ⟨k, _, h2, h3⟩
      · exact absurd h1 hne
      · exact ⟨k, h2, h3⟩
    have hans2 : ans = k := HANS.out.symm.trans (nearV_same (by simpa using hne) hall)
    subst hans2
    have HO := Lib.hid (only_any n1 L.length ans W hown)
    have cV := eV.cell 0
    have hwn : w.heap.size ≤ n0 := by have := HN0.out; omega
    have hD1 : n0 + 4 ≠ DD := by omega
    have hD2 : n0 + 5 ≠ DD := by omega
    clear hseq hgood HSQ b0 b1 b2 b3 b4 b5 c1 c2 c3 c4 cM g5 g0 hG0 hall hD hown hfr hxs hne HANS
    gi_wp2_with (gi_at_call 61; refine (callsIn_wide.2 HO.out).mono ?_; rintro e w2 ⟨rfl, hG2⟩; have e42 := e4.keep hG2; have e52 := e5.keep hG2; have d4 := e42.cell 0; have z4 := e42.frozen 0; have l4 := e42.lt; have d5 := e52.cell 0; have z5' := e52.frozen 0; have l5 := e52.lt; have hDef2 := (hG2.block DD (Array.getElem?_eq_some_iff.1 hDef).1).trans hDef; have hg2 := hGW.t hG2; clear hG2 e4 e5 hDef)
    have hDef3 : ((w2.setCell ⟨n0 + 4, 0, none⟩ (.int .i64 ans)).setCell ⟨n0 + 5, 0, none⟩ (.int .i64 0)).heap[DD]? = some (.deferred (some [])) := (Below.heap_setCell _ _ _ _ (fun e => hD2 e.symm)).trans ((Below.heap_setCell _ _ _ _ (fun e => hD1 e.symm)).trans hDef2)
    have eA := (e42.set_ 0 (.int .i64 ans)).far (p := ⟨n0 + 5, 0, none⟩) (by simp) (.int .i64 0)
    have eB := (e52.far (p := ⟨n0 + 4, 0, none⟩) (by simp) (.int .i64 ans)).set_ 0 (.int .i64 0)
    have hg3 : G w ((w2.setCell ⟨n0 + 4, 0, none⟩ (.int .i64 ans)).setCell ⟨n0 + 5, 0, none⟩ (.int .i64 0)) := (hg2.s (by simp; omega) _).s (by simp; omega) _
    generalize (w2.setCell ⟨n0 + 4, 0, none⟩ (.int .i64 ans)).setCell ⟨n0 + 5, 0, none⟩ (.int .i64 0) = w3 at *
    refine ⟨by simp, .inl ⟨_, _, rfl, run_takeDeferred hDef3, ?_⟩⟩
    have eA3 : Blk (w3.putObj DD (.deferred none)) (n0 + 4) 3 #[.int .i64 ans] := (World.putObj_heap_other hD1).trans eA
    have eB3 : Blk (w3.putObj DD (.deferred none)) (n0 + 5) 28 #[.int .i64 0] := (World.putObj_heap_other hD2).trans eB
    have hf : Fr (fun i => i = DD) w3 (w3.putObj DD (.deferred none)) := ⟨rfl, rfl, rfl, by simp [World.putObj], fun i _ hn => World.putObj_heap_other hn⟩
    refine ⟨_, res25 _ _ (n0 + 4) (n0 + 5) _ _ rfl rfl (eA3.cell 0) (eB3.cell 0), rfl, ?_⟩
    exact ((G.fr (R := fun _ => False) hg3).t2 hf (fun i hi h => by omega)).toG (fun _ _ h => h)
  case stop =>
    rintro DD c pre W hDD hSp ⟨rfl, hxy, hfr, hR1, hR2⟩ hDef
    have hSp : pre.map (·.1) <+: L := hSp
    obtain ⟨x, hx, y, hy, hxy⟩ := hxy
    have hsub : ∀ z ∈ (pre.map (·.1)).map (cmpF north east o a b), z ∈ L.map (cmpF north east o a b) := fun z hz => by
      obtain ⟨u, hu, rfl⟩ := List.mem_map.1 hz
      exact List.mem_map.2 ⟨u, hSp.subset hu, rfl⟩
    have hans2 : ans = 4 := HANS.out.symm.trans (nearV_two (hsub x hx) (hsub y hy) hxy)
    subst hans2
    have hwn : w.heap.size ≤ n0 := by have := HN0.out; omega
    have hD1 : n0 + 4 ≠ DD := by omega
    have hD2 : n0 + 5 ≠ DD := by omega
    have hg : G w W := ((G.fr (R := fun _ => False) hG0).t2 hfr (fun i hi h => by omega)).toG (fun _ _ h => h)
    clear hseq hgood HSQ b0 b1 b2 b3 b4 b5 c1 c2 c3 c4 cM g5 g0 hG0 hfr hxy hsub hx hy hSp hne HANS
    gi_wp2
    refine ⟨by simp, .inl ⟨_, _, rfl, run_takeDeferred hDef, ?_⟩⟩
    have eA : Blk (W.putObj DD (.deferred none)) (n0 + 4) 3 #[.int .i64 4] := (World.putObj_heap_other hD1).trans hR1
    have eB : Blk (W.putObj DD (.deferred none)) (n0 + 5) 28 #[.int .i64 0] := (World.putObj_heap_other hD2).trans hR2
    have hf : Fr (fun i => i = DD) W (W.putObj DD (.deferred none)) := ⟨rfl, rfl, rfl, by simp [World.putObj], fun i _ hn => World.putObj_heap_other hn⟩
    refine ⟨_, res25 _ _ (n0 + 4) (n0 + 5) _ _ rfl rfl (eA.cell 0) (eB.cell 0), rfl, ?_⟩
    exact ((G.fr (R := fun _ => False) hg).t2 hf (fun i hi h => by omega)).toG (fun _ _ h => h)
end Go.Proofs.Ytpjfdfddcnocpaa
