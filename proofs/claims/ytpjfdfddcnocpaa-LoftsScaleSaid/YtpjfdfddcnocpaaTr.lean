import Derived.Test.YtpjfdfddcnocpaaTa
set_option linter.unusedSimpArgs false
set_option linter.unusedVariables false
namespace Go.Proofs.Ytpjfdfddcnocpaa
open Go.RowKit Go.Shelf
attribute [local go_sem] Oper.semAt_some wide_fn wide_dep wideR_fn wideR_dep

theorem yieldAt_wide {n : Nat} {P : Program} {l : Nat} {args : Array Value} {W : World} {R : Ending → World → Prop} (m : Nat) (h : YieldAt Fence.wide n P l args W R) : YieldAt Fence.wide m P l args W R := by
  obtain ⟨fn, tmps, assign, body, hy, hf, hR⟩ := h
  exact ⟨fn, tmps, assign, body, hy, hf, fun c cs _ => hR c cs (room_wide _)⟩

theorem namesOf_get (ls : List Nat) (k : Nat) (hk : k < (Lib.compact (sortL (ls.map fun n : Nat => (n : Int)))).length) :
    (Lib.compact (sortL (ls.map fun n : Nat => (n : Int)))).getD k 0 = (((namesOf ls).getD k 0 : Nat) : Int) := by
  obtain ⟨n, _, hn⟩ := namesZ_nat (List.getElem_mem hk)
  simp [namesOf, hk, hn]

def T2 (t : TypeId) : Prop := t = 82 ∨ t = 3
/-- the truths of some lofts, as places, in the order in which they are yielded -/
def truthsOf (rows : Nat → List Sp) (ls : List Nat) (sp : Int) : List At := settleL rows (namesOf ls) (fun _ => (0, 0)) sp

/-- what the iterator reads: the opened map, its box, the lofts' box and the lofts -/
def SeqAt (O OB LB g0 off0 cap : Nat) (ls : List Nat) (oc0 : Array Value) (lofts : Nat) (slv : Nat → Value) (rows : Nat → List Sp) (W : World) : Prop :=
  (Blk W O 91 oc0 ∧ ∀ j, j < lofts → SpotsAt W (slv j) (rows j)) ∧ Blk W OB 75 #[.pointer (some ⟨O, 0, none⟩)] ∧ Blk W LB 22 #[.slice (some ⟨g0, off0, none⟩) ls.length cap] ∧ g0 < W.heap.size ∧ IntsIn W g0 off0 (ls.map fun n : Nat => (n : Int))
theorem SeqAt.keep {O OB LB g0 off0 cap : Nat} {ls : List Nat} {oc0 : Array Value} {lofts : Nat} {slv : Nat → Value} {rows : Nat → List Sp} {W W' : World} (h : SeqAt O OB LB g0 off0 cap ls oc0 lofts slv rows W) (hg : G W W') : SeqAt O OB LB g0 off0 cap ls oc0 lofts slv rows W' := by
  obtain ⟨⟨h1, h2⟩, h3, h4, h5, h6⟩ := h
  exact ⟨⟨h1.keep hg, fun j hj => (h2 j hj).keep (fun g hl _ => hg.block g hl) hg.size⟩, h3.keep hg, h4.keep hg, Nat.lt_of_lt_of_le h5 hg.size, h6.kb (hg.block _ h5)⟩

set_option maxHeartbeats 4000000 in
theorem truths_seq (n : Nat) (R : Nat → TypeId → Prop) (O OB LB g0 off0 cap : Nat) (ls : List Nat) (north wrong : Int) (cols lofts : Nat) (E S : Value) (fs : Nat) (slv : Nat → Value) (rows : Nat → List Sp) (w : World)
    (hlo : lofts ≤ 8) (hrl : ∀ j, j < lofts → (rows j).length ≤ 100) (hR1 : ∀ i, ¬ R i 91) (hR2 : ∀ i, ¬ R i 120) (hR3 : ∀ i, ¬ R i 82) (hRg : ∀ i, w.heap.size ≤ i → ¬ R i 3)
    (hw : 0 ≤ wrong ∧ wrong ≤ 3) (hf : fs ≤ 128) (hl1 : 1 ≤ ls.length) (hl2 : ls.length ≤ 1000000) (hll : ∀ x ∈ ls, x < lofts)
    (hA : SeqAt O OB LB g0 off0 cap ls (oc north cols E lofts S wrong fs slv) lofts slv rows w) :
    SeqT T2 Fence.wide n Try.prog 88 #[.pointer (some ⟨LB, 0, none⟩), .pointer (some ⟨OB, 0, none⟩)] (fun x : { f : At // f ∈ truthsOf rows ls (wrong - fs) } => .agg (pc x.1)) (KC R)
      (fun xs => xs.map (·.1) = truthsOf rows ls (wrong - fs)) (fun q => q.map (·.1) <+: truthsOf rows ls (wrong - fs)) (truthsOf rows ls (wrong - fs)).length w := by
  intro l J Jx W hW hJ hJx hY h0
  refine callsIn_wide.2 ?_
  have hA := hA.keep hW
  obtain ⟨⟨hO, hSp⟩, hOB, hLB, hg0, hI⟩ := hA
  have hV := fun (W' : World) => Values_any (some ⟨g0, off0, none⟩) ls.length cap W'
  have c1 : W.cell? ⟨LB, 0, none⟩ = some (.slice (some ⟨g0, off0, none⟩) ls.length cap) := hLB.cell 0
  have c2 : W.cell? ⟨OB, 0, none⟩ = some (.pointer (some ⟨O, 0, none⟩)) := hOB.cell 0
  have hSo := Sorted_any W.heap.size g0 off0 cap (ls.map fun n : Nat => (n : Int)) (by simpa using hl2) (by simpa using hl1) (W.alloc (.cells #[.slice (some ⟨g0, off0, none⟩) ls.length cap] 22)) (by simpa using Blk.new W 22 #[.slice (some ⟨g0, off0, none⟩) ls.length cap]) (by simp; omega) (hI.kb (((G.rf W).a _).block _ hg0))
  have HSo := Lib.hid hSo
  clear hSo
  go_enter Try.func88, Try.ntmps88
  go_wp2_with (first | (go_at_call 90; refine (hV _).mono ?_; rintro e w' ⟨rfl, rfl⟩) | (go_at_call 89; refine HSo.out.mono ?_; rintro e w' ⟨g', cap', rfl, hr, hG⟩))
  have hzl : (sortL (ls.map fun n : Nat => (n : Int))).length = ls.length := by rw [sortL_len, List.length_map]
  have hc0 : ∃ cur, Blk w' g' 3 cur ∧ W.heap.size ≤ g' ∧ ls.length ≤ cap' ∧ cur.size = cap' ∧ cur.toList.take ls.length = (sortL (ls.map fun n : Nat => (n : Int))).map (Value.int .i64) := by
    rcases hr.2 with ⟨h, _⟩ | ⟨gb, cap2, cur, heq, hbase, hgb, r1, r2, r3, r4⟩
    · cases h
    · cases heq
      have hb2 := (G.a (G.rf W) (.cells #[.slice (some ⟨g0, off0, none⟩) ls.length cap] 22)).size
      rw [List.length_map] at r1 r4
      exact ⟨cur, hgb, by omega, r1, by simpa using r3, by simpa using r4⟩
  obtain ⟨cur, hcu, hgW, hcap, hcs, hct⟩ := hc0
  have hGW : G W w'.drew := (G.t ((G.rf W).a _) hG).d
  have hcu2 : Blk w'.drew g' 3 cur := hcu
  have hComp := Compact_blk w'.drew g' cap' _ cur hcu2 (by rw [hzl]; exact hl2) (by rw [hzl]; exact hcap) hcs (by rw [hzl]; exact hct)
  rw [hzl] at hComp
  have hkt : ∀ q vs, Kt T2 W.heap.size W ((w'.drew.drewN q).setCells g' 0 vs) := fun q vs => (G.kt (hGW.dn q)).t (Kt.setCells hgW (.inr rfl) vs 0 (show Blk (w'.drew.drewN q) g' 3 cur from hcu))
  have hOBl := hOB.lt
  have HComp := Lib.hid hComp
  have HKt := Lib.hid hkt
  clear hComp hkt hct hr HSo hV c1 hcu
  have hOB2 := hOB.keep hGW
  refine wp_region_Y (S := fun W' => Blk W' OB 75 #[.pointer (some ⟨O, 0, none⟩)]) 7 8 rfl (by kernel_rfl) hOB2 (fun hS => ?_)
  refine wpAnyY_take (i := 0) (v := ?_) rfl (by kernel_rfl) (by kernel_rfl) (by kernel_rfl) (by kernel_rfl) (fun _ _ _ h => h) (Or.inl ⟨by kernel_rfl, ?_⟩) (by assumption) ?_
  rotate_left
  · intro w' hSw; have := hSw.cell 0; go_simp; with_reducible rfl
  try simp only [Act.put, List.setIfInBounds_toArray, List.set_cons_zero, List.set_cons_succ]
  refine wpAnyY_take (i := 1) (v := ?_) rfl (by kernel_rfl) (by kernel_rfl) (by kernel_rfl) (by kernel_rfl) (fun _ _ _ h => h) (Or.inl ⟨by kernel_rfl, ?_⟩) (by assumption) ?_
  rotate_left
  · intro w' hSw; have := hSw.cell 0; go_simp; with_reducible rfl
  try simp only [Act.put, List.setIfInBounds_toArray, List.set_cons_zero, List.set_cons_succ]
  refine wpAnyY_take (i := 3) (v := ?_) rfl (by kernel_rfl) (by kernel_rfl) (by kernel_rfl) (by kernel_rfl) (fun _ _ _ h => h) (Or.inl ⟨by kernel_rfl, ?_⟩) (by assumption) ?_
  rotate_left
  · intro w' hSw; have := hSw.cell 0; go_simp; with_reducible rfl
  try simp only [Act.put, List.setIfInBounds_toArray, List.set_cons_zero, List.set_cons_succ]
  refine wpAnyY_take (i := 4) (v := ?_) rfl (by kernel_rfl) (by kernel_rfl) (by kernel_rfl) (by kernel_rfl) (fun _ _ _ h => h) (Or.inl ⟨by kernel_rfl, ?_⟩) (by assumption) ?_
  rotate_left
  · intro w' hSw; have := hSw.cell 0; go_simp; with_reducible rfl
  try simp only [Act.put, List.setIfInBounds_toArray, List.set_cons_zero, List.set_cons_succ]
  refine wpAnyY_take (i := 6) (v := ?_) rfl (by kernel_rfl) (by kernel_rfl) (by kernel_rfl) (by kernel_rfl) (fun _ _ _ h => h) (Or.inl ⟨by kernel_rfl, ?_⟩) (by assumption) ?_
  rotate_left
  · intro w' hSw; have := hSw.cell 0; go_simp; with_reducible rfl
  try simp only [Act.put, List.setIfInBounds_toArray, List.set_cons_zero, List.set_cons_succ]
  refine wpAnyY_oneSW (i := 2) (by kernel_rfl) rfl (by kernel_rfl) (fun K2 hK2 => ?_)
  go_simp
  refine HComp.out.mono ?_
  rintro e w2 ⟨gc, q, vs, rfl, hgc, hget, rfl⟩
  have hk2 := HKt.out q vs
  generalize (w'.drew.drewN q).setCells g' 0 vs = w2 at *
  have hO2 := hk2.blk hO (.inr (by unfold T2; decide))
  have hS2 : ∀ j, j < lofts → SpotsAt w2 (slv j) (rows j) := fun j hj => (hSp j hj).of (fun g cur hb => hk2.blk hb (.inr (by unfold T2; decide)))
  have hB2 : Blk w2 OB 75 #[.pointer (some ⟨O, 0, none⟩)] := hk2.blk hOB (.inr (by unfold T2; decide))
  refine hK2.out _ _ hB2 (fun _ => ?_)
  try simp only [Act.put, List.setIfInBounds_toArray, List.set_cons_zero, List.set_cons_succ]
  refine wpAnyY_oneSW (i := 5) (by kernel_rfl) rfl (by kernel_rfl) (fun K5 hK5 => ?_)
  go_simp
  refine (spare_any w2 ⟨slv, hO2, hS2⟩ hw hf).mono ?_
  rintro e w3 ⟨rfl, hG3⟩
  refine hK5.out _ _ (hB2.keep hG3) (fun _ => ?_)
  try simp only [Act.put, List.setIfInBounds_toArray, List.set_cons_zero, List.set_cons_succ]
  refine wpAnyY_oneW (i := 7) (by kernel_rfl) rfl (by kernel_rfl) (by kernel_rfl) (fun K7 hK7 => ?_)
  go_simp
  have hk3 : Kt T2 W.heap.size W w3 := hk2.t (G.kt hG3)
  have hE3 : Env O g' gc (oc north cols E lofts S wrong fs slv) lofts slv rows w3 := ⟨hO2.keep hG3, fun j hj => (hS2 j hj).of (fun g cur hb => hb.keep hG3), hgc.keep hG3⟩
  have hJm : StableT (· = 82) W.heap.size (fun p W1 => ∃ p' : List { f : At // f ∈ truthsOf rows ls (wrong - fs) }, p'.map (·.1) = p ∧ J p' W1) := fun p X Y ⟨p', hp, hj⟩ hk => ⟨p', hp, hJ _ _ _ hj (hk.imp (fun t ht => .inl ht))⟩
  have hset := settle_any l R O g' gc north wrong cols lofts E S fs slv rows W.heap.size (truthsOf rows ls (wrong - fs))
    (fun p W1 => ∃ p' : List { f : At // f ∈ truthsOf rows ls (wrong - fs) }, p'.map (·.1) = p ∧ J p' W1) (fun p W1 => ∃ p' : List { f : At // f ∈ truthsOf rows ls (wrong - fs) }, p'.map (·.1) = p ∧ Jx p' W1)
    hlo hrl hR1 hR2 hR3 (hRg g' (Nat.le_trans hW.size hgW)) hJm (fun m pre x W1 ⟨p', hp, hj⟩ hpre => by
      have hx : x ∈ truthsOf rows ls (wrong - fs) := hpre.subset (by simp)
      have hlen := hpre.length_le
      subst hp
      obtain ⟨fn, tmps, assign, body, hy, hR⟩ := yieldAt_wide m (hY p' ⟨x, hx⟩ W1 hj (by simp at hlen; omega))
      refine ⟨fn, tmps, assign, body, hy, hR.mono ?_⟩
      rintro e W' (⟨he, hj', hk⟩ | ⟨he, hj'⟩)
      · exact .inl ⟨he, ⟨_, by simp, hj'⟩, hk⟩
      · exact .inr ⟨he, ⟨_, by simp, hj'⟩⟩)
    (namesOf ls) (Nat.le_trans (namesOf_len ls) hl2) 0 cap' (fun _ => (0, 0)) (wrong - fs) [] w3 (fun x hx => hll x (namesOf_mem hx)) (fun k hk => by
      have hk' : k < (Lib.compact (sortL (ls.map fun n : Nat => (n : Int)))).length := by simpa [namesOf] using hk
      rw [hget k hk', namesOf_get ls k hk']) (Nat.le_trans (namesOf_len ls) hcap) (by omega) hk3.size hE3 ⟨[], rfl, hJ _ _ _ h0 hk3⟩ (List.prefix_refl _)
  have hnl : (namesOf ls).length = (Lib.compact (sortL (ls.map fun n : Nat => (n : Int)))).length := by unfold namesOf; rw [List.length_map]
  rw [hnl] at hset
  have HSet := Lib.hid hset
  clear hset hY hJm hE3 hk3 hJ hJx h0
  refine HSet.out.mono ?_
  rintro e w4 (⟨rfl, ⟨p', hp, hj⟩, _⟩ | ⟨rfl, q', hq', p', hp, hj⟩)
  · refine hK7.out _ _ ?_
    try simp only [Act.put, List.setIfInBounds_toArray, List.set_cons_zero, List.set_cons_succ]
    refine wpAnyY_done (by kernel_rfl) ?_ _
    go_wp2
    go_end0
    exact ⟨⟨_, rfl⟩, .inl ⟨p', hp, hj⟩⟩
  · refine hK7.out _ _ ?_
    try simp only [Act.put, List.setIfInBounds_toArray, List.set_cons_zero, List.set_cons_succ]
    refine wpAnyY_done (by kernel_rfl) ?_ _
    go_wp2
    go_end0
    exact ⟨⟨_, rfl⟩, .inr ⟨p', (show p'.map (·.1) <+: truthsOf rows ls (wrong - fs) by rw [hp]; exact hq'), hj⟩⟩
end Go.Proofs.Ytpjfdfddcnocpaa
