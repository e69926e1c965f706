import Derived.Test.YtpjfdfddcnocpaaSe
set_option linter.unusedSimpArgs false
set_option linter.unusedVariables false
namespace Go.Proofs.Ytpjfdfddcnocpaa
open Go.RowKit Go.Shelf
attribute [local go_sem] Oper.semAt_some wide_fn wide_dep wideR_fn wideR_dep

section
variable {P : Program} {ops : Array Oper} {md : Region.Mode} {Q : Exit → Act → World → Prop} {S : World → Prop} {z : Nat}
theorem wpAnyY_oneW {i : Nat} {o : Oper} {fuel : Nat} {l : Array Bool} {a : Act} {w : World} (hr : Region.ready md ops l = [i]) (ho : ops[i]? = some o) (hz : (l.setIfInBounds i true).getD z false = true) (hw : Region.wanted o (yielded ops a.tmps) = true)
    (h : ∀ K' : Act → World → Prop, Shut (∀ a w, wpAnyY P md ops Q S z fuel (l.setIfInBounds i true) a w → K' a w) → Oper.wp P o a w K' Q) :
    wpAnyY P md ops Q S z (fuel + 1) l a w := wpAnyY_one hr ho hz (fun K' hK => by rw [if_pos hw]; exact h K' hK)
theorem wpAnyY_oneU {i : Nat} {o : Oper} {fuel : Nat} {l : Array Bool} {a : Act} {w : World} (hr : Region.ready md ops l = [i]) (ho : ops[i]? = some o) (hz : (l.setIfInBounds i true).getD z false = true) (hw : Region.wanted o (yielded ops a.tmps) = false)
    (h : wpAnyY P md ops Q S z fuel (l.setIfInBounds i true) (a.put o.dst undef) w) :
    wpAnyY P md ops Q S z (fuel + 1) l a w := wpAnyY_one hr ho hz (fun K' hK => by rw [if_neg (by rw [hw]; simp)]; exact hK.out _ _ h)
theorem wpAnyY_oneSW {i : Nat} {o : Oper} {fuel : Nat} {l : Array Bool} {a : Act} {w : World} (hr : Region.ready md ops l = [i]) (ho : ops[i]? = some o) (hw : Region.wanted o (yielded ops a.tmps) = true)
    (h : ∀ K' : Act → World → Prop, Shut (∀ a w, S w → (S w → wpAnyY P md ops Q S z fuel (l.setIfInBounds i true) a w) → K' a w) → Oper.wp P o a w K' Q) :
    wpAnyY P md ops Q S z (fuel + 1) l a w := wpAnyY_oneS hr ho (fun K' hK => by rw [if_pos hw]; exact h K' hK)
theorem wpAnyY_oneSU {i : Nat} {o : Oper} {fuel : Nat} {l : Array Bool} {a : Act} {w : World} (hr : Region.ready md ops l = [i]) (ho : ops[i]? = some o) (hw : Region.wanted o (yielded ops a.tmps) = false) (hS : S w)
    (h : wpAnyY P md ops Q S z fuel (l.setIfInBounds i true) (a.put o.dst undef) w) :
    wpAnyY P md ops Q S z (fuel + 1) l a w := wpAnyY_oneS hr ho (fun K' hK => by rw [if_neg (by rw [hw]; simp)]; exact hK.out _ _ hS (fun _ => h))
end

def stepL (rows : Nat → List Sp) (l : Nat) (ls : List Nat) (f : At) (sp : Int) (s : Sp) : List At := if (s.more : Int) ≤ sp then settleL rows ls (upd f l (s.x, s.y)) (sp - s.more) else []
theorem settleL_cons (rows : Nat → List Sp) (l : Nat) (ls : List Nat) (f : At) (sp : Int) : settleL rows (l :: ls) f sp = (rows l).flatMap (stepL rows l ls f sp) := rfl
theorem flatMap_take_succ {α β : Type} [Inhabited α] (k : α → List β) (r : List α) (q : Nat) (h : q < r.length) : (r.take (q + 1)).flatMap k = (r.take q).flatMap k ++ k (r.getD q default) := by
  rw [List.take_succ_eq_append_getElem h, List.flatMap_append]
  simp [h]
theorem flatMap_take_pre {α β : Type} (k : α → List β) (r : List α) (q : Nat) : (r.take q).flatMap k <+: r.flatMap k := by
  refine ⟨(r.drop q).flatMap k, ?_⟩
  rw [← List.flatMap_append, List.take_append_drop]

def InvS (R : Nat → TypeId → Prop) (A : Nat) (Ev : World → Prop) (f : At) (x : Nat) (W : World) (Jp : World → Prop) (wr : World) : Prop :=
  (∃ f' : At, Blk wr A 82 (pc f') ∧ ∀ p, upd f' x p = upd f x p) ∧ Ev wr ∧ Jp wr ∧ KC R W wr ∧ W.heap.size + 1 ≤ wr.heap.size

set_option maxRecDepth 100000 in
set_option maxHeartbeats 4000000 in
theorem settle_cons (l : Nat) (R : Nat → TypeId → Prop) (O g : Nat) (gc : Array Value) (north wrong : Int) (cols lofts : Nat) (E S : Value) (fs : Nat) (slv : Nat → Value) (rows : Nat → List Sp) (B0 : Nat) (Full : List At) (J Jx : List At → World → Prop)
    (hlo : lofts ≤ 8) (hrl : ∀ j, j < lofts → (rows j).length ≤ 100) (hR1 : ∀ i, ¬ R i 91) (hR2 : ∀ i, ¬ R i 120) (hR3 : ∀ i, ¬ R i 82) (hRg : ¬ R g 3) (hJ : StableT (· = 82) B0 J)
    (x : Nat) (ls : List Nat) (hln : ls.length ≤ 1000000)
    (ih : ∀ (off cap : Nat) (f : At) (sp : Int) (pre : List At) (W : World), (∀ x ∈ ls, x < lofts) → (∀ k, k < ls.length → gc[off + k]? = some (.int .i64 (ls.getD k 0 : Nat))) → ls.length ≤ cap → sp ≤ 3 → B0 ≤ W.heap.size →
      Env O g gc (oc north cols E lofts S wrong fs slv) lofts slv rows W → J pre W → pre ++ settleL rows ls f sp <+: Full →
      Calls Try.prog 91 #[.pointer (some ⟨O, 0, none⟩), .slice (some ⟨g, off, none⟩) ls.length cap, .agg (pc f), .int .i64 sp, .func (.yield l) #[] #[]] W fun e W' =>
        (e = .returned (.bool true) ∧ J (pre ++ settleL rows ls f sp) W' ∧ KC R W W') ∨ (e = .returned (.bool false) ∧ ∃ q, q <+: settleL rows ls f sp ∧ Jx (pre ++ q) W'))
    (n off cap : Nat) (f : At) (sp : Int) (pre : List At) (W : World) (hx : ∀ y ∈ x :: ls, y < lofts) (hgc : ∀ k, k < (x :: ls).length → gc[off + k]? = some (.int .i64 ((x :: ls).getD k 0 : Nat))) (hcap : (x :: ls).length ≤ cap) (hsp : sp ≤ 3) (hB0 : B0 ≤ W.heap.size)
    (hE : Env O g gc (oc north cols E lofts S wrong fs slv) lofts slv rows W) (hj : J pre W) (hN : pre ++ settleL rows (x :: ls) f sp <+: Full) :
      CallsIn Fence.wide n Try.prog 91 #[.pointer (some ⟨O, 0, none⟩), .slice (some ⟨g, off, none⟩) (x :: ls).length cap, .agg (pc f), .int .i64 sp, .func (.yield l) #[] #[]] W fun e W' =>
        (e = .returned (.bool true) ∧ J (pre ++ settleL rows (x :: ls) f sp) W' ∧ KC R W W') ∨ (e = .returned (.bool false) ∧ ∃ q, q <+: settleL rows (x :: ls) f sp ∧ Jx (pre ++ q) W') := by
  have HIH := Lib.hid ih
  clear ih
  have hxl : x < lofts := hx x List.mem_cons_self
  have hx8 : x < 8 := by omega
  have hx8' : (x : Int) < 8 := by omega
  have hE1 := hE.kt (G.kt (B := B0) ((G.rf W).a (.cells (pc f) 82)))
  have hj1 : J pre (W.alloc (.cells (pc f) 82)) := hJ _ _ _ hj (G.kt ((G.rf W).a _))
  have hk1 : KC R W (W.alloc (.cells (pc f) 82)) := G.kc ((G.rf W).a _)
  have bA := Blk.new W 82 (pc f)
  have hz1 : W.heap.size + 1 ≤ (W.alloc (.cells (pc f) 82)).heap.size := by simp
  have hgl : (W.alloc (.cells (pc f) 82)).cell? ⟨g, off, none⟩ = some (.int .i64 x) := (hE1.2.2.cell _).trans (hgc 0 (by simp))
  obtain ⟨gr, capr, hsv, ⟨_, hgb⟩, hsc⟩ := hE1.2.1 x hxl
  have hO : (W.alloc (.cells (pc f) 82)).cell? ⟨O, 7 + x, none⟩ = some (.slice (some ⟨gr, 0, none⟩) (rows x).length capr) := (hE1.1.cell _).trans ((oc_get hx8).trans (by rw [hsv]))
  clear hsc hgb
  have hrx := hrl x hxl
  rw [settleL_cons] at hN ⊢
  obtain ⟨ln, hln1⟩ : ∃ ln, (x :: ls).length = ln := ⟨_, rfl⟩
  have hln2 : ln = ls.length + 1 := by rw [← hln1]; rfl
  rw [hln1] at hcap ⊢
  have hl0 : ¬ (ln : Int) = 0 := by omega
  have hl0' : (0 : Int) < ln := by omega
  clear hln1
  refine callsIn_of_wp Try.func91 rfl trivial ?_ rfl
  unfold pc at hgl hO bA hE1 hj1 hk1 hz1 ⊢
  simp only [Try.ntmps91, List.size_toArray, List.length_cons, List.length_nil, Nat.reduceAdd, Nat.reduceSub, Array.replicate_succ, Array.replicate_zero, List.push_toArray, List.append_toArray, List.nil_append, List.cons_append]
  gi_wp2
  clear hgl hO hl0 hl0'
  generalize W.alloc (.cells #[.int .i64 (f 0).1, .int .i64 (f 0).2, .int .i64 (f 1).1, .int .i64 (f 1).2, .int .i64 (f 2).1, .int .i64 (f 2).2, .int .i64 (f 3).1, .int .i64 (f 3).2, .int .i64 (f 4).1, .int .i64 (f 4).2, .int .i64 (f 5).1, .int .i64 (f 5).2, .int .i64 (f 6).1, .int .i64 (f 6).2, .int .i64 (f 7).1, .int .i64 (f 7).2] 82) = W1 at *
  have hb0 : (((ls.length : Nat) : Int) + 1 == 0) = false := by
    rw [beq_eq_false_iff_ne]; omega
  rw [hb0]
  clear hb0
  gi_loopw [30] (fun i wr => ∃ q : Nat, q ≤ (rows x).length ∧ i = .int .i64 q ∧ InvS R W.heap.size (Env O g gc (oc north cols E lofts S wrong fs slv) lofts slv rows) f x W (J (pre ++ ((rows x).take q).flatMap (stepL rows x ls f sp))) wr) (fun i _ => (rows x).length - (intOf i).toNat)
  case atStart => exact ⟨0, Nat.zero_le _, rfl, ⟨f, bA, fun _ => rfl⟩, hE1, by simpa using hj1, hk1, hz1⟩
  case round =>
    clear hE1 hj1 hk1 bA hz1
    obtain ⟨q, hq, rfl, ⟨f', bA', hfu⟩, hEr, hjr, hkr, hzr⟩ := hrel
    by_cases hlq : q < (rows x).length
    · obtain ⟨gr2, capr2, hsv2, ⟨_, hgb⟩, hsc⟩ := hEr.2.1 x hxl
      obtain rfl : gr = gr2 := by rw [hsv] at hsv2; injection hsv2 with h1; injection h1 with h1; injection h1
      obtain ⟨c0, c1, c2⟩ := hsc q hlq
      have hft := flatMap_take_succ (stepL rows x ls f sp) (rows x) q hlq
      generalize (rows x).getD q default = s at c0 c1 c2 hft
      have lg := hgb.lt
      have lA' := bA'.lt
      have lqi : (q : Int) < (rows x).length := by omega
      have u1 := (pc_get f' hx8).1
      have u2 := (pc_get f' hx8).2
      have v1 : wr.cell? ⟨W.heap.size, x * 2, none⟩ = some (.int .i64 (f' x).1) := (bA'.cell _).trans u1
      have v2 : wr.cell? ⟨W.heap.size, x * 2 + 1, none⟩ = some (.int .i64 (f' x).2) := (bA'.cell _).trans u2
      have z1 := bA'.frozen (x * 2)
      have z2 := bA'.frozen (x * 2 + 1)
      have HFT := Lib.hid hft
      clear hft u1 u2 hsc hgb hsv2
      gi_wp2
      have hsz : ((wr.setCell ⟨W.heap.size, x * 2, none⟩ (.int .i64 s.x)).setCell ⟨W.heap.size, x * 2 + 1, none⟩ (.int .i64 s.y)).heap.size = wr.heap.size := by simp [World.setCell]
      have bA3 := ((bA'.set_ (x * 2) (.int .i64 s.x)).set_ (x * 2 + 1) (.int .i64 s.y)).alloc (.cells #[.int .i64 s.x, .int .i64 s.y, .int .i64 s.more] 120)
      rw [pc_set f' hx8, hfu] at bA3
      have bC3 := Blk.new ((wr.setCell ⟨W.heap.size, x * 2, none⟩ (.int .i64 s.x)).setCell ⟨W.heap.size, x * 2 + 1, none⟩ (.int .i64 s.y)) 120 #[.int .i64 s.x, .int .i64 s.y, .int .i64 s.more]
      rw [hsz] at bC3
      have kt3 : Kt (· = 82) B0 wr (((wr.setCell ⟨W.heap.size, x * 2, none⟩ (.int .i64 s.x)).setCell ⟨W.heap.size, x * 2 + 1, none⟩ (.int .i64 s.y)).alloc (.cells #[.int .i64 s.x, .int .i64 s.y, .int .i64 s.more] 120)) :=
        ((Kt.set (T := (· = 82)) bA' hB0 rfl _).t (Kt.set (T := (· = 82)) (bA'.set_ (x * 2) (.int .i64 s.x)) hB0 rfl _)).t (G.kt ((G.rf _).a _))
      have k3 : KC R W (((wr.setCell ⟨W.heap.size, x * 2, none⟩ (.int .i64 s.x)).setCell ⟨W.heap.size, x * 2 + 1, none⟩ (.int .i64 s.y)).alloc (.cells #[.int .i64 s.x, .int .i64 s.y, .int .i64 s.more] 120)) :=
        ((hkr.s (Nat.le_refl _) _).s (Nat.le_refl _) _).t (G.kc ((G.rf _).a _))
      generalize ((wr.setCell ⟨W.heap.size, x * 2, none⟩ (.int .i64 s.x)).setCell ⟨W.heap.size, x * 2 + 1, none⟩ (.int .i64 s.y)).alloc (.cells #[.int .i64 s.x, .int .i64 s.y, .int .i64 s.more] 120) = W3 at *
      have e3 := hEr.kt kt3
      have j3 := hJ _ _ _ hjr kt3
      have hz3 := k3.size
      clear kt3 hEr hjr hkr hzr bA' hfu v1 v2 z1 z2 c0 c1 c2 lg hsz
      by_cases hsm : (s.more : Int) ≤ sp
      · have hst : stepL rows x ls f sp s = settleL rows ls (upd f x (s.x, s.y)) (sp - s.more) := by unfold stepL; rw [if_pos hsm]
        have hw : IntKind.i64.wrap (sp - s.more) = sp - s.more := IntWalk.i64_in _ (by omega)
        have hlen2 : (pre ++ ((rows x).take q).flatMap (stepL rows x ls f sp)) ++ settleL rows ls (upd f x (s.x, s.y)) (sp - s.more) <+: Full := by
          have h1 := flatMap_take_pre (stepL rows x ls f sp) (rows x) (q + 1)
          rw [HFT.out, hst] at h1
          rw [List.append_assoc]
          exact List.IsPrefix.trans ((List.prefix_append_right_inj _).2 h1) hN
        obtain ⟨o2, ho2, hgc2⟩ : ∃ o2, (if cap = 1 then some (⟨g, off, none⟩ : Addr) else some ⟨g, off + 1, none⟩) = some ⟨g, o2, none⟩ ∧ ∀ k, k < ls.length → gc[o2 + k]? = some (.int .i64 (ls.getD k 0 : Nat)) := by
          by_cases h : cap = 1
          · exact ⟨off, by rw [if_pos h], fun k hk => by omega⟩
          · exact ⟨off + 1, by rw [if_neg h], fun k hk => by have := hgc (k + 1) (by simp; omega); rw [show off + 1 + k = off + (k + 1) by omega]; simpa using this⟩
        have hIH := fun (W' : World) (k : G W3 W') => HIH.out o2 (cap - 1) (upd f x (s.x, s.y)) (sp - s.more) (pre ++ ((rows x).take q).flatMap (stepL rows x ls f sp)) W' (fun y hy => hx y (List.mem_cons_of_mem _ hy))
          hgc2 (by omega) (by omega) (by have := k.size; omega) (e3.kt (B := B0) k.kt) (hJ _ _ _ j3 k.kt) hlen2
        rw [show ls.length = ln - 1 by omega] at hIH
        clear hlen2
        have hHu : ∀ p, upd (upd f x (s.x, s.y)) x p = upd f x p := fun p => by funext j; unfold upd; split <;> rfl
        generalize upd f x (s.x, s.y) = H at bA3 hIH hst hHu
        have HI := Lib.hid hIH
        have HLN := Lib.hid hln2
        clear hln2
        have HST := Lib.hid hst
        clear hIH hst
        have hl1 : (1 : Int) ≤ ln := by have := HLN.out; omega
        have hl2 : ln ≤ cap := hcap
        refine wpIn_region_Y (l := none) (S := S8 W.heap.size wr.heap.size (pc H) #[.int .i64 s.x, .int .i64 s.y, .int .i64 s.more]) 14 17 rfl (by kernel_rfl) (fun ⟨_, _, h⟩ => by rcases h with h | h <;> cases h.1) (by kernel_rfl) ⟨bA3, bC3⟩ (fun hS => ?_)
        have f1 : ∀ W', S8 W.heap.size wr.heap.size (pc H) #[.int .i64 s.x, .int .i64 s.y, .int .i64 s.more] W' → W'.cell? ⟨wr.heap.size, 2, none⟩ = some (.int .i64 s.more) := fun W' h => h.2.cell 2
        refine wpAnyY_take (i := 0) (v := ?_) rfl (by kernel_rfl) (by kernel_rfl) (by kernel_rfl) (by kernel_rfl) (fun _ _ _ h => h) (Or.inl ⟨by kernel_rfl, ?_⟩) (by assumption) ?_
        rotate_left
        · intro w' hSw; go_simp; with_reducible rfl
        try simp only [Act.put, List.setIfInBounds_toArray, List.set_cons_zero, List.set_cons_succ]
        refine wpAnyY_take (i := 1) (v := ?_) rfl (by kernel_rfl) (by kernel_rfl) (by kernel_rfl) (by kernel_rfl) (fun _ _ _ h => h) (Or.inl ⟨by kernel_rfl, ?_⟩) (by assumption) ?_
        rotate_left
        · intro w' hSw; go_simp; with_reducible rfl
        try simp only [Act.put, List.setIfInBounds_toArray, List.set_cons_zero, List.set_cons_succ]
        refine wpAnyY_take (i := 2) (v := ?_) rfl (by kernel_rfl) (by kernel_rfl) (by kernel_rfl) (by kernel_rfl) (fun _ _ _ h => h) (Or.inl ⟨by kernel_rfl, ?_⟩) (by assumption) ?_
        rotate_left
        · intro w' hSw; go_simp; with_reducible rfl
        try simp only [Act.put, List.setIfInBounds_toArray, List.set_cons_zero, List.set_cons_succ]
        refine wpAnyY_take (i := 3) (v := ?_) rfl (by kernel_rfl) (by kernel_rfl) (by kernel_rfl) (by kernel_rfl) (fun _ _ _ h => h) (Or.inl ⟨by kernel_rfl, ?_⟩) (by assumption) ?_
        rotate_left
        · intro w' hSw; go_simp; with_reducible rfl
        try simp only [Act.put, List.setIfInBounds_toArray, List.set_cons_zero, List.set_cons_succ]
        refine wpAnyY_take (i := 4) (v := ?_) rfl (by kernel_rfl) (by kernel_rfl) (by kernel_rfl) (by kernel_rfl) (fun _ _ _ h => h) (Or.inl ⟨by kernel_rfl, ?_⟩) (by assumption) ?_
        rotate_left
        · intro w' hSw; go_simp; with_reducible rfl
        try simp only [Act.put, List.setIfInBounds_toArray, List.set_cons_zero, List.set_cons_succ]
        refine wpAnyY_take (i := 5) (v := ?_) rfl (by kernel_rfl) (by kernel_rfl) (by kernel_rfl) (by kernel_rfl) (fun _ _ _ h => h) (Or.inl ⟨by kernel_rfl, ?_⟩) (by assumption) ?_
        rotate_left
        · intro w' hSw; go_simp; with_reducible rfl
        try simp only [Act.put, List.setIfInBounds_toArray, List.set_cons_zero, List.set_cons_succ]
        refine wpAnyY_take (i := 6) (v := ?_) rfl (by kernel_rfl) (by kernel_rfl) (by kernel_rfl) (by kernel_rfl) (fun _ _ _ h => h) (Or.inl ⟨by kernel_rfl, ?_⟩) (by assumption) ?_
        rotate_left
        · intro w' hSw; go_simp; with_reducible rfl
        try simp only [Act.put, List.setIfInBounds_toArray, List.set_cons_zero, List.set_cons_succ]
        refine wpAnyY_take (i := 8) (v := ?_) rfl (by kernel_rfl) (by kernel_rfl) (by kernel_rfl) (by kernel_rfl) (fun _ _ _ h => h) (Or.inl ⟨by kernel_rfl, ?_⟩) (by assumption) ?_
        rotate_left
        · intro w' hSw; have g0 : w'.cell? ⟨W.heap.size, 0, none⟩ = some (.int .i64 (H 0).1) := hSw.1.cell 0; have g1 : w'.cell? ⟨W.heap.size, 1, none⟩ = some (.int .i64 (H 0).2) := hSw.1.cell 1; have g2 : w'.cell? ⟨W.heap.size, 2, none⟩ = some (.int .i64 (H 1).1) := hSw.1.cell 2; have g3 : w'.cell? ⟨W.heap.size, 3, none⟩ = some (.int .i64 (H 1).2) := hSw.1.cell 3; have g4 : w'.cell? ⟨W.heap.size, 4, none⟩ = some (.int .i64 (H 2).1) := hSw.1.cell 4; have g5 : w'.cell? ⟨W.heap.size, 5, none⟩ = some (.int .i64 (H 2).2) := hSw.1.cell 5; have g6 : w'.cell? ⟨W.heap.size, 6, none⟩ = some (.int .i64 (H 3).1) := hSw.1.cell 6; have g7 : w'.cell? ⟨W.heap.size, 7, none⟩ = some (.int .i64 (H 3).2) := hSw.1.cell 7; have g8 : w'.cell? ⟨W.heap.size, 8, none⟩ = some (.int .i64 (H 4).1) := hSw.1.cell 8; have g9 : w'.cell? ⟨W.heap.size, 9, none⟩ = some (.int .i64 (H 4).2) := hSw.1.cell 9; have g10 : w'.cell? ⟨W.heap.size, 10, none⟩ = some (.int .i64 (H 5).1) := hSw.1.cell 10; have g11 : w'.cell? ⟨W.heap.size, 11, none⟩ = some (.int .i64 (H 5).2) := hSw.1.cell 11; have g12 : w'.cell? ⟨W.heap.size, 12, none⟩ = some (.int .i64 (H 6).1) := hSw.1.cell 12; have g13 : w'.cell? ⟨W.heap.size, 13, none⟩ = some (.int .i64 (H 6).2) := hSw.1.cell 13; have g14 : w'.cell? ⟨W.heap.size, 14, none⟩ = some (.int .i64 (H 7).1) := hSw.1.cell 14; have g15 : w'.cell? ⟨W.heap.size, 15, none⟩ = some (.int .i64 (H 7).2) := hSw.1.cell 15; go_simp; with_reducible rfl
        try simp only [Act.put, List.setIfInBounds_toArray, List.set_cons_zero, List.set_cons_succ]
        refine wpAnyY_take (i := 9) (v := ?_) rfl (by kernel_rfl) (by kernel_rfl) (by kernel_rfl) (by kernel_rfl) (fun _ _ _ h => h) (Or.inl ⟨by kernel_rfl, ?_⟩) (by assumption) ?_
        rotate_left
        · intro w' hSw; go_simp; with_reducible rfl
        try simp only [Act.put, List.setIfInBounds_toArray, List.set_cons_zero, List.set_cons_succ]
        refine wpAnyY_take (i := 10) (v := ?_) rfl (by kernel_rfl) (by kernel_rfl) (by kernel_rfl) (by kernel_rfl) (fun _ _ _ h => h) (Or.inl ⟨by kernel_rfl, ?_⟩) (by assumption) ?_
        rotate_left
        · intro w' hSw; go_simp; with_reducible rfl
        try simp only [Act.put, List.setIfInBounds_toArray, List.set_cons_zero, List.set_cons_succ]
        refine wpAnyY_take (i := 11) (v := ?_) rfl (by kernel_rfl) (by kernel_rfl) (by kernel_rfl) (by kernel_rfl) (fun _ _ _ h => h) (Or.inl ⟨by kernel_rfl, ?_⟩) (by assumption) ?_
        rotate_left
        · intro w' hSw; go_simp; with_reducible rfl
        try simp only [Act.put, List.setIfInBounds_toArray, List.set_cons_zero, List.set_cons_succ]
        refine wpAnyY_take (i := 12) (v := ?_) rfl (by kernel_rfl) (by kernel_rfl) (by kernel_rfl) (by kernel_rfl) (fun _ _ _ h => h) (Or.inl ⟨by kernel_rfl, ?_⟩) (by assumption) ?_
        rotate_left
        · intro w' hSw; go_simp; with_reducible rfl
        try simp only [Act.put, List.setIfInBounds_toArray, List.set_cons_zero, List.set_cons_succ]
        refine wpAnyY_take (i := 13) (v := ?_) rfl (by kernel_rfl) (by kernel_rfl) (by kernel_rfl) (by kernel_rfl) (fun _ _ _ h => h) (Or.inl ⟨by kernel_rfl, ?_⟩) (by assumption) ?_
        rotate_left
        · intro w' hSw; go_simp; with_reducible rfl
        try simp only [Act.put, List.setIfInBounds_toArray, List.set_cons_zero, List.set_cons_succ]
        refine wpAnyY_oneSW (i := 7) (by kernel_rfl) rfl (by kernel_rfl) (fun K7 hK7 => ?_)
        go_simp
        refine hK7.out _ _ hS (fun _ => ?_)
        try simp only [Act.put, List.setIfInBounds_toArray, List.set_cons_zero, List.set_cons_succ]
        refine wpAnyY_oneW (i := 14) (by kernel_rfl) rfl (by kernel_rfl) (by kernel_rfl) (fun K14 hK14 => ?_)
        go_simp
        try simp only [ho2]
        refine (HI.out _ (G.rf W3).d).mono ?_
        rintro e w4 (⟨rfl, hJ4, hk4⟩ | ⟨rfl, hx4⟩)
        · have inv : Hid (InvS R W.heap.size (Env O g gc (oc north cols E lofts S wrong fs slv) lofts slv rows) f x W (J (pre ++ ((rows x).take (q + 1)).flatMap (stepL rows x ls f sp))) w4) := by
            refine Lib.hid ⟨⟨H, hk4.blk (bA3.keep (G.rf W3).d) (hR3 _), hHu⟩, (e3.kt (B := B0) (G.kt (G.rf W3).d)).kc hk4 hR1 hR2 hRg, ?_, (k3.t (G.kc (G.rf W3).d)).t hk4, ?_⟩
            · rw [HFT.out, HST.out, ← List.append_assoc]; exact hJ4
            · have := hk4.size
              have hl3 := bA3.lt
              have h3 : W3.drew.heap.size = W3.heap.size := rfl
              omega
          clear hJ4 hk4 bA3 bC3 hS f1 hHu j3 k3 e3 HI
          refine hK14.out _ _ ?_
          try simp only [Act.put, List.setIfInBounds_toArray, List.set_cons_zero, List.set_cons_succ]
          refine wpAnyY_oneW (i := 15) (by kernel_rfl) rfl (by kernel_rfl) (by kernel_rfl) (fun K15 hK15 => ?_)
          go_simp
          refine hK15.out _ _ ?_
          try simp only [Act.put, List.setIfInBounds_toArray, List.set_cons_zero, List.set_cons_succ]
          refine wpAnyY_oneW (i := 16) (by kernel_rfl) rfl (by kernel_rfl) (by kernel_rfl) (fun K16 hK16 => ?_)
          go_simp
          refine hK16.out _ _ ?_
          try simp only [Act.put, List.setIfInBounds_toArray, List.set_cons_zero, List.set_cons_succ]
          refine wpAnyY_done (by kernel_rfl) ?_ _
          gi_wp2
          go_roundw
          case rel => exact ⟨q + 1, by omega, by simp, inv.out⟩
          case measure => simp [intOf]; omega
        · have fin : Hid (∃ q', q' <+: (rows x).flatMap (stepL rows x ls f sp) ∧ Jx (pre ++ q') w4) := by
            obtain ⟨q', hq', hx'⟩ := hx4
            refine Lib.hid ⟨((rows x).take q).flatMap (stepL rows x ls f sp) ++ q', ?_, by rw [← List.append_assoc]; exact hx'⟩
            refine List.IsPrefix.trans ?_ (flatMap_take_pre (stepL rows x ls f sp) (rows x) (q + 1))
            rw [HFT.out, HST.out]
            exact (List.prefix_append_right_inj _).2 hq'
          clear hx4 bA3 bC3 hS f1 hHu j3 k3 e3 HI
          refine hK14.out _ _ ?_
          try simp only [Act.put, List.setIfInBounds_toArray, List.set_cons_zero, List.set_cons_succ]
          refine wpAnyY_oneW (i := 15) (by kernel_rfl) rfl (by kernel_rfl) (by kernel_rfl) (fun K15 hK15 => ?_)
          go_simp
          refine hK15.out _ _ ?_
          try simp only [Act.put, List.setIfInBounds_toArray, List.set_cons_zero, List.set_cons_succ]
          refine wpAnyY_oneW (i := 16) (by kernel_rfl) rfl (by kernel_rfl) (by kernel_rfl) (fun K16 hK16 => ?_)
          go_simp
          refine hK16.out _ _ ?_
          try simp only [Act.put, List.setIfInBounds_toArray, List.set_cons_zero, List.set_cons_succ]
          refine wpAnyY_done (by kernel_rfl) ?_ _
          gi_wp2
          go_ret
          exact .inr ⟨rfl, fin.out⟩
      · have hst : stepL rows x ls f sp s = [] := by unfold stepL; rw [if_neg hsm]
        have hHu : ∀ p, upd (upd f x (s.x, s.y)) x p = upd f x p := fun p => by funext j; unfold upd; split <;> rfl
        generalize upd f x (s.x, s.y) = H at bA3 hHu
        have inv : Hid (InvS R W.heap.size (Env O g gc (oc north cols E lofts S wrong fs slv) lofts slv rows) f x W (J (pre ++ ((rows x).take (q + 1)).flatMap (stepL rows x ls f sp))) W3.drew) := by
          refine Lib.hid ⟨⟨H, bA3.keep (G.rf W3).d, hHu⟩, e3.kt (B := B0) (G.kt (G.rf W3).d), ?_, k3.t (G.kc (G.rf W3).d), ?_⟩
          · rw [HFT.out, hst, List.append_nil]; exact hJ _ _ _ j3 (G.kt (G.rf W3).d)
          · exact bA3.lt
        clear hst hHu j3 k3 e3
        have hsm' : ((s.more : Int) ≤ sp) = False := eq_false hsm
        refine wpIn_region_Y (l := none) (S := S8 W.heap.size wr.heap.size (pc H) #[.int .i64 s.x, .int .i64 s.y, .int .i64 s.more]) 16 17 rfl (by kernel_rfl) (fun ⟨_, _, h⟩ => by rcases h with h | h <;> cases h.1) (by kernel_rfl) ⟨bA3, bC3⟩ (fun hS => ?_)
        have f1 : ∀ W', S8 W.heap.size wr.heap.size (pc H) #[.int .i64 s.x, .int .i64 s.y, .int .i64 s.more] W' → W'.cell? ⟨wr.heap.size, 2, none⟩ = some (.int .i64 s.more) := fun W' h => h.2.cell 2
        refine wpAnyY_take (i := 0) (v := ?_) rfl (by kernel_rfl) (by kernel_rfl) (by kernel_rfl) (by kernel_rfl) (fun _ _ _ h => h) (Or.inl ⟨by kernel_rfl, ?_⟩) (by assumption) ?_
        rotate_left
        · intro w' hSw; go_simp; with_reducible rfl
        try simp only [Act.put, List.setIfInBounds_toArray, List.set_cons_zero, List.set_cons_succ]
        refine wpAnyY_take (i := 1) (v := ?_) rfl (by kernel_rfl) (by kernel_rfl) (by kernel_rfl) (by kernel_rfl) (fun _ _ _ h => h) (Or.inl ⟨by kernel_rfl, ?_⟩) (by assumption) ?_
        rotate_left
        · intro w' hSw; go_simp; with_reducible rfl
        try simp only [Act.put, List.setIfInBounds_toArray, List.set_cons_zero, List.set_cons_succ]
        refine wpAnyY_take (i := 2) (v := ?_) rfl (by kernel_rfl) (by kernel_rfl) (by kernel_rfl) (by kernel_rfl) (fun _ _ _ h => h) (Or.inl ⟨by kernel_rfl, ?_⟩) (by assumption) ?_
        rotate_left
        · intro w' hSw; go_simp; with_reducible rfl
        try simp only [Act.put, List.setIfInBounds_toArray, List.set_cons_zero, List.set_cons_succ]
        refine wpAnyY_take (i := 3) (v := ?_) rfl (by kernel_rfl) (by kernel_rfl) (by kernel_rfl) (by kernel_rfl) (fun _ _ _ h => h) (Or.inl ⟨by kernel_rfl, ?_⟩) (by assumption) ?_
        rotate_left
        · intro w' hSw; go_simp; with_reducible rfl
        try simp only [Act.put, List.setIfInBounds_toArray, List.set_cons_zero, List.set_cons_succ]
        refine wpAnyY_take (i := 4) (v := ?_) rfl (by kernel_rfl) (by kernel_rfl) (by kernel_rfl) (by kernel_rfl) (fun _ _ _ h => h) (Or.inl ⟨by kernel_rfl, ?_⟩) (by assumption) ?_
        rotate_left
        · intro w' hSw; go_simp; with_reducible rfl
        try simp only [Act.put, List.setIfInBounds_toArray, List.set_cons_zero, List.set_cons_succ]
        refine wpAnyY_take (i := 5) (v := undef) rfl (by kernel_rfl) (by kernel_rfl) (by kernel_rfl) (by kernel_rfl) (fun _ _ _ h => h) (Or.inr ⟨by kernel_rfl, rfl⟩) (by assumption) ?_
        try simp only [Act.put, List.setIfInBounds_toArray, List.set_cons_zero, List.set_cons_succ]
        refine wpAnyY_take (i := 6) (v := undef) rfl (by kernel_rfl) (by kernel_rfl) (by kernel_rfl) (by kernel_rfl) (fun _ _ _ h => h) (Or.inr ⟨by kernel_rfl, rfl⟩) (by assumption) ?_
        try simp only [Act.put, List.setIfInBounds_toArray, List.set_cons_zero, List.set_cons_succ]
        refine wpAnyY_take (i := 7) (v := undef) rfl (by kernel_rfl) (by kernel_rfl) (by kernel_rfl) (by kernel_rfl) (fun _ _ _ h => h) (Or.inr ⟨by kernel_rfl, rfl⟩) (by assumption) ?_
        try simp only [Act.put, List.setIfInBounds_toArray, List.set_cons_zero, List.set_cons_succ]
        refine wpAnyY_take (i := 8) (v := undef) rfl (by kernel_rfl) (by kernel_rfl) (by kernel_rfl) (by kernel_rfl) (fun _ _ _ h => h) (Or.inr ⟨by kernel_rfl, rfl⟩) (by assumption) ?_
        try simp only [Act.put, List.setIfInBounds_toArray, List.set_cons_zero, List.set_cons_succ]
        refine wpAnyY_take (i := 9) (v := undef) rfl (by kernel_rfl) (by kernel_rfl) (by kernel_rfl) (by kernel_rfl) (fun _ _ _ h => h) (Or.inr ⟨by kernel_rfl, rfl⟩) (by assumption) ?_
        try simp only [Act.put, List.setIfInBounds_toArray, List.set_cons_zero, List.set_cons_succ]
        refine wpAnyY_take (i := 10) (v := undef) rfl (by kernel_rfl) (by kernel_rfl) (by kernel_rfl) (by kernel_rfl) (fun _ _ _ h => h) (Or.inr ⟨by kernel_rfl, rfl⟩) (by assumption) ?_
        try simp only [Act.put, List.setIfInBounds_toArray, List.set_cons_zero, List.set_cons_succ]
        refine wpAnyY_take (i := 11) (v := undef) rfl (by kernel_rfl) (by kernel_rfl) (by kernel_rfl) (by kernel_rfl) (fun _ _ _ h => h) (Or.inr ⟨by kernel_rfl, rfl⟩) (by assumption) ?_
        try simp only [Act.put, List.setIfInBounds_toArray, List.set_cons_zero, List.set_cons_succ]
        refine wpAnyY_take (i := 12) (v := undef) rfl (by kernel_rfl) (by kernel_rfl) (by kernel_rfl) (by kernel_rfl) (fun _ _ _ h => h) (Or.inr ⟨by kernel_rfl, rfl⟩) (by assumption) ?_
        try simp only [Act.put, List.setIfInBounds_toArray, List.set_cons_zero, List.set_cons_succ]
        refine wpAnyY_take (i := 13) (v := undef) rfl (by kernel_rfl) (by kernel_rfl) (by kernel_rfl) (by kernel_rfl) (fun _ _ _ h => h) (Or.inr ⟨by kernel_rfl, rfl⟩) (by assumption) ?_
        try simp only [Act.put, List.setIfInBounds_toArray, List.set_cons_zero, List.set_cons_succ]
        refine wpAnyY_take (i := 14) (v := undef) rfl (by kernel_rfl) (by kernel_rfl) (by kernel_rfl) (by kernel_rfl) (fun _ _ _ h => h) (Or.inr ⟨by kernel_rfl, rfl⟩) (by assumption) ?_
        try simp only [Act.put, List.setIfInBounds_toArray, List.set_cons_zero, List.set_cons_succ]
        refine wpAnyY_take (i := 15) (v := undef) rfl (by kernel_rfl) (by kernel_rfl) (by kernel_rfl) (by kernel_rfl) (fun _ _ _ h => h) (Or.inr ⟨by kernel_rfl, rfl⟩) (by assumption) ?_
        try simp only [Act.put, List.setIfInBounds_toArray, List.set_cons_zero, List.set_cons_succ]
        refine wpAnyY_oneW (i := 16) (by kernel_rfl) rfl (by kernel_rfl) (by kernel_rfl) (fun K16 hK16 => ?_)
        go_simp
        refine hK16.out _ _ ?_
        try simp only [Act.put, List.setIfInBounds_toArray, List.set_cons_zero, List.set_cons_succ]
        refine wpAnyY_done (by kernel_rfl) ?_ _
        gi_wp2
        go_roundw
        case rel => exact ⟨_, _, .int .i64 ((q : Int) + 1), ⟨q + 1, by omega, by simp, inv.out⟩, rfl, rfl, rfl⟩
        case measure => simp [intOf]; omega
    · obtain rfl : q = (rows x).length := by omega
      rw [List.take_length] at hjr
      gi_wp2
      go_ret
      exact .inl ⟨rfl, hjr, hkr⟩

/-- **settle** yields, in their order, the places that the lofts can have together; what the body does is R's and J's -/
theorem settle_any (l : Nat) (R : Nat → TypeId → Prop) (O g : Nat) (gc : Array Value) (north wrong : Int) (cols lofts : Nat) (E S : Value) (fs : Nat) (slv : Nat → Value) (rows : Nat → List Sp) (B0 : Nat) (Full : List At) (J Jx : List At → World → Prop)
    (hlo : lofts ≤ 8) (hrl : ∀ j, j < lofts → (rows j).length ≤ 100) (hR1 : ∀ i, ¬ R i 91) (hR2 : ∀ i, ¬ R i 120) (hR3 : ∀ i, ¬ R i 82) (hRg : ¬ R g 3) (hJ : StableT (· = 82) B0 J)
    (hY : ∀ m pre x W1, J pre W1 → pre ++ [x] <+: Full → YieldAt Fence.wide m Try.prog l #[.agg (pc x)] W1 fun e W' => (e = .returned (.bool true) ∧ J (pre ++ [x]) W' ∧ KC R W1 W') ∨ (e = .returned (.bool false) ∧ Jx (pre ++ [x]) W')) :
    ∀ (ls : List Nat), ls.length ≤ 1000000 → ∀ (off cap : Nat) (f : At) (sp : Int) (pre : List At) (W : World), (∀ x ∈ ls, x < lofts) → (∀ k, k < ls.length → gc[off + k]? = some (.int .i64 (ls.getD k 0 : Nat))) → ls.length ≤ cap → sp ≤ 3 → B0 ≤ W.heap.size →
      Env O g gc (oc north cols E lofts S wrong fs slv) lofts slv rows W → J pre W → pre ++ settleL rows ls f sp <+: Full →
      Calls Try.prog 91 #[.pointer (some ⟨O, 0, none⟩), .slice (some ⟨g, off, none⟩) ls.length cap, .agg (pc f), .int .i64 sp, .func (.yield l) #[] #[]] W fun e W' =>
        (e = .returned (.bool true) ∧ J (pre ++ settleL rows ls f sp) W' ∧ KC R W W') ∨ (e = .returned (.bool false) ∧ ∃ q, q <+: settleL rows ls f sp ∧ Jx (pre ++ q) W')
  | [], _, off, cap, f, sp, pre, W, _, _, _, _, hB0, _, hj, hN => by
    refine (callsIn_wide.1 (settle_nil l R O g B0 Full J Jx hJ hY 0 off cap f sp pre W hj hN)).mono ?_
    rintro e w' (h | ⟨h, hx⟩)
    · exact .inl h
    · exact .inr ⟨h, [f], List.prefix_rfl, hx⟩
  | x :: ls, hln, off, cap, f, sp, pre, W, hx, hgc, hcap, hsp, hB0, hE, hj, hN => by
    have hln' : ls.length ≤ 1000000 := by simp at hln; omega
    exact callsIn_wide.1 (settle_cons l R O g gc north wrong cols lofts E S fs slv rows B0 Full J Jx hlo hrl hR1 hR2 hR3 hRg hJ x ls hln'
      (fun off cap f sp pre W a1 a2 a3 a4 a5 a6 a7 a8 => settle_any l R O g gc north wrong cols lofts E S fs slv rows B0 Full J Jx hlo hrl hR1 hR2 hR3 hRg hJ hY ls hln' off cap f sp pre W a1 a2 a3 a4 a5 a6 a7 a8)
      0 off cap f sp pre W hx hgc hcap hsp hB0 hE hj hN)
end Go.Proofs.Ytpjfdfddcnocpaa
