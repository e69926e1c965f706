import Derived.Test.YtnkmcoljijmgpaaGreatAj
set_option linter.unusedSimpArgs false
set_option linter.unusedVariables false
namespace Go.Proofs.YtnkmcoljijmgpaaGreat
open Go.RowKit Go.Shelf Go.Sort
attribute [local go_sem] Oper.semAt_some
theorem ins_own (l : List Rc) (hu : Uniq l) (hs : l.Pairwise fun x y => x.bird ≤ y.bird) (hl : l.length ≤ 1000) (W : World) (B : Nat) (v : Value) (h : W.ownsRow B 60 5 v l.length (rcV l)) : Calls Tryz.prog 119 #[v, .int .i64 0, .int .i64 l.length, .func (.func 109) #[] #[]] W fun e w' => e = .returned (.tuple #[]) ∧ w'.ownsRow B 60 5 v l.length (rcV (tks l)) ∧ W.grownBy w' v.ownBlock := by
  rcases h.2 with ⟨rfl, h0⟩ | ⟨g, cap, cur, rfl, hb, hg, h1, h2, h3, h4⟩
  · have hl0 : l = [] := List.length_eq_zero_iff.1 h0
    subst hl0
    have hc := AnyF.insertionSortCmpFunc_none (P := Tryz.prog) (ρ := Tryz.sortRc_ren) { Tryz.sortRc with } none 0 (.func (.func 109) #[] #[]) W
    change Calls Tryz.prog 119 _ _ _ at hc
    refine hc.mono ?_
    rintro e w' ⟨rfl, rfl⟩
    exact ⟨rfl, by rw [show tks [] = [] by simp [tks]]; exact h, World.grownBy.refl _ _⟩
  · have hlt : g < W.heap.size := (Array.getElem?_eq_some_iff.1 hg).1
    have hc := AnyQ.insertionSortCmpFunc (P := Tryz.prog) (ρ := Tryz.sortRc_ren) { Tryz.sortRc with } 5 Tryz.isAgg60 Tryz.sizeOf60 rcE rcE_len (fun x v hv => by
      simp [rcE, Rc.v] at hv
      rcases hv with rfl | rfl | rfl | rfl | rfl <;> rfl) takeC 109 #[] g 0 cap 0 l.length l.toArray W (enters_of Tryz.func109 (by kernel_rfl) rfl) (fun m os dk _ x y => closure109 x y _) (holds_rc (n := 0) hg h4) hlt (Nat.zero_le _) (by simp) (by simp; omega)
    change Calls Tryz.prog 119 _ _ _ at hc
    rw [show l.toArray.size = l.length by simp] at hc
    refine hc.mono ?_
    rintro e w' ⟨rfl, n, os, rfl⟩
    rw [ins_tks l hu hs]
    exact ⟨rfl, own_srt (tks_len l) hb hg h1 h2 h3, grownBy_srt _⟩
set_option maxRecDepth 100000 in
set_option maxHeartbeats 4000000 in
theorem stb_own (l : List Rc) (hu : Uniq l) (hs : l.Pairwise fun x y => x.bird ≤ y.bird) (hl : l.length ≤ 12) (W : World) (B : Nat) (v : Value) (h : W.ownsRow B 60 5 v l.length (rcV l)) : Calls Tryz.prog 137 #[v, .int .i64 l.length, .func (.func 109) #[] #[]] W fun e w' => e = .returned (.tuple #[]) ∧ w'.ownsRow B 60 5 v l.length (rcV (tks l)) ∧ W.grownBy w' v.ownBlock := by
  have HI := Lib.hid (ins_own l hu hs (by omega) W B v h)
  have hki : ¬ (20 : Int) ≤ l.length := by omega
  have hkj : ¬ (20 : Int) < l.length := by omega
  obtain ⟨n, hn⟩ : ∃ n, n = l.length := ⟨_, rfl⟩
  rw [← hn] at HI hki hkj ⊢
  clear hs hu h hl hn
  go_enter Tryz.func137, Tryz.ntmps137
  go_wp2_with fail
  refine wp_loop_rounds 1 ?_
  rw [rounds_succ]
  go_wp2_with (go_at_call 119; refine (HI.out).mono ?_; rintro e w' ⟨rfl, h1, h2⟩)
  refine wp_loop_rounds 1 ?_
  rw [rounds_succ]
  go_wp2_with fail
  first | exact ⟨rfl, h1, h2⟩ | (go_end0; exact ⟨rfl, h1, h2⟩) | trace_state
theorem stable_own (l : List Rc) (hu : Uniq l) (hs : l.Pairwise fun x y => x.bird ≤ y.bird) (hl : l.length ≤ 12) (W : World) (B : Nat) (v : Value) (h : W.ownsRow B 60 5 v l.length (rcV l)) : Calls Tryz.prog 108 #[v, .func (.func 109) #[] #[]] W fun e w' => e = .returned (.tuple #[]) ∧ w'.ownsRow B 60 5 v l.length (rcV (tks l)) ∧ W.grownBy w' v.ownBlock := by
  obtain ⟨a, c, rfl⟩ := own_slice h
  have HI := Lib.hid (stb_own l hu hs hl W B _ h)
  clear h hs hu hl
  go_enter Tryz.func108, Tryz.ntmps108
  go_wp2_with (go_at_call 137; refine (HI.out).mono ?_; rintro e w' ⟨rfl, h1, h2⟩)
  first | exact ⟨rfl, h1, h2⟩ | (go_end0; exact ⟨rfl, h1, h2⟩) | trace_state
end Go.Proofs.YtnkmcoljijmgpaaGreat
set_option linter.unusedSimpArgs false
set_option linter.unusedVariables false
namespace Go.Proofs.YtnkmcoljijmgpaaGreat
open Go.RowKit Go.Shelf Go.Sort
attribute [local go_sem] Oper.semAt_some
/-- a bird that takes no place -/
def skipB (first : Bool) (st : List Int) (x : Rc) : Bool := (decide (x.day = 0) || (first && !decide (x.day = 1))) || inL st x.bird
def takersL (f : Fu) (st : List Int) : List Rc := tks (f.rs.filter fun x => !skipB f.po.first st x)
set_option maxRecDepth 100000 in
set_option maxHeartbeats 4000000 in
theorem take107 (f : Fu) (st : List Int) (sa : Option Addr) (sc A K : Nat) (W : World) (hA : Blk W A 85 f.v) (hS : Blk W K 24 #[.slice sa st.length sc]) (hi : IntsAt W sa st) (hl : st.length ≤ 1000) (x : Rc) : Calls Tryz.prog 107 #[.agg x.v, .pointer (some ⟨A, 0, none⟩), .pointer (some ⟨K, 0, none⟩)] W fun e w' => e = .returned (.bool (skipB f.po.first st x)) ∧ G W w' := by
  have HI := Lib.hid (fun (W' : World) (hW : G W W') => contains_any st sa sc x.bird W' (hi.below hW) hl)
  unfold skipB
  generalize inL st x.bird = II at *
  obtain ⟨zbird, zowner, zrank, zday, zpa, zpc, zpools⟩ := x
  obtain ⟨⟨ystake, ycut, ykind, yta, ytc, ytable, yquota, yfirst⟩, fa, fc, rs, pa, pc, ps⟩ := f
  unfold Fu.v Rc.v at *
  dsimp only at *
  have g0 : G W (W.alloc (.cells #[.int .i64 zbird, .int .i64 zowner, .int .i64 zrank, .int .i64 zday, .slice zpa zpools.length zpc] 60)) := (G.rf _).a _
  have hA2 := hA.keep g0
  have hS2 := hS.keep g0
  have m5 := hA2.cell 5
  have lA := hA2.lt
  have n0 := hS2.cell 0
  have lS := hS2.lt
  clear hA hS hi hA2 hS2
  by_cases h0 : zday = 0
  · subst h0
    go_enter Tryz.func107, Tryz.ntmps107
    go_wp2_with fail
    first | (go_ret; exact ⟨by simp, g0⟩) | exact ⟨by simp, g0⟩
  · have e0 : (zday == 0) = false := by simpa using h0
    rw [decide_eq_false h0]
    by_cases h1 : zday = 1
    · subst h1
      have hT : Hid (((false || (yfirst && !decide ((1 : Int) = 1))) || II) = II) := by show _ = _; simp
      cases yfirst
      all_goals
        go_enter Tryz.func107, Tryz.ntmps107
        go_wp2_with (go_at_call 76; refine (HI.out _ g0).mono ?_; rintro e w1 ⟨rfl, hG1⟩)
        first | (go_ret; exact ⟨by rw [hT.out]; rfl, g0.t hG1⟩) | exact ⟨by rw [hT.out]; rfl, g0.t hG1⟩
    · have e1 : (zday == 1) = false := by simpa using h1
      rw [decide_eq_false h1]
      cases yfirst
      · have hT : Hid (((false || (false && !false)) || II) = II) := by show _ = _; simp
        go_enter Tryz.func107, Tryz.ntmps107
        go_wp2_with (go_at_call 76; refine (HI.out _ g0).mono ?_; rintro e w1 ⟨rfl, hG1⟩)
        first | (go_ret; exact ⟨by rw [hT.out]; rfl, g0.t hG1⟩) | exact ⟨by rw [hT.out]; rfl, g0.t hG1⟩
      · go_enter Tryz.func107, Tryz.ntmps107
        go_wp2_with fail
        first | (go_ret; exact ⟨by simp, g0⟩) | exact ⟨by simp, g0⟩
def TakePost (w : World) (l : List Rc) (e : Ending) (w' : World) : Prop := ∃ v, e = .returned v ∧ w'.ownsRow w.heap.size 60 5 v l.length (rcV l) ∧ G w w'
set_option maxRecDepth 100000 in
set_option maxHeartbeats 4000000 in
theorem takers_any (f : Fu) (st : List Int) (sa : Option Addr) (sc : Nat) (w : World) (hrow : RowE Rc.v 5 w f.fa f.rs) (hn : f.fa ≠ none ∨ f.rs = []) (hi : IntsAt w sa st) (hl : st.length ≤ 1000) (h12 : f.rs.length ≤ 12) (hu : Uniq f.rs) (hs : f.rs.Pairwise fun x y => x.bird ≤ y.bird) :
    Calls Tryz.prog 83 #[.agg f.v, .slice sa st.length sc] w (TakePost w (takersL f st)) := by
  obtain ⟨W1, hW1⟩ : ∃ W1, W1 = (w.alloc (.cells f.v 85)).alloc (.cells #[.slice sa st.length sc] 24) := ⟨_, rfl⟩
  have g0 : G w W1 := by rw [hW1]; exact ((G.rf _).a _).a _
  have b0 : Blk W1 w.heap.size 85 f.v := by rw [hW1]; exact (Blk.new _ _ _).alloc _
  have b1 : Blk W1 (w.heap.size + 1) 24 #[.slice sa st.length sc] := by rw [hW1]; exact Blk.new1 _ _ _ _
  have HC := Lib.hid (clone_any f.rs f.fa f.fc W1 (hrow.below g0) (by omega) hn)
  have HD := Lib.hid (fun (W : World) (v : Value) (hG : G W1 W) (h : W.ownsRow W1.heap.size 60 5 v f.rs.length (rcV f.rs)) => delete_any 107 (enters_of Tryz.func107 (by kernel_rfl) rfl) #[.pointer (some ⟨w.heap.size, 0, none⟩), .pointer (some ⟨w.heap.size + 1, 0, none⟩)] (fun x => skipB f.po.first st x) f.rs W1.heap.size v W1 W (Nat.le_refl _) hG h (by omega)
    (fun W' hG' i hi' => take107 f st sa sc w.heap.size (w.heap.size + 1) W' (b0.keep hG') (b1.keep hG') ((hi.below g0).below hG') hl _))
  have hfl : (f.rs.filter fun x => !skipB f.po.first st x).length ≤ 12 := Nat.le_trans (List.length_filter_le _ _) h12
  have HS := Lib.hid (fun (W : World) (v : Value) (h : W.ownsRow W1.heap.size 60 5 v (f.rs.filter fun x => !skipB f.po.first st x).length (rcV (f.rs.filter fun x => !skipB f.po.first st x))) => stable_own (f.rs.filter fun x => !skipB f.po.first st x) (uniq_filter hu _) (hs.filter _) hfl W W1.heap.size v h)
  have HP : Hid (∀ w' v, w'.ownsRow W1.heap.size 60 5 v (f.rs.filter fun x => !skipB f.po.first st x).length (rcV (takersL f st)) → G W1 w' → TakePost w (takersL f st) (.returned v) w') := fun w' v a b => by
    have e : (f.rs.filter fun x => !skipB f.po.first st x).length = (takersL f st).length := by unfold takersL; rw [tks_len]
    rw [e] at a
    exact ⟨v, rfl, own_weaken a g0.size, g0.t b⟩
  have HTK : Hid (tks (f.rs.filter fun x => !skipB f.po.first st x) = takersL f st) := rfl
  generalize takersL f st = TT at *
  generalize TakePost w TT = PP at *
  generalize (f.rs.filter fun x => !skipB f.po.first st x) = FF at *
  clear hrow hn hi hu hs hfl b0 b1
  obtain ⟨⟨ystake, ycut, ykind, yta, ytc, ytable, yquota, yfirst⟩, fa, fc, rs, pa, pc, ps⟩ := f
  unfold Fu.v at *
  dsimp only at *
  go_enter Tryz.func83, Tryz.ntmps83
  go_upto_region 1 with fail
  change Code.wp _ _ _ _ ((w.alloc (.cells #[.int .i64 ystake, .int .i64 ycut, .int .i64 ykind, .slice yta ytable.length ytc, .int .i64 yquota, .bool yfirst, .slice fa rs.length fc, .slice pa ps.length pc] 85)).alloc (.cells #[.slice sa st.length sc] 24))
  have hk0 : W1.cell? ⟨w.heap.size, 6, none⟩ = some (.slice fa rs.length fc) := by
    rw [hW1]
    exact ((Blk.new w 85 #[.int .i64 ystake, .int .i64 ycut, .int .i64 ykind, .slice yta ytable.length ytc, .int .i64 yquota, .bool yfirst, .slice fa rs.length fc, .slice pa ps.length pc]).alloc _).cell 6
  have lk : w.heap.size < W1.heap.size := by
    rw [hW1]
    exact ((Blk.new w 85 #[.int .i64 ystake, .int .i64 ycut, .int .i64 ykind, .slice yta ytable.length ytc, .int .i64 yquota, .bool yfirst, .slice fa rs.length fc, .slice pa ps.length pc]).alloc (.cells #[.slice sa st.length sc] 24)).lt
  rw [← hW1]
  clear hW1
  go_wp2_with (first | (go_at_call 106; refine (HC.out).mono ?_; rintro e w2 ⟨v2, rfl, ho2, hG2⟩) | (go_at_call 105; refine (HD.out _ _ hG2 ho2).mono ?_; rintro e w3 ⟨v3, rfl, ho3, hG3⟩) | (go_at_call 108; refine (HS.out _ _ ho3).mono ?_; rintro e w4 ⟨rfl, ho4, hg4⟩))
  have hF := HP.out w4 v3 (by rw [← HTK.out]; exact ho4) (grow_own hG3 ho3 (Nat.le_refl _) hg4)
  first | (go_ret; exact hF) | exact hF
end Go.Proofs.YtnkmcoljijmgpaaGreat
set_option linter.unusedSimpArgs false
set_option linter.unusedVariables false
namespace Go.Proofs.YtnkmcoljijmgpaaGreat
open Go.RowKit Go.Shelf Go.Sort
attribute [local go_sem] Oper.semAt_some
/-- a row of rows of numbers, the last of them with a base of its own -/
structure OrdAt (W : World) (B : Nat) (v : Value) (gs : List (List Int)) (cs : List Value) (Bl : Nat) : Prop where
  out : W.ownsRow B 24 1 v gs.length cs
  inn : ∀ i, i < gs.length → W.ownsRow B 3 1 (cs.getD i undef) (gs.getD i []).length (iv (gs.getD i []))
  last : ∀ i, i + 1 = gs.length → W.ownsRow Bl 3 1 (cs.getD i undef) (gs.getD i []).length (iv (gs.getD i []))
  low : ∀ i, i + 1 < gs.length → ∀ g, (cs.getD i undef).ownBlock = some g → g < Bl
  bl : B ≤ Bl
  top : Bl ≤ W.heap.size
theorem OrdAt.nil (W : World) (B : Nat) (hB : B ≤ W.heap.size) : OrdAt W B (.slice none 0 0) [] [] B := ⟨World.ownsRow_nil _ _ _ _, fun i h => by simp at h, fun i h => by simp at h, fun i h => by simp at h, Nat.le_refl _, hB⟩
section
variable {W W' : World} {B : Nat} {v : Value} {gs : List (List Int)} {cs : List Value} {Bl : Nat}
theorem OrdAt.keepG (h : OrdAt W B v gs cs Bl) (hG : G W W') : OrdAt W' B v gs cs Bl := ⟨own_G h.out hG, fun i hi => own_G (h.inn i hi) hG, fun i hi => own_G (h.last i hi) hG, h.low, h.bl, Nat.le_trans h.top hG.size⟩
theorem OrdAt.len (h : OrdAt W B v gs cs Bl) : cs.length = gs.length := by have := h.out.1; omega
theorem getD_app {α : Type} {l : List α} {x d : α} {i : Nat} (h : i < l.length) : (l ++ [x]).getD i d = l.getD i d := by
  simp [List.getD_eq_getElem?_getD, List.getElem?_append_left h]
theorem getD_last {α : Type} {l : List α} {x d : α} {i : Nat} (h : i = l.length) : (l ++ [x]).getD i d = x := by
  subst h
  simp [List.getD_eq_getElem?_getD]
theorem own_none {W : World} {b s n : Nat} {e : TypeId} {v : Value} {xs : List Value} (h : W.ownsRow b e s v n xs) : v.ownBlock = none ∨ ∃ g, v.ownBlock = some g ∧ b ≤ g ∧ g < W.heap.size := by
  rcases h.2 with ⟨rfl, _⟩ | ⟨g, cap, cur, rfl, hb, hg, _⟩
  · exact .inl rfl
  · exact .inr ⟨g, rfl, hb, (Array.getElem?_eq_some_iff.1 hg).1⟩
/-- a new row, still empty -/
theorem OrdAt.new (h : OrdAt W B v gs cs Bl) {v' : Value} (ho : W'.ownsRow B 24 1 v' (gs.length + 1) (cs ++ [.slice none 0 0])) (hg : W.grownBy W' v.ownBlock) (hB : B ≤ W'.heap.size) : OrdAt W' B v' (gs ++ [[]]) (cs ++ [.slice none 0 0]) W'.heap.size := by
  have hl := h.len
  have hk : ∀ i, i < gs.length → W'.ownsRow B 3 1 (cs.getD i undef) (gs.getD i []).length (iv (gs.getD i [])) := fun i hi => (h.inn i hi).kept hg (own_own (h.inn i hi) h.out (by decide))
  have ha : ∀ i, i < gs.length + 1 → W'.ownsRow B 3 1 ((cs ++ [Value.slice none 0 0]).getD i undef) ((gs ++ [[]]).getD i []).length (iv ((gs ++ [[]]).getD i [])) := fun i hi => by
    by_cases h1 : i < gs.length
    · rw [getD_app (by omega), getD_app h1]
      exact hk i h1
    · rw [getD_last (by omega), getD_last (by omega)]
      exact World.ownsRow_nil _ _ _ _
  refine ⟨by rw [List.length_append]; exact ho, fun i hi => ha i (by simpa using hi), fun i hi => ?_, fun i hi g hgb => ?_, hB, Nat.le_refl _⟩
  · rw [List.length_append, List.length_singleton] at hi
    rw [getD_last (by omega), getD_last (by omega)]
    exact World.ownsRow_nil _ _ _ _
  · rw [List.length_append, List.length_singleton] at hi
    rw [getD_app (by omega)] at hgb
    rcases own_none (hk i (by omega)) with hn | ⟨g', e, _, hlt⟩
    · rw [hn] at hgb; cases hgb
    · rw [hgb] at e; cases e; exact hlt
/-- one more in the last row -/
def addLast (gs : List (List Int)) (b : Int) : List (List Int) := gs.set (gs.length - 1) (gs.getD (gs.length - 1) [] ++ [b])
theorem addLast_len (gs : List (List Int)) (b : Int) : (addLast gs b).length = gs.length := by simp [addLast]
theorem getD_set {α : Type} {l : List α} {x d : α} {i j : Nat} (h : i < l.length) : (l.set i x).getD j d = if j = i then x else l.getD j d := by
  rw [List.getD_eq_getElem?_getD, List.getElem?_set]
  by_cases e : i = j
  · subst e; simp [h]
  · simp [e, Ne.symm e, List.getD_eq_getElem?_getD]
theorem OrdAt.put (h : OrdAt W B v gs cs Bl) {u : Value} {x : Int} {W2 : World} {go n : Nat} (hn : gs.length = n + 1) (hu : W'.ownsRow Bl 3 1 u ((gs.getD n []).length + 1) (iv (gs.getD n [] ++ [x]))) (hg : W.grownBy W' (cs.getD n undef).ownBlock)
    (hv : v.ownBlock = some go) (hW : W2 = W'.setCell ⟨go, n, none⟩ u) : OrdAt W2 B v (addLast gs x) (cs.set n u) Bl ∧ ∀ w0 : World, w0.heap.size ≤ B → G w0 W → G w0 W2 := by
  subst hW
  have hl := h.len
  have hlast := h.last n (by omega)
  have hout : W'.ownsRow B 24 1 v gs.length cs := h.out.kept hg (by
    rcases own_own h.out hlast (by decide) with a | a
    · exact .inl a
    · exact .inr a)
  obtain ⟨g, cap, cur, rfl, hb, hgo, h1, h2, h3, h4⟩ := hout.2.resolve_left (fun a => by rw [a.1] at hv; cases hv)
  obtain rfl : go = g := by simpa [Value.ownBlock] using hv.symm
  have hB : Blk W' go 24 cur := hgo
  have hset : ∀ {b n' : Nat} {w : Value} {xs : List Value}, W'.ownsRow b 3 1 w n' xs → (W'.setCell ⟨go, n, none⟩ u).ownsRow b 3 1 w n' xs := fun hr => hr.kept (grownBy_set _ _ _) (.inr (own_ne hr hB (by decide)).symm)
  have hbase : ∀ g', (cs.getD n undef).ownBlock = some g' → Bl ≤ g' := fun g' e => own_base hlast e
  have hinn : ∀ i, i + 1 < gs.length → W'.ownsRow B 3 1 (cs.getD i undef) (gs.getD i []).length (iv (gs.getD i [])) := fun i hi => (h.inn i (by omega)).kept hg (by
    rcases own_none (h.inn i (by omega)) with a | ⟨g', e, _, _⟩
    · exact .inl a
    · refine .inr (fun e2 => ?_)
      have b1 := h.low i hi g' e
      have b2 := hbase g' (by rw [← e2]; exact e)
      omega)
  have hgn : (addLast gs x) = gs.set n (gs.getD n [] ++ [x]) := by unfold addLast; rw [hn]; rfl
  have hGu := hset hu
  refine ⟨⟨?_, fun i hi => ?_, fun i hi => ?_, fun i hi g' e => ?_, h.bl, Nat.le_trans h.top (Nat.le_trans hg.size (grownBy_set _ _ _).size)⟩, fun w0 hw hG => ?_⟩
  · rw [addLast_len]
    refine ⟨by rw [List.length_set]; omega, .inr ⟨go, cap, _, rfl, hb, hB.set_ n u, h1, h2, by simpa using h3, ?_⟩⟩
    rw [Array.toList_setIfInBounds, List.take_set, h4]
  · rw [addLast_len] at hi
    rw [hgn, getD_set (by omega), getD_set (by omega)]
    by_cases e : i = n
    · rw [if_pos e, if_pos e, List.length_append]
      exact own_weaken hGu h.bl
    · rw [if_neg e, if_neg e]
      exact hset (hinn i (by omega))
  · rw [addLast_len] at hi
    rw [hgn, getD_set (by omega), getD_set (by omega), if_pos (by omega), if_pos (by omega), List.length_append]
    exact hGu
  · rw [addLast_len] at hi
    rw [getD_set (by omega), if_neg (by omega)] at e
    exact h.low i hi g' e
  · have g1 : G w0 W' := grow_own hG hlast (Nat.le_trans hw h.bl) hg
    exact g1.s (p := ⟨go, n, none⟩) (Nat.le_trans hw hb) u
end
end Go.Proofs.YtnkmcoljijmgpaaGreat
set_option linter.unusedSimpArgs false
set_option linter.unusedVariables false
namespace Go.Proofs.YtnkmcoljijmgpaaGreat
open Go.RowKit Go.Shelf Go.Sort
attribute [local go_sem] Oper.semAt_some
theorem OrdAt.away {W W' : World} {B : Nat} {v : Value} {gs : List (List Int)} {cs : List Value} {Bl g : Nat} (h : OrdAt W B v gs cs Bl) (hF : ∀ b, b ≠ g → W'.heap[b]? = W.heap[b]?) (hg : g < B) (hsz : W.heap.size ≤ W'.heap.size) : OrdAt W' B v gs cs Bl :=
  have hne : ∀ {b s n : Nat} {e : TypeId} {u : Value} {xs : List Value}, B ≤ b → W.ownsRow b e s u n xs → some g ≠ u.ownBlock := fun hb hr e => by
    have := own_base hr e.symm
    omega
  ⟨own_away h.out hF (hne (Nat.le_refl _) h.out), fun i hi => own_away (h.inn i hi) hF (hne (Nat.le_refl _) (h.inn i hi)), fun i hi => own_away (h.last i hi) hF (hne h.bl (h.last i hi)), h.low, h.bl, Nat.le_trans h.top hsz⟩
theorem size_away {B C : World} {g : Nat} (hF : ∀ b, b ≠ g → C.heap[b]? = B.heap[b]?) (hs : g + 1 < B.heap.size) : B.heap.size ≤ C.heap.size := by
  have e := hF (B.heap.size - 1) (by omega)
  rw [Array.getElem?_eq_getElem (show B.heap.size - 1 < B.heap.size by omega)] at e
  have := (Array.getElem?_eq_some_iff.1 e).1
  omega
theorem Fr.away1 {A0 A B C : World} {g : Nat} (g3 : G A0 A) (h : Fr (fun i => i = g) A B) (hw : G A0 C) (hF : ∀ b, b ≠ g → C.heap[b]? = B.heap[b]?) (hs : g + 1 < B.heap.size) : Fr (fun i => i = g) A C := by
  have hsz : B.heap.size ≤ C.heap.size := by
    have e := hF (B.heap.size - 1) (by omega)
    rw [Array.getElem?_eq_getElem (show B.heap.size - 1 < B.heap.size by omega)] at e
    have := (Array.getElem?_eq_some_iff.1 e).1
    omega
  exact ⟨hw.os.trans g3.os.symm, hw.tape.trans g3.tape.symm, hw.output.trans g3.output.symm, Nat.le_trans h.size hsz, fun i hi hn => (hF i hn).trans (h.block i hi hn)⟩
theorem OrdAt.weaken {W : World} {B B' : Nat} {v : Value} {gs : List (List Int)} {cs : List Value} {Bl : Nat} (h : OrdAt W B v gs cs Bl) (hb : B' ≤ B) : OrdAt W B' v gs cs Bl :=
  ⟨own_weaken h.out hb, fun i hi => own_weaken (h.inn i hi) hb, h.last, h.low, Nat.le_trans hb h.bl, h.top⟩
/-- the day and rank of the bird before -/
def befD (l : List Rc) (k : Nat) : Int × Int := if k = 0 then (0, 0) else ((l.getD (k - 1) default).day, (l.getD (k - 1) default).rank)
def sameB (l : List Rc) (k : Nat) : Bool := decide ((l.getD k default).day = (befD l k).1 ∧ (l.getD k default).rank = (befD l k).2)
/-- the rings of the first k, those that tie together -/
def grpTo (l : List Rc) : Nat → List (List Int)
  | 0 => []
  | k + 1 => if sameB l k = true then addLast (grpTo l k) (l.getD k default).bird else addLast (grpTo l k ++ [[]]) (l.getD k default).bird
def orderL (f : Fu) (st : List Int) : List (List Int) := grpTo (takersL f st) (takersL f st).length
theorem grpTo_le (l : List Rc) : ∀ k, (grpTo l k).length ≤ k
  | 0 => Nat.le_refl _
  | k + 1 => by
    have := grpTo_le l k
    unfold grpTo
    by_cases h : sameB l k = true
    · rw [if_pos h, addLast_len]; omega
    · rw [if_neg h, addLast_len, List.length_append, List.length_singleton]; omega
theorem grpTo_pos (l : List Rc) (hd : ∀ i, i < l.length → (l.getD i default).day ≠ 0) : ∀ k, 0 < k → k ≤ l.length → 0 < (grpTo l k).length
  | 0, h, _ => by omega
  | k + 1, _, hk => by
    unfold grpTo
    by_cases h : sameB l k = true
    · rw [if_pos h, addLast_len]
      by_cases h0 : k = 0
      · subst h0
        unfold sameB befD at h
        simp only [if_true, decide_eq_true_eq] at h
        exact absurd h.1 (hd 0 (by omega))
      · exact grpTo_pos l hd k (by omega) (by omega)
    · rw [if_neg h, addLast_len, List.length_append, List.length_singleton]; omega
theorem addLast_row (gs : List (List Int)) (b : Int) (i : Nat) (N : Nat) (h : ∀ i, (gs.getD i []).length ≤ N) : ((addLast gs b).getD i []).length ≤ N + 1 := by
  unfold addLast
  by_cases hl : gs.length - 1 < gs.length
  · rw [getD_set hl]
    by_cases e : i = gs.length - 1
    · rw [if_pos e, List.length_append, List.length_singleton]; have := h (gs.length - 1); omega
    · rw [if_neg e]; have := h i; omega
  · rw [List.set_eq_of_length_le (by omega)]; have := h i; omega
theorem grpTo_row (l : List Rc) : ∀ k i, ((grpTo l k).getD i []).length ≤ k
  | 0, i => by simp [grpTo]
  | k + 1, i => by
    unfold grpTo
    by_cases h : sameB l k = true
    · rw [if_pos h]; exact addLast_row _ _ _ _ (grpTo_row l k)
    · rw [if_neg h]
      refine addLast_row _ _ _ _ (fun j => ?_)
      by_cases hj : j < (grpTo l k).length
      · rw [getD_app hj]; exact grpTo_row l k j
      · by_cases e : j = (grpTo l k).length
        · rw [getD_last e]; simp
        · simp [List.getD_eq_getElem?_getD, List.getElem?_append, hj, show ¬ j - (grpTo l k).length < 1 by omega]
def OrderPost (w : World) (gs : List (List Int)) (e : Ending) (w' : World) : Prop := ∃ v cs Bl, e = .returned v ∧ OrdAt w' w.heap.size v gs cs Bl ∧ G w w'
theorem info24 : (Tryz.prog.info? 24).map (fun i => (i.zero, i.size, i.bytes)) = some (some (.slice none 0 0), 1, 24) := by kernel_rfl
end Go.Proofs.YtnkmcoljijmgpaaGreat
