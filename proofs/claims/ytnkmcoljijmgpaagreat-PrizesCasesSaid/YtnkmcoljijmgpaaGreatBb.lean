import Derived.Test.YtnkmcoljijmgpaaGreatAx
set_option linter.unusedSimpArgs false
set_option linter.unusedVariables false
namespace Go.Proofs.YtnkmcoljijmgpaaGreat
open Go.RowKit Go.Shelf Go.Sort
attribute [local go_sem] Oper.semAt_some
theorem takers_mem {f : Fu} {st : List Int} {x : Rc} : x ∈ takersL f st ↔ x ∈ f.rs ∧ skipB f.po.first st x = false := by
  unfold takersL
  rw [(tks_perm _).mem_iff, List.mem_filter]
  simp
theorem takers_day {f : Fu} {st : List Int} {x : Rc} (h : x ∈ takersL f st) : x.day ≠ 0 := by
  have := (takers_mem.1 h).2
  unfold skipB at this
  intro e
  rw [e] at this
  simp at this
theorem takers_dayD (f : Fu) (st : List Int) : ∀ i, i < (takersL f st).length → ((takersL f st).getD i default).day ≠ 0 := fun i hi => by
  rw [List.getD_eq_getElem?_getD, List.getElem?_eq_getElem hi]
  exact takers_day (List.getElem_mem hi)
theorem orderL_flat (f : Fu) (st : List Int) : (orderL f st).flatten = (takersL f st).map Rc.bird := by
  have := (grpTo_flat (takersL f st) (takers_dayD f st) _ (Nat.le_refl _)).1
  rwa [List.take_length] at this
theorem orderL_ne (f : Fu) (st : List Int) : ∀ g ∈ orderL f st, g ≠ [] := (grpTo_flat (takersL f st) (takers_dayD f st) _ (Nat.le_refl _)).2
theorem takers_len (f : Fu) (st : List Int) : (takersL f st).length ≤ f.rs.length := by
  unfold takersL
  rw [tks_len]
  exact List.length_filter_le _ _
theorem takers_uniq {f : Fu} (hu : Uniq f.rs) (st : List Int) : Uniq (takersL f st) := by
  unfold takersL Uniq
  exact (tks_perm _).symm.pairwise (hu.sublist List.filter_sublist) (fun h e => h e.symm)
theorem sumBd {l : List Int} {M : Int} (h : ∀ x ∈ l, 0 ≤ x ∧ x ≤ M) : 0 ≤ l.sum ∧ l.sum ≤ M * l.length := by
  induction l with
  | nil => simp
  | cons a l ih =>
    have h1 := h a (List.mem_cons_self ..)
    have h2 := ih (fun x hx => h x (List.mem_cons_of_mem _ hx))
    rw [List.sum_cons, List.length_cons]
    have e : M * ((l.length + 1 : Nat) : Int) = M * l.length + M := by rw [Int.natCast_add, Int.mul_add]; simp
    rw [e]
    omega
theorem left_bd {f : Fu} (h : FuB f) : 0 ≤ lefI f ∧ lefI f ≤ 1200000 := by
  have a := h.tot
  have b := h.kep
  unfold lefI
  omega
theorem kind_table {x : Po} (h : poolB x = true) : ∀ n ∈ x.table, 0 ≤ n ∧ n ≤ 1000 := by
  unfold poolB kindB at h
  simp only [Bool.and_eq_true] at h
  obtain ⟨_, _, h⟩ := h
  intro n hn
  split at h
  · simp only [Bool.and_eq_true] at h
    have h1 := h.1
    unfold tableB at h1
    simp only [Bool.and_eq_true] at h1
    have h2 := allU_iff.1 h1.2.1
    obtain ⟨i, hi, rfl⟩ := List.mem_iff_getElem.1 hn
    have h3 := h2 i hi
    rw [List.getD_eq_getElem?_getD, List.getElem?_eq_getElem hi] at h3
    unfold isInB at h3
    simpa using h3
  · have : x.table = [] := by
      split at h
      · simp only [Bool.and_eq_true, decide_eq_true_eq] at h; exact List.length_eq_zero_iff.1 h.1
      · split at h
        · simp only [Bool.and_eq_true, decide_eq_true_eq] at h; exact List.length_eq_zero_iff.1 h.1
        · simp at h
    rw [this] at hn
    simp at hn
theorem kind_tlen {x : Po} (h : poolB x = true) : x.table.length ≤ 8 := by
  unfold poolB kindB at h
  simp only [Bool.and_eq_true] at h
  obtain ⟨_, _, h⟩ := h
  split at h
  · simp only [Bool.and_eq_true] at h
    have h1 := h.1
    unfold tableB at h1
    simp only [Bool.and_eq_true] at h1
    have h2 := h1.1
    unfold isInB at h2
    simp at h2
    omega
  · split at h
    · simp only [Bool.and_eq_true, decide_eq_true_eq] at h; omega
    · split at h
      · simp only [Bool.and_eq_true, decide_eq_true_eq] at h; omega
      · simp at h
theorem kind_quota {x : Po} (h : poolB x = true) (hk : x.kind = 2) : 1 ≤ x.quota ∧ x.quota ≤ 20 := by
  unfold poolB kindB at h
  simp only [Bool.and_eq_true] at h
  obtain ⟨_, _, h⟩ := h
  rw [if_neg (by omega), if_pos hk] at h
  simp only [Bool.and_eq_true] at h
  have := h.2
  unfold isInB at this
  simpa using this
theorem nPl_bd {f : Fu} (hF : FuB f) (hp : poolB f.po = true) (hk : f.po.kind = 2) : 0 ≤ nPl f ∧ nPl f ≤ 12 ∧ nPl f ≤ f.rs.length := by
  have hq := kind_quota hp hk
  have hm := hF.many
  unfold nPl
  have h0 : 0 ≤ ((f.rs.length : Int) + f.po.quota - 1) / f.po.quota := Int.ediv_nonneg (by omega) (by omega)
  have h1 : ((f.rs.length : Int) + f.po.quota - 1) / f.po.quota ≤ f.rs.length := by
    have : ((f.rs.length : Int) + f.po.quota - 1) / f.po.quota < f.rs.length + 1 := by
      apply Int.ediv_lt_of_lt_mul (by omega)
      have : ((f.rs.length : Int)) ≤ f.rs.length * f.po.quota := by
        have := Int.mul_le_mul_of_nonneg_left hq.1 (show (0 : Int) ≤ f.rs.length by omega)
        omega
      rw [Int.add_mul]
      omega
    omega
  omega
theorem places_bd {f : Fu} (hF : FuB f) (hp : poolB f.po = true) : (placesL f).length ≤ 12 ∧ ∀ x ∈ placesL f, 0 ≤ x ∧ x ≤ 1200000 := by
  have hl := left_bd hF
  unfold placesL
  split
  · refine ⟨by rw [List.length_map]; have := kind_tlen hp; omega, fun x hx => ?_⟩
    obtain ⟨n, hn, rfl⟩ := List.mem_map.1 hx
    have h1 := kind_table hp n hn
    have h2 : 0 ≤ lefI f * n := Int.mul_nonneg hl.1 h1.1
    have h3 : lefI f * n ≤ lefI f * 1000 := Int.mul_le_mul_of_nonneg_left h1.2 hl.1
    omega
  · split
    · rename_i h2
      have h3 := nPl_bd hF hp h2
      refine ⟨by rw [List.length_replicate]; omega, fun x hx => ?_⟩
      have e := List.eq_of_mem_replicate hx
      have h4 : 0 ≤ lefI f / nPl f := Int.ediv_nonneg hl.1 h3.1
      have h5 : lefI f / nPl f ≤ lefI f := Int.ediv_le_self _ hl.1
      omega
    · split
      · refine ⟨by simp, fun x hx => ?_⟩
        have e := List.mem_singleton.1 hx
        omega
      · exact ⟨by simp, fun x hx => by simp at hx⟩
theorem wonOk_any {f : Fu} (hF : FuB f) (hp : poolB f.po = true) (hu : Uniq f.rs) (hb : ∀ x ∈ f.rs, 0 ≤ x.bird ∧ x.bird ≤ 9999) (st : List Int) : WonOk (placesL f) (orderL f st) where
  pl := by have := (places_bd hF hp).1; omega
  sums k t := by
    have h := places_bd hF hp
    have h1 := sumBd (l := ((placesL f).drop k).take t) (M := 1200000) (fun x hx => h.2 x (List.mem_of_mem_drop (List.mem_of_mem_take hx)))
    have h2 : (((placesL f).drop k).take t).length ≤ 12 := by
      rw [List.length_take, List.length_drop]
      have := h.1
      omega
    omega
  gl := by
    have h1 := grpTo_le (takersL f st) (takersL f st).length
    have h2 := takers_len f st
    have h3 := hF.many
    unfold orderL
    omega
  gne g hg := by
    refine ⟨orderL_ne f st g hg, ?_⟩
    obtain ⟨i, hi, rfl⟩ := List.mem_iff_getElem.1 hg
    have h1 := grpTo_row (takersL f st) (takersL f st).length i
    have h2 := takers_len f st
    have h3 := hF.many
    have e : (grpTo (takersL f st) (takersL f st).length).getD i [] = (orderL f st)[i] := by
      show (orderL f st).getD i [] = _
      rw [List.getD_eq_getElem?_getD, List.getElem?_eq_getElem hi]
      rfl
    rw [e] at h1
    omega
  keys := by
    rw [orderL_flat, List.pairwise_map]
    exact takers_uniq hu st
  kb b hb' := by
    rw [orderL_flat] at hb'
    obtain ⟨x, hx, rfl⟩ := List.mem_map.1 hb'
    exact hb x (takers_mem.1 hx).1
theorem wst_len {PL : List Int} {GS : List (List Int)} (h : WonOk PL GS) : ∀ j, (wst PL GS j).2.length ≤ 12 * j
  | 0 => by simp [wst]
  | j + 1 => by
    have ih := wst_len h j
    show ((wst PL GS j).2 ++ gWon (wst PL GS j).1 (GS.getD j [])).length ≤ _
    rw [List.length_append, gWon_len]
    have : (GS.getD j []).length ≤ 12 := by
      rw [List.getD_eq_getElem?_getD]
      by_cases hj : j < GS.length
      · rw [List.getElem?_eq_getElem hj]
        exact (h.gne _ (List.getElem_mem hj)).2
      · rw [List.getElem?_eq_none (by omega)]
        simp
    omega
end Go.Proofs.YtnkmcoljijmgpaaGreat
set_option linter.unusedSimpArgs false
set_option linter.unusedVariables false
namespace Go.Proofs.YtnkmcoljijmgpaaGreat
open Go.RowKit Go.Shelf Go.Sort
attribute [local go_sem] Oper.semAt_some
def paF (pa : Option Addr) (t pc : Nat) : Option Addr := match pa with | none => none | some ⟨b, o, f⟩ => if t < pc then some ⟨b, o + t, f⟩ else some ⟨b, o, f⟩
theorem slHi (pa : Option Addr) (n cap t : Nat) (ht : t ≤ n) (hc : n ≤ cap) (hp : PaOk pa n cap) (W : World) : (Instr.sliceAt 24 (.slice pa n cap) none (some (.int .i64 t)) none).run Tryz.prog W = .ok (.slice pa t cap) W := by
  rcases hp with ⟨rfl, rfl, rfl⟩ | ⟨b, o, rfl⟩
  · obtain rfl : t = 0 := by omega
    go_simp
  · have h2 : (t : Int) ≤ cap := by omega
    have h3 : t ≤ cap := by omega
    go_simp
theorem slLo (pa : Option Addr) (n cap t : Nat) (ht : t ≤ n) (hc : n ≤ cap) (hp : PaOk pa n cap) (W : World) : (Instr.sliceAt 24 (.slice pa n cap) (some (.int .i64 t)) none none).run Tryz.prog W = .ok (.slice (paF pa t cap) (n - t) (cap - t)) W := by
  rcases hp with ⟨rfl, rfl, rfl⟩ | ⟨b, o, rfl⟩
  · obtain rfl : t = 0 := by omega
    go_simp
    rfl
  · have h2 : (t : Int) ≤ n := by omega
    dsimp only [paF]
    by_cases h : t < cap
    · rw [if_pos h]
      have h4 : (t : Int) < cap := by omega
      go_simp
      intro h; omega
    · rw [if_neg h]
      have h4 : ¬ (t : Int) < cap := by omega
      go_simp
      intro h; omega
theorem slHi2 (pa : Option Addr) (n cap t : Nat) (ht : t ≤ n) (hc : n ≤ cap) (hp : PaOk pa n cap) (W : World) : (Instr.slice 24 (.slice pa n cap) none (some (.int .i64 t)) none).run Tryz.prog W = .ok (.slice pa t cap) W := by
  rcases hp with ⟨rfl, rfl, rfl⟩ | ⟨b, o, rfl⟩
  · obtain rfl : t = 0 := by omega
    go_simp
  · have h2 : (t : Int) ≤ cap := by omega
    have h3 : t ≤ cap := by omega
    go_simp
theorem slLo2 (pa : Option Addr) (n cap t : Nat) (ht : t ≤ n) (hc : n ≤ cap) (hp : PaOk pa n cap) (W : World) : (Instr.slice 24 (.slice pa n cap) (some (.int .i64 t)) none none).run Tryz.prog W = .ok (.slice (paF pa t cap) (n - t) (cap - t)) W := by
  rcases hp with ⟨rfl, rfl, rfl⟩ | ⟨b, o, rfl⟩
  · obtain rfl : t = 0 := by omega
    go_simp
    rfl
  · have h2 : (t : Int) ≤ n := by omega
    dsimp only [paF]
    by_cases h : t < cap
    · rw [if_pos h]
      have h4 : (t : Int) < cap := by omega
      go_simp
      intro h; omega
    · rw [if_neg h]
      have h4 : ¬ (t : Int) < cap := by omega
      go_simp
      intro h; omega
theorem pa_ints {W : World} {pa : Option Addr} {pc : Nat} {q : List Int} (hp : PaOk pa q.length pc) (hc : q.length ≤ pc) (h : IntsAt W pa q) (t : Nat) : IntsAt W (paF pa t pc) (q.drop t) := by
  rcases hp with ⟨rfl, h0, rfl⟩ | ⟨b, o, rfl⟩
  · exact .inl (by rw [List.length_eq_zero_iff.1 h0]; simp)
  · dsimp only [paF]
    by_cases h1 : t < pc
    · rw [if_pos h1]
      exact ints_drop h t
    · exact .inl (List.drop_eq_nil_of_le (by omega))
theorem pa_ok {pa : Option Addr} {pc n : Nat} (hp : PaOk pa n pc) (t : Nat) (ht : t ≤ n) : PaOk (paF pa t pc) (n - t) (pc - t) := by
  rcases hp with ⟨rfl, rfl, rfl⟩ | ⟨b, o, rfl⟩
  · exact .inl ⟨rfl, by omega, by omega⟩
  · dsimp only [paF]
    by_cases h1 : t < pc
    · rw [if_pos h1]; exact .inr ⟨_, _, rfl⟩
    · rw [if_neg h1]; exact .inr ⟨_, _, rfl⟩
end Go.Proofs.YtnkmcoljijmgpaaGreat
set_option linter.unusedSimpArgs false
set_option linter.unusedVariables false
namespace Go.Proofs.YtnkmcoljijmgpaaGreat
open Go.RowKit Go.Shelf Go.Sort
attribute [local go_sem] Oper.semAt_some
set_option maxRecDepth 100000 in
set_option maxHeartbeats 8000000 in
theorem won_any (f : Fu) (st : List Int) (sa : Option Addr) (sc : Nat) (w : World) (hrow : RowE Rc.v 5 w f.fa f.rs) (hn : f.fa ≠ none ∨ f.rs = []) (hi : IntsAt w sa st) (hl : st.length ≤ 1000) (h12 : f.rs.length ≤ 12) (hu : Uniq f.rs) (hs : f.rs.Pairwise fun x y => x.bird ≤ y.bird)
    (hF : FuB f) (hp : poolB f.po = true) (ht : IntsAt w f.po.ta f.po.table) (hok : WonOk (placesL f) (orderL f st)) :
    Calls Tryz.prog 51 #[.agg f.v, .slice sa st.length sc] w (WonPost w (wonL f st)) := by
  have HO := Lib.hid (fun (W : World) (hW : G w W) => order_any f st sa sc W (hrow.below hW) hn (hi.below hW) hl h12 hu hs)
  have HPL := Lib.hid (fun (W : World) (hW : G w W) => places_any f W hF hp (ht.below hW))
  have HP : Hid (∀ w' m, Won w' m (wst (placesL f) (orderL f st) (orderL f st).length).2 → w.heap.size ≤ m → G w w' → WonPost w (wonL f st) (.returned (.map (some m))) w') := fun w' m a b c => ⟨m, rfl, a, b, c⟩
  generalize WonPost w (wonL f st) = PP at *
  generalize placesL f = PL at *
  generalize orderL f st = GS at *
  clear hrow hn hi hu hs hF hp ht
  obtain ⟨⟨ystake, ycut, ykind, yta, ytc, ytable, yquota, yfirst⟩, fa, fc, rs, pa, pc, ps⟩ := f
  unfold Fu.v at *
  dsimp only at *
  have g0 : G w (w.alloc (.cells #[.int .i64 ystake, .int .i64 ycut, .int .i64 ykind, .slice yta ytable.length ytc, .int .i64 yquota, .bool yfirst, .slice fa rs.length fc, .slice pa ps.length pc] 85)) := (G.rf _).a _
  have b0 : Blk (w.alloc (.cells #[.int .i64 ystake, .int .i64 ycut, .int .i64 ykind, .slice yta ytable.length ytc, .int .i64 yquota, .bool yfirst, .slice fa rs.length fc, .slice pa ps.length pc] 85)) w.heap.size 85 #[.int .i64 ystake, .int .i64 ycut, .int .i64 ykind, .slice yta ytable.length ytc, .int .i64 yquota, .bool yfirst, .slice fa rs.length fc, .slice pa ps.length pc] := Blk.new _ _ _
  go_enter Tryz.func51, Tryz.ntmps51
  go_upto_region 1 with fail
  change Code.wp _ _ _ _ (w.alloc (.cells #[.int .i64 ystake, .int .i64 ycut, .int .i64 ykind, .slice yta ytable.length ytc, .int .i64 yquota, .bool yfirst, .slice fa rs.length fc, .slice pa ps.length pc] 85))
  generalize w.alloc (.cells #[.int .i64 ystake, .int .i64 ycut, .int .i64 ykind, .slice yta ytable.length ytc, .int .i64 yquota, .bool yfirst, .slice fa rs.length fc, .slice pa ps.length pc] 85) = W1 at *
  have hmm := @run_makeMap Tryz.prog
  go_upto_region 2 with fail
  clear hmm
  have hs1 := (G.rf W1).a (.map #[] 0)
  have hw2 := Won.made W1
  have b2 := b0.alloc (.map #[] 0)
  have g2 : G w (W1.alloc (.map #[] 0)) := g0.a _
  have hmw : w.heap.size ≤ W1.heap.size := g0.size
  obtain ⟨m, hm⟩ : ∃ m, m = W1.heap.size := ⟨_, rfl⟩
  change Code.wp _ _ _ _ (W1.alloc (.map #[] 0))
  rw [← hm] at hw2 hmw ⊢
  generalize W1.alloc (.map #[] 0) = W2 at *
  clear hs1 g0 b0 hm
  have m0 := b2.cell 0
  have m1 := b2.cell 1
  have m2 := b2.cell 2
  have m3 := b2.cell 3
  have m4 := b2.cell 4
  have m5 := b2.cell 5
  have m6 := b2.cell 6
  have m7 := b2.cell 7
  have l0 := b2.lt
  go_wp2_with (first | (go_at_call 59; refine (HPL.out _ g2).mono ?_; rintro e w3 ⟨v3, rfl, ho3, hG3⟩; clear m0 m1 m2 m3 m4 m5 m6 m7 l0; have b3 := b2.keep hG3; have g3 := g2.t hG3; have m0 := b3.cell 0; have m1 := b3.cell 1; have m2 := b3.cell 2; have m3 := b3.cell 3; have m4 := b3.cell 4; have m5 := b3.cell 5; have m6 := b3.cell 6; have m7 := b3.cell 7; have l0 := b3.lt) | (go_at_call 58; refine (HO.out _ g3).mono ?_; rintro e w4 ⟨v4, cs, Bl, rfl, hor, hG4⟩; obtain ⟨oa, oc, rfl⟩ := own_slice hor.out))
  have g4 := g3.t hG4
  have hw4 := hw2.keep (hG3.t hG4)
  obtain ⟨pa3, pc3, rfl, hi3⟩ := own_ints ho3
  have hi4 := hi3.below hG4
  have HCAP3 : PL.length ≤ pc3 := by
    rcases ho3.2 with ⟨e, h0⟩ | ⟨g, cap, cur, e, _, _, h1, _⟩
    · omega
    · injection e with _ _ e3
      omega
  have HPA3 : Hid (PaOk pa3 PL.length pc3) := by
    rcases ho3.2 with ⟨e, h0⟩ | ⟨g, cap, cur, e, _⟩
    · injection e with e1 e2 e3
      exact .inl ⟨e1, h0, e3⟩
    · injection e with e1
      exact .inr ⟨g, 0, e1⟩
  have HOR := Lib.hid hor
  have HW4 := Lib.hid hw4
  have HOK := Lib.hid hok
  clear m0 m1 m2 m3 m4 m5 m6 m7 l0 b3 b2 hi3 ho3 hor hG3 hG4 hw2 HO HPL hok
  go_loopw [6, 20] (fun v i wr => ∃ (j : Nat) (pa : Option Addr) (pc : Nat), j ≤ GS.length ∧ i = .int .i64 j ∧ v = .slice pa (wst PL GS j).1.length pc ∧ (wst PL GS j).1.length ≤ pc ∧ Hid (PaOk pa (wst PL GS j).1.length pc) ∧ Hid (IntsAt w4 pa (wst PL GS j).1) ∧ Hid (Won wr m (wst PL GS j).2) ∧ Hid (Fr (fun i => i = m) w4 wr)) (fun _ i _ => GS.length - (intOf i).toNat)
  case atStart => exact ⟨0, pa3, pc3, Nat.zero_le _, rfl, rfl, HCAP3, HPA3, hi4, HW4.out, Fr.rf _ _⟩
  case round =>
    clear hi4 HCAP3 HPA3
    obtain ⟨j, pa, pc, hj, rfl, rfl, hpc, HPA, HIA, HWN, HFR⟩ := hrel
    obtain ⟨wo, rfl⟩ : ∃ wo, wo = wr := ⟨_, rfl⟩
    by_cases hlt : j < GS.length
    · have hji : (j : Int) < GS.length := by omega
      have hgm : GS.getD j [] ∈ GS := by
        rw [List.getD_eq_getElem?_getD, List.getElem?_eq_getElem hlt]
        exact List.getElem_mem _
      obtain ⟨hgne, hg12⟩ := HOK.out.gne _ hgm
      obtain ⟨go, ocap, ocur, hov, hbv, hlv, htv⟩ := own_some HOR.out.out (by omega)
      have hoi := HOR.out.inn j hlt
      obtain ⟨ga, gc, hcs, hig⟩ := own_ints hoi
      have hcl := HOR.out.len
      have hcell4 : w4.cell? ⟨go, j, none⟩ = some (.slice ga (GS.getD j []).length gc) := take_cell hbv htv (k := j) (by omega) (by rw [← hcs]; simp [List.getD_eq_getElem?_getD, show j < cs.length by omega])
      have hgom := HW4.out.ne hbv
      have hcell : wo.cell? ⟨go, j, none⟩ = some (.slice ga (GS.getD j []).length gc) := by
        have e := HFR.out.block go hlv hgom
        simp only [World.cell?] at hcell4 ⊢
        rw [e]
        exact hcell4
      have lgo : go < wo.heap.size := Nat.lt_of_lt_of_le hlv HFR.out.size
      simp only [Value.slice.injEq] at hov
      obtain ⟨rfl, _, rfl⟩ := hov
      obtain ⟨q, hq⟩ : ∃ q, q = (wst PL GS j).1 := ⟨_, rfl⟩
      obtain ⟨gr, hgr⟩ : ∃ gr, gr = GS.getD j [] := ⟨_, rfl⟩
      have hql : q.length ≤ 1000 := by
        obtain ⟨k, hk⟩ := wst_sub PL GS j
        rw [hq, hk, List.length_drop]
        have := HOK.out.pl
        omega
      have hqs : ∀ t, 0 ≤ (q.take t).sum ∧ (q.take t).sum ≤ 1000000000 := fun t => by
        obtain ⟨k, hk⟩ := wst_sub PL GS j
        rw [hq, hk]
        exact HOK.out.sums k t
      have HQS := Lib.hid hqs
      have HIG := Lib.hid hig
      rw [← hgr] at hgne hg12 HIG hcell
      rw [← hq] at hpc HIA HPA ⊢
      have HQ := Lib.hid hq
      have HGR := Lib.hid hgr
      clear hqs hig hcell4 hbv hlv htv hoi hcs hcl hgm hq hgr hgom
      have hj12 : GS.length ≤ 12 := HOK.out.gl
      have hgl : 0 < gr.length := List.length_pos_iff.2 hgne
      go_upto_region 7 with fail
      obtain ⟨t, ht⟩ : ∃ t, t = min gr.length q.length := ⟨_, rfl⟩
      have hmin : min (gr.length : Int) (q.length : Int) = (t : Nat) := by omega
      have htq : t ≤ q.length := by omega
      have htg : t ≤ gr.length := by omega
      rw [hmin]
      have htl : (q.take t).length = t := by rw [List.length_take]; omega
      have hsum := HQS.out t
      have HSM : Hid (∀ W' cap, G wo W' → Calls Tryz.prog 75 #[.slice pa t cap] W' fun e w' => e = .returned (.int .i64 (q.take t).sum) ∧ G W' w') := fun W' cap hW => by
        have h9 := sum_any (q.take t) pa cap W' ((ints_take (ints_fr HW4.out HFR.out HIA.out) t).below hW) (by omega) (fun k hk => by
          have h8 := HQS.out (min k t)
          unfold sumTo
          rw [List.take_take]
          omega)
        rw [htl] at h9
        exact h9
      have HTE := Lib.hid ht
      clear ht htl hmin
      have htc : (t : Int) ≤ pc := by omega
      have htqi : (t : Int) ≤ q.length := by omega
      have htc2 : t ≤ pc := by omega
      have HSA := Lib.hid (fun (a b : Int) (W : World) => shares_any a b W)
      have HSUM := Lib.hid hsum
      clear hsum hcell lgo HOR HP
      obtain ⟨SM, hSM⟩ : ∃ SM, SM = (q.take t).sum := ⟨_, rfl⟩
      rw [← hSM] at HSM HSUM
      have HSE := Lib.hid hSM
      clear hSM
      have e1 := slHi pa q.length pc t htq hpc HPA.out
      have e2 := slHi2 pa q.length pc t htq hpc HPA.out
      go_upto_region 8 with (first | (go_at_call 75; refine (HSM.out _ _ (G.rf wo)).mono ?_; rintro e w5 ⟨rfl, hG5⟩) | (go_at_call 74; refine (HSA.out _ _ _).mono ?_; rintro e w6 ⟨rfl, hA, hBk, hG6⟩))
      have HFR6 := Lib.hid ((HFR.out.g hG5).g hG6)
      have HW6 := Lib.hid (show Won w6 m ((wst PL GS j).2 ++ (gWon q gr).take 0) by rw [List.take_zero, List.append_nil]; exact (HWN.out.keep hG5).keep hG6)
      have HDR := Lib.hid (show (wst PL GS (j + 1)).1 = q.drop t by show (wst PL GS j).1.drop (min (GS.getD j []).length (wst PL GS j).1.length) = _; rw [← HQ.out, ← HGR.out, ← HTE.out])
      have HWX := Lib.hid (fun (W : World) (h : Won W m ((wst PL GS j).2 ++ (gWon q gr).take gr.length)) => show Won W m (wst PL GS (j + 1)).2 by
        have e : (gWon q gr).take gr.length = gWon q gr := by rw [← gWon_len q gr, List.take_length]
        rw [e, HQ.out, HGR.out] at h
        exact h)
      clear e1 e2
      have e1 := slLo pa q.length pc t htq hpc HPA.out
      have e2 := slLo2 pa q.length pc t htq hpc HPA.out
      go_upto_region 9 with fail
      clear e1 e2
      have HDC := Lib.hid (show (q.drop t).length ≤ pc - t by rw [List.length_drop]; omega)
      have HPX := Lib.hid (show PaOk (paF pa t pc) (q.drop t).length (pc - t) by rw [List.length_drop]; exact pa_ok HPA.out t htq)
      have HIX := Lib.hid (pa_ints HPA.out hpc HIA.out t)
      go_wp2_with fail
      go_loopw [41] (fun v wr => ∃ i : Nat, i ≤ gr.length ∧ v = .int .i64 i ∧ Hid (Won wr m ((wst PL GS j).2 ++ (gWon q gr).take i)) ∧ Hid (Fr (fun i => i = m) w6 wr)) (fun v _ => gr.length - (intOf v).toNat)
      case atStart => exact ⟨0, Nat.zero_le _, rfl, HW6.out, Fr.rf _ _⟩
      case round =>
        obtain ⟨i, hi, rfl, HWR, HF6⟩ := hrel
        obtain ⟨wi, rfl⟩ : ∃ wi, wi = wr := ⟨_, rfl⟩
        by_cases hil : i < gr.length
        · have hii : (i : Int) < gr.length := by omega
          have hfr := HFR6.out.t HF6.out
          rcases ints_fr HW4.out hfr HIG.out with h | ⟨gb, goff, rfl, lgb, hgc⟩
          · exact absurd h hgne
          have q0 := hgc i hil
          have hkeyb : 0 ≤ gr.getD i 0 ∧ gr.getD i 0 ≤ 9999 := by
            refine HOK.out.kb (gr.getD i 0) (List.mem_flatten.2 ⟨gr, ?_, ?_⟩)
            · rw [HGR.out, List.getD_eq_getElem?_getD, List.getElem?_eq_getElem hlt]; exact List.getElem_mem _
            · rw [List.getD_eq_getElem?_getD, List.getElem?_eq_getElem hil]
              exact List.getElem_mem _
          have hfs : ((wst PL GS j).2 ++ (gWon q gr).take i).any (fun p => p.1 == gr.getD i 0) = false := by
            have h8 := fresh HOK.out.keys hlt (i := i) (by rw [← HGR.out]; exact hil) PL
            rw [← HGR.out, ← HQ.out] at h8
            exact h8
          have htk : (gWon q gr).take (i + 1) = (gWon q gr).take i ++ [(gr.getD i 0, shareI SM gr.length i)] := by
            rw [gWon_take q gr hil, ← HTE.out, ← HSE.out]
          have HTK := Lib.hid htk
          have HFS := Lib.hid hfs
          obtain ⟨bd, hbd⟩ : ∃ bd, bd = gr.getD i 0 := ⟨_, rfl⟩
          rw [← hbd] at q0 hkeyb HFS HTK
          have hshb : 0 ≤ shareI SM gr.length i ∧ shareI SM gr.length i ≤ 1000000001 := by
            have hs5 := HSUM.out
            have h1 : 0 ≤ SM / (gr.length : Int) := Int.ediv_nonneg hs5.1 (by omega)
            have h2 : SM / (gr.length : Int) ≤ SM := Int.ediv_le_self _ hs5.1
            unfold shareI
            split <;> omega
          have hA9 : Blk wi w5.heap.size 3 #[.int .i64 SM] := (HF6.out.block _ hA.lt (HW6.out.ne hA)).trans hA
          have hB9 : Blk wi (w5.heap.size + 1) 3 #[.int .i64 gr.length] := (HF6.out.block _ hBk.lt (HW6.out.ne hBk)).trans hBk
          have HSH := Lib.hid (share99 SM gr.length i w5.heap.size (w5.heap.size + 1) wi ⟨HSUM.out.1, by have := HSUM.out.2; omega⟩ ⟨by omega, by omega⟩ (by omega) hA9 hB9)
          obtain ⟨SV, hSV⟩ : ∃ SV, SV = shareI SM gr.length i := ⟨_, rfl⟩
          rw [← hSV] at HSH HTK hshb
          have hnl : ((wst PL GS j).2 ++ (gWon q gr).take i).length < maxLen := by
            have h1 := wst_len HOK.out j; rw [List.length_append, List.length_take, gWon_len]; unfold maxLen; omega
          have HNL := Lib.hid hnl
          clear htk hfs hbd hSV hA9 hB9 hnl hgc hfr
          go_wp2_with ((first | go_at_call 99 | go_at_fn 99); refine (HSH.out).mono ?_; rintro e w7 ⟨rfl, hG7⟩; obtain ⟨W8, hrun, hwn8, hg8⟩ := Won.store (HWR.out.keep hG7) (x := bd) (c := SV) (by omega) (by omega) HNL.out HFS.out)
          go_roundw
          case rel => exact ⟨i + 1, by omega, by go_num, by rw [HTK.out, ← List.append_assoc]; exact hwn8, (HF6.out.g hG7).grown hg8 (fun g e => .inl (by cases e; rfl))⟩
          case measure => simp [intOf] <;> omega
        · obtain rfl : i = gr.length := by omega
          have hii : ¬ ((gr.length : Nat) : Int) < gr.length := by omega
          go_wp2_with fail
          go_roundw
          case rel => exact ⟨j + 1, paF pa t pc, pc - t, by omega, by go_num, by rw [HDR.out, List.length_drop], by rw [HDR.out]; exact HDC.out, by rw [HDR.out]; exact HPX.out, by rw [HDR.out]; exact HIX.out, HWX.out wi HWR.out, HFR6.out.t HF6.out⟩
          case measure => simp [intOf] <;> omega
    · obtain rfl : j = GS.length := by omega
      have hji : ¬ ((GS.length : Nat) : Int) < GS.length := by omega
      have gz : G w wo := ((G.fr (R := fun _ => False) g4).t2 HFR.out (fun i hi h => by omega)).toG (fun _ _ h => h)
      have HF := Lib.hid (HP.out wo m HWN.out hmw gz)
      clear HP
      go_wp2_with fail
      first | exact HF.out | (go_ret; exact HF.out)
end Go.Proofs.YtnkmcoljijmgpaaGreat
set_option linter.unusedSimpArgs false
set_option linter.unusedVariables false
namespace Go.Proofs.YtnkmcoljijmgpaaGreat
open Go.RowKit Go.Shelf Go.Sort Go.Maps
attribute [local go_sem] Oper.semAt_some
/-- a range over such a map under way: what is still to come -/
def WRng (W : World) (m r : Nat) (ps qs : List (Int × Int)) (cnt : Nat) : Prop := ∃ (D : DataW Unit) (left : Lit → Bool), W.ranges Tryz.prog 3 (plainElem Tryz.prog 3) m r ps.length D left cnt ∧ (∀ q, q ∈ ps → ∀ z, D.atKey (.int .i64 q.1) z = .lit (.int .i64 q.2)) ∧ (∀ x : Int, left (.int .i64 x) = qs.any fun p => p.1 == x) ∧ ∀ q ∈ qs, q ∈ ps
theorem WRng.left_eq {W : World} {m r : Nat} {ps qs : List (Int × Int)} {cnt : Nat} (h : WRng W m r ps qs cnt) : W.rangeLeft m r = cnt := by
  obtain ⟨D, left, h1, _⟩ := h
  exact h1.left_eq
theorem WRng.keepG {W W' : World} {m r : Nat} {ps qs : List (Int × Int)} {cnt : Nat} (h : WRng W m r ps qs cnt) (hG : G W W') : WRng W' m r ps qs cnt := by
  obtain ⟨D, left, h1, h2⟩ := h
  refine ⟨D, left, ?_, h2⟩
  obtain ⟨es, clock, since, seen, c0, hb, F, hs, hD, hr, hrest⟩ := h1
  exact ⟨es, clock, since, seen, c0, (hG.block m (Array.getElem?_eq_some_iff.1 hb).1).trans hb, F, hs, hD, (hG.block r (Array.getElem?_eq_some_iff.1 hr).1).trans hr, hrest⟩
theorem keyOf3_inv {key : Value} {kl : Lit} (h : keyOf Tryz.prog 3 key = some kl) : ∃ x, key = .int .i64 x := by
  obtain ⟨x, rfl, _⟩ := Maps.keyOf_int_inv Tryz.underlying3 h
  exact ⟨x, rfl⟩
section
variable {ops : Array Oper} {rest : List Oper} {o : Oper} {a : Act} {Q : Exit → Act → World → Prop}
theorem wpList_range_won (w : World) (hg : o.guard = none) (mo : Operand) (hop : o.op = Op.range 90 mo) {m : Nat} {ps : List (Int × Int)} (hm : a.eval mo = .map (some m)) (hw : Won w m ps)
    (hK : ∀ w', WRng w' m w.heap.size ps ps (w'.rangeLeft m w.heap.size) → w.grownBy w' none → w'.heap.size = w.heap.size + 1 → wpList Tryz.prog ops Q rest (a.put o.dst (.pointer (some ⟨w.heap.size, 0, none⟩))) w') :
    wpList Tryz.prog ops Q (o :: rest) a w := by
  obtain ⟨D, h1, h2, h3, _⟩ := hw
  refine wpList_range_own w hg mo 90 hop 3 3 law3 Tryz.underlying90 (plainElem Tryz.prog 3) m ps.length D hm h1 (fun w' hr hgr hsz => hK w' ?_ hgr hsz)
  exact ⟨D, _, by rw [hr.left_eq]; exact hr, h3, h2, fun q h => h⟩
theorem wpList_next_won (w : World) (hg : o.guard = none) (it : Operand) (hop : o.op = Op.next it false) {m r : Nat} {ps qs : List (Int × Int)} {cnt : Nat} (hit : a.eval it = .pointer (some ⟨r, 0, none⟩)) (h : WRng w m r ps qs cnt)
    (hDone : qs = [] → wpList Tryz.prog ops Q rest (a.put o.dst (.tuple #[.bool false])) w)
    (hMore : ∀ q ∈ qs, ∀ w' cnt', WRng w' m r ps (qs.filter fun p => p.1 != q.1) cnt' → cnt' < cnt → w.grownBy w' (some r) → w'.heap.size = w.heap.size → (Instr.entry (.pointer (some ⟨r, 0, none⟩))).run Tryz.prog w' = .ok (.tuple #[.int .i64 q.1, .int .i64 q.2]) w' → wpList Tryz.prog ops Q rest (a.put o.dst (.tuple #[.bool true, .int .i64 q.1, .int .i64 q.2])) w') :
    wpList Tryz.prog ops Q (o :: rest) a w := by
  obtain ⟨D, left, h1, h2, h3, h4⟩ := h
  refine wpList_next_ranges_ii w hg it hop 3 3 .i64 .i64 law3 Tryz.underlying3 Tryz.underlying3 m r ps.length D left cnt hit h1 (fun _ hl => hDone ?_) (fun x c w' cnt' _ _ hlx hat hr hlt hgr hsz hen => ?_)
  · rw [List.eq_nil_iff_forall_not_mem]
    intro q hq
    have e := h3 q.1
    rw [hl] at e
    have e' := List.any_eq_false.1 e.symm q hq
    simp at e'
  · rw [h3 x] at hlx
    obtain ⟨q, hq, hqx⟩ := List.any_eq_true.1 hlx
    have hqe : q.1 = x := by simpa using hqx
    have hc := h2 q (h4 q hq) .nil
    rw [hqe, hat] at hc
    simp only [DataW.lit.injEq, Lit.int.injEq, true_and] at hc
    subst hqe
    subst hc
    refine hMore q hq w' cnt' ⟨D, _, hr, h2, fun y => ?_, fun p hp => h4 p (List.mem_filter.1 hp).1⟩ hlt hgr hsz hen
    simp only [h3]
    have hsk : (Lit.int .i64 y).sameKey (.int .i64 q.1) = (y == q.1) := by
      have := WideAt.sameKey_iff (a := .int .i64 y) (b := .int .i64 q.1) (law3.key (keyOf_int_mk Tryz.underlying3 (by
        first | exact wfI (by omega) | (obtain ⟨_, _⟩ := hr; assumption) | assumption)))
      by_cases e : y = q.1
      · subst e
        rw [this.2 rfl]
        simp
      · have h9 : ¬ (Lit.int .i64 y).sameKey (.int .i64 q.1) = true := fun hh => e (by have := this.1 hh; injection this)
        rw [Bool.not_eq_true] at h9
        rw [h9]
        simp [e]
    rw [hsk, List.any_filter]
    by_cases e : y = q.1
    · subst e
      simp
    · have hb : (y == q.1) = false := by simpa using e
      rw [hb]
      simp only [Bool.not_false, Bool.and_true]
      congr 1
      funext p
      by_cases e2 : p.1 = y
      · subst e2
        simp [e]
      · simp [e2]
end
end Go.Proofs.YtnkmcoljijmgpaaGreat
set_option linter.unusedSimpArgs false
set_option linter.unusedVariables false
namespace Go.Proofs.YtnkmcoljijmgpaaGreat
open Go.RowKit Go.Shelf Go.Sort Go.Maps
attribute [local go_sem] Oper.semAt_some
def sndS (ps : List (Int × Int)) : Int := (ps.map Prod.snd).sum
theorem sndS_nonneg {ps : List (Int × Int)} (h : ∀ q ∈ ps, 0 ≤ q.2) : 0 ≤ sndS ps := by
  induction ps with
  | nil => simp [sndS]
  | cons a l ih =>
    have h1 := h a (List.mem_cons_self ..)
    have h2 := ih (fun x hx => h x (List.mem_cons_of_mem _ hx))
    unfold sndS at *
    rw [List.map_cons, List.sum_cons]
    omega
theorem filter_id {qs : List (Int × Int)} {x : Int} (h : ∀ p ∈ qs, p.1 ≠ x) : qs.filter (fun p => p.1 != x) = qs := List.filter_eq_self.2 (fun p hp => by simpa using h p hp)
theorem filter_sum {qs : List (Int × Int)} (hk : qs.Pairwise fun a b => a.1 ≠ b.1) {q : Int × Int} (hq : q ∈ qs) : sndS qs = q.2 + sndS (qs.filter fun p => p.1 != q.1) := by
  induction qs with
  | nil => simp at hq
  | cons a l ih =>
    rw [List.pairwise_cons] at hk
    rcases List.mem_cons.1 hq with rfl | hq
    · rw [List.filter_cons_of_neg (by simp), filter_id (fun p hp => (hk.1 p hp).symm)]
      simp [sndS]
    · have hne : a.1 ≠ q.1 := hk.1 q hq
      rw [List.filter_cons_of_pos (by simpa using hne)]
      have := ih hk.2 hq
      unfold sndS at *
      simp only [List.map_cons, List.sum_cons]
      omega
set_option maxRecDepth 100000 in
set_option maxHeartbeats 8000000 in
theorem rest_any (f : Fu) (prs : List (Int × Int)) (m : Nat) (w : World) (hw : Won w m prs) (hF : FuB f) (hk : prs.Pairwise fun a b => a.1 ≠ b.1) (hb : ∀ q ∈ prs, 0 ≤ q.2) (hs : sndS prs ≤ 1000000000000) :
    Calls Tryz.prog 50 #[.agg f.v, .map (some m)] w fun e w' => e = .returned (.int .i64 (lefI f - sndS prs)) ∧ G w w' := by
  have HL := Lib.hid (fun (W : World) => left_any f W hF)
  have hlb : 0 ≤ lefI f ∧ lefI f ≤ 1200000 := left_bd hF
  generalize lefI f = LV at *
  clear hF
  obtain ⟨⟨ystake, ycut, ykind, yta, ytc, ytable, yquota, yfirst⟩, fa, fc, rs, pa, pc, ps⟩ := f
  unfold Fu.v at *
  dsimp only at *
  have g0 : G w (w.alloc (.cells #[.int .i64 ystake, .int .i64 ycut, .int .i64 ykind, .slice yta ytable.length ytc, .int .i64 yquota, .bool yfirst, .slice fa rs.length fc, .slice pa ps.length pc] 85)) := (G.rf _).a _
  have b0 : Blk (w.alloc (.cells #[.int .i64 ystake, .int .i64 ycut, .int .i64 ykind, .slice yta ytable.length ytc, .int .i64 yquota, .bool yfirst, .slice fa rs.length fc, .slice pa ps.length pc] 85)) w.heap.size 85 #[.int .i64 ystake, .int .i64 ycut, .int .i64 ykind, .slice yta ytable.length ytc, .int .i64 yquota, .bool yfirst, .slice fa rs.length fc, .slice pa ps.length pc] := Blk.new _ _ _
  have hw0 := hw.keep g0
  clear hw
  go_enter Tryz.func50, Tryz.ntmps50
  go_upto_region 1 with fail
  change Code.wp _ _ _ _ (w.alloc (.cells #[.int .i64 ystake, .int .i64 ycut, .int .i64 ykind, .slice yta ytable.length ytc, .int .i64 yquota, .bool yfirst, .slice fa rs.length fc, .slice pa ps.length pc] 85))
  generalize w.alloc (.cells #[.int .i64 ystake, .int .i64 ycut, .int .i64 ykind, .slice yta ytable.length ytc, .int .i64 yquota, .bool yfirst, .slice fa rs.length fc, .slice pa ps.length pc] 85) = W1 at *
  have m0 := b0.cell 0
  have m1 := b0.cell 1
  have m2 := b0.cell 2
  have m3 := b0.cell 3
  have m4 := b0.cell 4
  have m5 := b0.cell 5
  have m6 := b0.cell 6
  have m7 := b0.cell 7
  have l0 := b0.lt
  go_upto_region 2 with (go_at_call 49; refine (HL.out _).mono ?_; rintro e w2 ⟨rfl, hG2⟩)
  have hw2 := hw0.keep hG2
  have g2 := g0.t hG2
  clear m0 m1 m2 m3 m4 m5 m6 m7 l0 hw0
  go_wp2_with (at_range; refine wpList_range_won _ rfl _ rfl rfl hw2 ?_; intro w3 hrg3 hgr3 hs3)
  go_frame
  have hrn : w.heap.size ≤ w2.heap.size := g2.size
  obtain ⟨r, hr⟩ : ∃ r, r = w2.heap.size := ⟨_, rfl⟩
  rw [← hr] at hrg3 hs3 hrn ⊢
  clear hr
  have g3 : G w w3 := (Fr.grown (G.fr (R := fun _ => False) g2) hgr3 (fun g e => by cases e)).toG (fun _ _ h => h)
  clear hgr3 hs3 g2 hG2 g0 b0
  have HS0 := Lib.hid (sndS_nonneg hb)
  go_loopw [5] (fun v wr => ∃ (qs : List (Int × Int)) (cnt : Nat), WRng wr m r prs qs cnt ∧ v = .int .i64 (LV - (sndS prs - sndS qs)) ∧ Hid (qs.Pairwise fun a b => a.1 ≠ b.1) ∧ Hid (∀ q ∈ qs, 0 ≤ q.2) ∧ Hid (sndS qs ≤ sndS prs) ∧ G w wr) (fun _ wr => wr.rangeLeft m r)
  case atStart => exact ⟨prs, _, hrg3, by congr 1; omega, hk, hb, Int.le_refl _, g3⟩
  case round =>
    obtain ⟨qs, cnt, hrg, rfl, HK, HB, HLE, hgw⟩ := hrel
    obtain ⟨wo, rfl⟩ : ∃ wo, wo = wr := ⟨_, rfl⟩
    clear hrg3 hk hb
    go_wp2_with (at_next; refine wpList_next_won _ rfl _ rfl rfl hrg ?_ ?_)
    · intro h0
      subst h0
      have hz : LV - (sndS prs - sndS []) = LV - sndS prs := by simp [sndS]
      rw [hz]
      go_wp2_with fail
      go_ret
      exact ⟨rfl, hgw⟩
    · intro qk qv hq w5 cnt5 hrg5 hlt5 hg5 hs5 hen

      have hgw5 : G w w5 := (Fr.grown (G.fr (R := fun _ => False) hgw) hg5 (fun g e => by cases e; exact .inr hrn)).toG (fun _ _ h => h)
      have hsum := filter_sum HK.out hq
      have hq2 : 0 ≤ qv := HB.out (qk, qv) hq
      dsimp only at hsum
      have hF2 := Lib.hid (HK.out.sublist (List.filter_sublist (p := fun p : Int × Int => p.1 != qk)))
      have hB2 : Hid (∀ p ∈ qs.filter (fun p : Int × Int => p.1 != qk), 0 ≤ p.2) := fun p hp => HB.out p (List.mem_filter.1 hp).1
      have hle := HLE.out
      have hnn := sndS_nonneg hB2.out
      have hHS := HS0.out
      obtain ⟨S', hS'⟩ : ∃ S', S' = sndS (qs.filter fun p => p.1 != qk) := ⟨_, rfl⟩
      have HS' := Lib.hid hS'
      obtain ⟨SP, hSP⟩ : ∃ SP, SP = sndS prs := ⟨_, rfl⟩
      obtain ⟨SQ, hSQ⟩ : ∃ SQ, SQ = sndS qs := ⟨_, rfl⟩
      rw [← hS'] at hsum hnn
      rw [← hSP] at hle hHS hs ⊢
      rw [← hSQ] at hle hsum ⊢
      have x1 : IntKind.i64.wrap (LV - (SP - SQ) - qv) = LV - (SP - SQ) - qv := IntWalk.i64_in _ (by omega)
      have HSUM := Lib.hid hsum
      have hSPQ := Lib.hid hSP
      have hle2 := Lib.hid hle
      clear hS' hSP hSQ hsum hle
      go_wp2_with fail
      go_roundw
      case rel => exact ⟨_, cnt5, hrg5, by rw [← HS'.out, ← hSPQ.out]; congr 1; have := HSUM.out; omega, hF2.out, hB2.out, by rw [← HS'.out, ← hSPQ.out]; show S' ≤ SP; have := HSUM.out; have := hle2.out; omega, hgw5⟩
      case measure => rw [hrg5.left_eq, hrg.left_eq]; exact hlt5
end Go.Proofs.YtnkmcoljijmgpaaGreat
set_option linter.unusedSimpArgs false
set_option linter.unusedVariables false
namespace Go.Proofs.YtnkmcoljijmgpaaGreat
open Go.RowKit Go.Shelf Go.Sort Go.Maps
attribute [local go_sem] Oper.semAt_some
theorem share_part (A : Int) (n : Nat) (hA : 0 ≤ A) (hn : 1 ≤ n) : ∀ k : Nat, ((List.range k).map fun i => shareI A n i).sum = k * (A / n) + min (k : Int) (A % n)
  | 0 => by
    have : 0 ≤ A % (n : Int) := Int.emod_nonneg _ (by omega)
    simp
    omega
  | k + 1 => by
    rw [List.range_succ, List.map_append, List.sum_append, share_part A n hA hn k]
    have h0 : 0 ≤ A % (n : Int) := Int.emod_nonneg _ (by omega)
    have e : ((k + 1 : Nat) : Int) * (A / n) = k * (A / n) + A / n := by rw [Int.natCast_add, Int.add_mul]; simp
    rw [e]
    simp only [List.map_cons, List.map_nil, List.sum_cons, List.sum_nil, shareI]
    generalize (k : Int) * (A / n) = X
    generalize A / (n : Int) = Y
    split <;> omega
theorem share_sum (A : Int) (n : Nat) (hA : 0 ≤ A) (hn : 1 ≤ n) : ((List.range n).map fun i => shareI A n i).sum = A := by
  rw [share_part A n hA hn n]
  have h0 : A % (n : Int) < n := Int.emod_lt_of_pos _ (by omega)
  have h1 := Int.mul_ediv_add_emod A n
  rw [show min (n : Int) (A % n) = A % n by omega]
  exact h1
theorem share_nonneg (A : Int) (n i : Nat) (hA : 0 ≤ A) : 0 ≤ shareI A n i := by
  unfold shareI
  have : 0 ≤ A / (n : Int) := Int.ediv_nonneg hA (by omega)
  split <;> omega
theorem sndS_append (a b : List (Int × Int)) : sndS (a ++ b) = sndS a + sndS b := by simp [sndS]
theorem gWon_sum {q g : List Int} (hg : g ≠ []) (hq : 0 ≤ (q.take (min g.length q.length)).sum) : sndS (gWon q g) = (q.take (min g.length q.length)).sum := by
  unfold sndS gWon
  rw [List.map_map]
  exact share_sum _ _ hq (List.length_pos_iff.2 hg)
theorem wst_sum {PL : List Int} {GS : List (List Int)} (h : WonOk PL GS) : ∀ j, j ≤ GS.length → sndS (wst PL GS j).2 + (wst PL GS j).1.sum = PL.sum
  | 0, _ => by simp [wst, sndS]
  | j + 1, hj => by
    have ih := wst_sum h j (by omega)
    show sndS ((wst PL GS j).2 ++ gWon (wst PL GS j).1 (GS.getD j [])) + ((wst PL GS j).1.drop (min (GS.getD j []).length (wst PL GS j).1.length)).sum = _
    have hm : GS.getD j [] ∈ GS := by
      rw [List.getD_eq_getElem?_getD, List.getElem?_eq_getElem (by omega)]
      exact List.getElem_mem _
    obtain ⟨k, hk⟩ := wst_sub PL GS j
    rw [sndS_append, gWon_sum (h.gne _ hm).1 (by rw [hk]; exact (h.sums k _).1)]
    have e := List.take_append_drop (min (GS.getD j []).length (wst PL GS j).1.length) (wst PL GS j).1
    have e2 := congrArg List.sum e
    rw [List.sum_append] at e2
    omega
theorem wst_nonneg {PL : List Int} {GS : List (List Int)} (h : WonOk PL GS) : ∀ j, ∀ q ∈ (wst PL GS j).2, 0 ≤ q.2
  | 0 => by simp [wst]
  | j + 1 => by
    intro q hq
    rcases List.mem_append.1 (show q ∈ (wst PL GS j).2 ++ gWon (wst PL GS j).1 (GS.getD j []) from hq) with hq | hq
    · exact wst_nonneg h j q hq
    · unfold gWon at hq
      obtain ⟨i, _, rfl⟩ := List.mem_map.1 hq
      obtain ⟨k, hk⟩ := wst_sub PL GS j
      exact share_nonneg _ _ _ (by rw [hk]; exact (h.sums k _).1)
/-- what the three laws on what was won say of a fund -/
structure WonFacts (f : Fu) (st : List Int) : Prop where
  ok : WonOk (placesL f) (orderL f st)
  keys : (wonL f st).map Prod.fst = (orderL f st).flatten
  dist : (wonL f st).Pairwise fun a b => a.1 ≠ b.1
  nonneg : ∀ q ∈ wonL f st, 0 ≤ q.2
  le : sndS (wonL f st) ≤ lefI f
  pos : 0 ≤ sndS (wonL f st)
  bound : lefI f ≤ 1200000
theorem sum_nonneg {l : List Int} (h : ∀ x ∈ l, 0 ≤ x) : 0 ≤ l.sum := by
  induction l with
  | nil => simp
  | cons a l ih =>
    have h1 := h a (List.mem_cons_self ..)
    have h2 := ih (fun x hx => h x (List.mem_cons_of_mem _ hx))
    rw [List.sum_cons]
    omega
theorem table_sum (L : Int) (hL : 0 ≤ L) : ∀ l : List Int, (∀ n ∈ l, 0 ≤ n) → (l.map fun n => L * n / 1000).sum * 1000 ≤ L * l.sum
  | [], _ => by simp
  | a :: l, h => by
    have ih := table_sum L hL l (fun n hn => h n (List.mem_cons_of_mem _ hn))
    rw [List.map_cons, List.sum_cons, List.sum_cons, Int.mul_add]
    generalize (l.map fun n => L * n / 1000).sum = S at *
    generalize L * l.sum = T at *
    generalize L * a = B at *
    omega
theorem places_sum {f : Fu} (hF : FuB f) (hp : poolB f.po = true) : (placesL f).sum ≤ lefI f := by
  have hl := left_bd hF
  unfold placesL
  split
  · rename_i hk
    have h1 := table_sum (lefI f) hl.1 f.po.table (fun n hn => (kind_table hp n hn).1)
    have h2 : f.po.table.sum ≤ 1000 := by
      unfold poolB kindB at hp
      simp only [Bool.and_eq_true] at hp
      obtain ⟨_, _, hp⟩ := hp
      rw [if_pos hk] at hp
      simp only [Bool.and_eq_true] at hp
      have h3 := hp.1
      unfold tableB at h3
      simp only [Bool.and_eq_true, decide_eq_true_eq] at h3
      exact h3.2.2
    have h3 : lefI f * f.po.table.sum ≤ lefI f * 1000 := Int.mul_le_mul_of_nonneg_left h2 hl.1
    omega
  · split
    · rename_i h2
      have h3 := nPl_bd hF hp h2
      rw [List.sum_replicate_int]
      have e : ((nPl f).toNat : Int) = nPl f := Int.toNat_of_nonneg h3.1
      rw [e]
      by_cases h0 : nPl f = 0
      · rw [h0]; simp; exact hl.1
      · exact Int.mul_ediv_self_le h0
    · split
      · simp
      · simp [hl.1]
theorem wonFacts_any {f : Fu} (hF : FuB f) (hp : poolB f.po = true) (hu : Uniq f.rs) (hb : ∀ x ∈ f.rs, 0 ≤ x.bird ∧ x.bird ≤ 9999) (st : List Int) : WonFacts f st := by
  have ok := wonOk_any hF hp hu hb st
  have hk : (wonL f st).map Prod.fst = (orderL f st).flatten := by
    unfold wonL
    rw [wst_keys _ _ _ (Nat.le_refl _), List.take_length]
  refine ⟨ok, hk, ?_, wst_nonneg ok _, ?_, sndS_nonneg (wst_nonneg ok _), (left_bd hF).2⟩
  · have := ok.keys
    rw [← hk, List.pairwise_map] at this
    exact this
  · have h1 := wst_sum ok _ (Nat.le_refl _)
    have h2 := places_sum hF hp
    have h3 : 0 ≤ (wst (placesL f) (orderL f st) (orderL f st).length).1.sum := by
      obtain ⟨k, hk⟩ := wst_sub (placesL f) (orderL f st) (orderL f st).length
      rw [hk]
      exact sum_nonneg (fun x hx => ((places_bd hF hp).2 x (List.mem_of_mem_drop hx)).1)
    unfold wonL
    omega
end Go.Proofs.YtnkmcoljijmgpaaGreat
set_option linter.unusedSimpArgs false
set_option linter.unusedVariables false
namespace Go.Proofs.YtnkmcoljijmgpaaGreat
open Go.RowKit Go.Shelf Go.Sort Go.Maps
attribute [local go_sem] Oper.semAt_some
/-- a good fund as it lies -/
structure GF (f : Fu) (W : World) : Prop where
  row : RowE Rc.v 5 W f.fa f.rs
  fn : f.fa ≠ none ∨ f.rs = []
  B : FuB f
  po : poolB f.po = true
  tab : IntsAt W f.po.ta f.po.table
  uq : Uniq f.rs
  srt : f.rs.Pairwise fun x y => x.bird ≤ y.bird
  bd : ∀ x ∈ f.rs, 0 ≤ x.bird ∧ x.bird ≤ 9999
  prot : IntsAt W f.pa f.ps
  np : f.ps.length ≤ 4
theorem GF.keep {f : Fu} {W W' : World} (h : GF f W) (hG : G W W') : GF f W' := ⟨h.row.below hG, h.fn, h.B, h.po, h.tab.below hG, h.uq, h.srt, h.bd, h.prot.below hG, h.np⟩
theorem GF.facts {f : Fu} {W : World} (h : GF f W) (st : List Int) : WonFacts f st := wonFacts_any h.B h.po h.uq h.bd st
theorem GF.won {f : Fu} {W : World} (h : GF f W) (st : List Int) (sa : Option Addr) (sc : Nat) (hi : IntsAt W sa st) (hl : st.length ≤ 1000) : Calls Tryz.prog 51 #[.agg f.v, .slice sa st.length sc] W (WonPost W (wonL f st)) :=
  won_any f st sa sc W h.row h.fn hi hl h.B.many h.uq h.srt h.B h.po h.tab (h.facts st).ok
theorem GF.order {f : Fu} {W : World} (h : GF f W) (st : List Int) (sa : Option Addr) (sc : Nat) (hi : IntsAt W sa st) (hl : st.length ≤ 1000) : Calls Tryz.prog 58 #[.agg f.v, .slice sa st.length sc] W (OrderPost W (orderL f st)) :=
  order_any f st sa sc W h.row h.fn hi hl h.B.many h.uq h.srt
theorem GF.rest {f : Fu} {W : World} (h : GF f W) (st : List Int) (m : Nat) (hw : Won W m (wonL f st)) : Calls Tryz.prog 50 #[.agg f.v, .map (some m)] W fun e w' => e = .returned (.int .i64 (lefI f - sndS (wonL f st))) ∧ G W w' :=
  rest_any f (wonL f st) m W hw h.B (h.facts st).dist (h.facts st).nonneg (by have a := (h.facts st).le; have b := (h.facts st).bound; omega)
theorem racers_bd {r : Ra} (h : raceB r = true) : ∀ x ∈ r.racers, 0 ≤ x.bird ∧ x.bird ≤ 9999 := by
  have h1 := race_parts h
  unfold racersB at h1
  simp only [Bool.and_eq_true] at h1
  intro x hx
  obtain ⟨i, hi, rfl⟩ := List.mem_iff_getElem.1 hx
  have h2 := allU_iff.1 h1.2 i hi
  rw [List.getD_eq_getElem?_getD, List.getElem?_eq_getElem hi] at h2
  simp only [Bool.and_eq_true] at h2
  have h3 := h2.2
  unfold racerB at h3
  simp only [Bool.and_eq_true] at h3
  have h4 := h3.1
  unfold isInB at h4
  simpa using h4
theorem race_np {r : Ra} (h : raceB r = true) : r.protests.length ≤ 4 := by
  unfold raceB at h
  simp only [Bool.and_eq_true, decide_eq_true_eq] at h
  exact h.2.2.2.1
theorem runners_sub {r : Ra} {p : Int} {x : Rc} (h : x ∈ runners r p) : x ∈ r.racers ∧ inL x.pools p = true := by
  unfold runners at h
  exact List.mem_filter.1 ((srt_perm _).mem_iff.1 h)
theorem own_fn {W : World} {B : Nat} {fa : Option Addr} {fc : Nat} {l : List Rc} (h : W.ownsRow B 60 5 (.slice fa l.length fc) l.length (rcV l)) : (fa ≠ none ∨ l = []) ∧ RowE Rc.v 5 W fa l := by
  have hn : fa ≠ none ∨ l = [] := by
    rcases h.2 with ⟨_, h0⟩ | ⟨g, cap, cur, he, _⟩
    · exact .inr (List.length_eq_zero_iff.1 h0)
    · exact .inl (fun e => by rw [e] at he; cases he)
  obtain ⟨a0, c0, hve, hrow⟩ := own_row h
  obtain ⟨rfl, rfl⟩ : fa = a0 ∧ fc = c0 := by simpa using hve
  exact ⟨hn, hrow⟩
theorem gf_of {r : Ra} {p : Int} {W : World} {B : Nat} {fa : Option Addr} {fc : Nat} (hr : raceB r = true) (hp : isInB p 0 ((r.pools.length : Int) - 1) = true) (h : r.At W) (ho : W.ownsRow B 60 5 (.slice fa (runners r p).length fc) (runners r p).length (rcV (runners r p))) : GF (fuOf r p fa fc) W :=
  ⟨(own_fn ho).2, (own_fn ho).1, fu_bounds hr hp fa fc, (pool_of hr hp).2, h.ps.tables _ (pool_of hr hp).1, runners_uniq hr p, runners_sorted r p, fun x hx => racers_bd hr x (runners_sub hx).1, h.ts, race_np hr⟩
/-- the cells of a row of structs -/
def cv {α : Type} (v : α → Array Value) (l : List α) : List Value := l.flatMap fun x => (v x).toList
section
variable {α : Type} {v : α → Array Value} {k : Nat}
theorem cv_len (hv : ∀ x, (v x).size = k) (l : List α) : (cv v l).length = l.length * k := by
  induction l with
  | nil => simp [cv]
  | cons a l ih =>
    show ((v a).toList ++ cv v l).length = _
    rw [List.length_append, ih, Array.length_toList, hv, List.length_cons, Nat.add_mul]
    omega
theorem cv_snoc (l : List α) (x : α) : cv v (l ++ [x]) = cv v l ++ (v x).toList := by simp [cv]
theorem cv_get [Inhabited α] (hv : ∀ x, (v x).size = k) : ∀ (l : List α) {i r : Nat}, i < l.length → r < k → (cv v l)[i * k + r]? = (v (l.getD i default)).toList[r]?
  | [], _, _, h, _ => by simp at h
  | a :: l, 0, r, _, hr => by
    show ((v a).toList ++ cv v l)[0 * k + r]? = _
    rw [List.getElem?_append_left (by rw [Array.length_toList, hv]; omega)]
    simp
  | a :: l, i + 1, r, h, hr => by
    show ((v a).toList ++ cv v l)[(i + 1) * k + r]? = _
    have e : (i + 1) * k + r = k + (i * k + r) := by rw [Nat.add_mul]; omega
    rw [e, List.getElem?_append_right (by rw [Array.length_toList, hv]; omega), Array.length_toList, hv, show k + (i * k + r) - k = i * k + r by omega, cv_get hv l (by simpa using h) hr]
    rfl
theorem own_rowE [Inhabited α] (hv : ∀ x, (v x).size = k) {W : World} {B : Nat} {T : TypeId} {u : Value} {l : List α} (h : W.ownsRow B T k u l.length (cv v l)) : ∃ a c, u = .slice a l.length c ∧ RowE v k W a l := by
  rcases h.2 with ⟨rfl, h0⟩ | ⟨g, cap, cur, rfl, hb, hg, h1, h2, h3, h4⟩
  · exact ⟨none, 0, by rw [h0], .inl h0⟩
  · refine ⟨_, _, rfl, .inr ⟨g, 0, rfl, (Array.getElem?_eq_some_iff.1 hg).1, fun i hi r hr => ?_⟩⟩
    have e := cv_get hv l hi hr
    have hB : Blk W g T cur := hg
    have hlt : i * k + r < l.length * k := by
      have h1 : (i + 1) * k ≤ l.length * k := Nat.mul_le_mul_right _ hi
      rw [Nat.add_mul] at h1
      omega
    rw [show 0 + i * k + r = i * k + r by omega, hB.cell, ← Array.getElem?_toList]
    have h5 : (cur.toList.take (l.length * k))[i * k + r]? = (cv v l)[i * k + r]? := by rw [h4]
    rw [List.getElem?_take_of_lt hlt] at h5
    rw [h5, e]
    simp
end
/-- a prize -/
structure Pz where
  bird : Int
  won : Int
  back : Int
instance : Inhabited Pz := ⟨⟨0, 0, 0⟩⟩
def Pz.v (x : Pz) : Array Value := #[.int .i64 x.bird, .int .i64 x.won, .int .i64 x.back]
theorem Pz.vs (x : Pz) : x.v.size = 3 := rfl
/-- what a bird has won -/
def wonAt (ps : List (Int × Int)) (b : Int) : Int := match ps.find? fun p => p.1 == b with | some q => q.2 | none => 0
theorem Won.at {W : World} {m : Nat} {ps : List (Int × Int)} (h : Won W m ps) {x : Int} (hx : -1000000000000 ≤ x ∧ x ≤ 1000000000000) (hz : (zeroValue 3).run Tryz.prog W = .ok (.int .i64 0) W) :
    (Instr.lookup 90 (.map (some m)) (.int .i64 x) false).run Tryz.prog W = .ok (.int .i64 (wonAt ps x)) W := by
  obtain ⟨c, h1, h2, h3⟩ := h.look hx hz
  have e : c = wonAt ps x := by
    unfold wonAt
    cases hf : ps.find? fun p => p.1 == x with
    | none =>
      refine h3 (List.any_eq_false.2 fun q hq => ?_)
      have := List.find?_eq_none.1 hf q hq
      simpa using this
    | some q =>
      have h5 := List.find?_some hf
      exact h2 q (List.mem_of_find?_eq_some hf) (by simpa using h5)
  rw [← e]
  exact h1
def resI (f : Fu) (st : List Int) : Int := lefI f - sndS (wonL f st)
def prizesL (f : Fu) : List Pz := (List.range f.rs.length).map fun i => ⟨(f.rs.getD i default).bird, wonAt (wonL f []) (f.rs.getD i default).bird, shareI (resI f []) f.rs.length i⟩
theorem prizesL_len (f : Fu) : (prizesL f).length = f.rs.length := by simp [prizesL]
theorem prizesL_take (f : Fu) {i : Nat} (h : i < f.rs.length) : (prizesL f).take (i + 1) = (prizesL f).take i ++ [⟨(f.rs.getD i default).bird, wonAt (wonL f []) (f.rs.getD i default).bird, shareI (resI f []) f.rs.length i⟩] := by
  have hl : i < (prizesL f).length := by rw [prizesL_len]; exact h
  rw [List.take_add_one, List.getElem?_eq_getElem hl]
  simp [prizesL]
theorem wonAt_nonneg {ps : List (Int × Int)} (h : ∀ q ∈ ps, 0 ≤ q.2) (b : Int) : 0 ≤ wonAt ps b := by
  unfold wonAt
  cases hf : ps.find? fun p => p.1 == b with
  | none => exact Int.le_refl _
  | some q => exact h q (List.mem_of_find?_eq_some hf)
theorem mem_le_sum {ps : List (Int × Int)} (h : ∀ q ∈ ps, 0 ≤ q.2) {q : Int × Int} (hq : q ∈ ps) : q.2 ≤ sndS ps := by
  induction ps with
  | nil => simp at hq
  | cons a l ih =>
    have h1 := h a (List.mem_cons_self ..)
    have h2 := sndS_nonneg (fun x hx => h x (List.mem_cons_of_mem _ hx))
    have e : sndS (a :: l) = a.2 + sndS l := by simp [sndS]
    rcases List.mem_cons.1 hq with rfl | hq
    · omega
    · have := ih (fun x hx => h x (List.mem_cons_of_mem _ hx)) hq
      omega
theorem wonAt_le {ps : List (Int × Int)} (h : ∀ q ∈ ps, 0 ≤ q.2) (b : Int) : wonAt ps b ≤ sndS ps := by
  have h2 := sndS_nonneg h
  unfold wonAt
  cases hf : ps.find? fun p => p.1 == b with
  | none => exact h2
  | some q => exact mem_le_sum h (List.mem_of_find?_eq_some hf)
def PzPost (w : World) (l : List Pz) (e : Ending) (w' : World) : Prop := ∃ v, e = .returned v ∧ w'.ownsRow w.heap.size 40 3 v l.length (cv Pz.v l) ∧ G w w'
theorem info40 : (Tryz.prog.info? 40).map (fun i => (i.zero, i.size, i.bytes)) = some (some (.agg #[.int .i64 0, .int .i64 0, .int .i64 0]), 3, 24) := by kernel_rfl
end Go.Proofs.YtnkmcoljijmgpaaGreat
