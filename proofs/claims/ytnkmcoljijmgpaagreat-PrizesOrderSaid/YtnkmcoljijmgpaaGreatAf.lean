import Derived.Test.YtnkmcoljijmgpaaGreatAe
set_option linter.unusedSimpArgs false
set_option linter.unusedVariables false
namespace Go.Proofs.YtnkmcoljijmgpaaGreat
open Go.RowKit Go.Shelf
attribute [local go_sem] Oper.semAt_some
/-- numbers as cells -/
def iv (l : List Int) : List Value := l.map (Value.int .i64)
theorem iv_snoc (l : List Int) (x : Int) : iv (l ++ [x]) = iv l ++ [.int .i64 x] := by simp [iv]
theorem iv_len (l : List Int) : (iv l).length = l.length := by simp [iv]
theorem iv_get (l : List Int) {i : Nat} (h : i < l.length) : (iv l)[i]? = some (.int .i64 (l.getD i 0)) := by
  simp [iv, List.getD_eq_getElem?_getD, h]
theorem own_ints {W : World} {B : Nat} {v : Value} {l : List Int} (h : W.ownsRow B 3 1 v l.length (iv l)) : ∃ a c, v = .slice a l.length c ∧ IntsAt W a l := by
  by_cases h0 : 0 < l.length
  · obtain ⟨g, cap, cur, rfl, hb, hg, ht⟩ := own_some h h0
    exact ⟨_, _, rfl, .inr ⟨g, 0, rfl, hg, fun k hk => by rw [Nat.zero_add]; exact take_cell hb ht (by omega) (iv_get l hk)⟩⟩
  · obtain ⟨a, c, rfl⟩ := own_slice h
    exact ⟨_, _, rfl, .inl (List.length_eq_zero_iff.1 (by omega))⟩
/-- a row of numbers of one's own -/
def IvPost (w : World) (l : List Int) (e : Ending) (w' : World) : Prop := ∃ v, e = .returned v ∧ w'.ownsRow w.heap.size 3 1 v l.length (iv l) ∧ G w w'
def nPl (f : Fu) : Int := (f.rs.length + f.po.quota - 1) / f.po.quota
def placesL (f : Fu) : List Int := if f.po.kind = 1 then f.po.table.map (fun n => lefI f * n / 1000) else if f.po.kind = 2 then List.replicate (nPl f).toNat (lefI f / nPl f) else if f.po.kind = 3 then [lefI f] else []
theorem take_snoc {l : List Int} {k : Nat} (h : k < l.length) (g : Int → Int) : (l.take (k + 1)).map g = (l.take k).map g ++ [g (l.getD k 0)] := by
  rw [List.take_add_one, List.map_append]
  simp [List.getElem?_eq_getElem h, List.getD_eq_getElem?_getD]
theorem rep_snoc (k : Nat) (x : Int) : List.replicate (k + 1) x = List.replicate k x ++ [x] := by
  rw [List.replicate_succ']
set_option maxRecDepth 100000 in
set_option maxHeartbeats 8000000 in
theorem places_any (f : Fu) (w : World) (h : FuB f) (hp : poolB f.po = true) (ht : IntsAt w f.po.ta f.po.table) : Calls Tryz.prog 59 #[.agg f.v] w (IvPost w (placesL f)) := by
  have HL := Lib.hid (fun (W : World) => left_any f W h)
  have hlb : 0 ≤ lefI f ∧ lefI f ≤ 1200000 := by
    have a := h.tot
    have b := h.kep
    unfold lefI
    omega
  have hmany := h.many
  have HPP : Hid (∀ w' v, w'.ownsRow w.heap.size 3 1 v (placesL f).length (iv (placesL f)) → G w w' → IvPost w (placesL f) (.returned v) w') := fun w' v a b => ⟨v, rfl, a, b⟩
  generalize IvPost w (placesL f) = PP at *
  unfold poolB at hp
  simp only [Bool.and_eq_true] at hp
  obtain ⟨_, _, hk⟩ := hp
  unfold kindB at hk
  unfold placesL nPl at HPP
  generalize lefI f = LV at *
  clear h
  obtain ⟨⟨ystake, ycut, ykind, yta, ytc, ytable, yquota, yfirst⟩, fa, fc, rs, pa, pc, ps⟩ := f
  unfold Fu.v at *
  dsimp only at *
  have g0 : G w (w.alloc (.cells #[.int .i64 ystake, .int .i64 ycut, .int .i64 ykind, .slice yta ytable.length ytc, .int .i64 yquota, .bool yfirst, .slice fa rs.length fc, .slice pa ps.length pc] 85)) := (G.rf _).a _
  have b0 : Blk (w.alloc (.cells #[.int .i64 ystake, .int .i64 ycut, .int .i64 ykind, .slice yta ytable.length ytc, .int .i64 yquota, .bool yfirst, .slice fa rs.length fc, .slice pa ps.length pc] 85)) w.heap.size 85 #[.int .i64 ystake, .int .i64 ycut, .int .i64 ykind, .slice yta ytable.length ytc, .int .i64 yquota, .bool yfirst, .slice fa rs.length fc, .slice pa ps.length pc] := Blk.new _ _ _
  obtain ⟨i0, hi0, hz0, hz1, hz2⟩ := info_parts info3
  by_cases k1 : ykind = 1
  · subst k1
    rw [if_pos rfl] at hk HPP
    simp only [Bool.and_eq_true, decide_eq_true_eq] at hk
    have htb := hk.1
    unfold tableB at htb
    simp only [Bool.and_eq_true, decide_eq_true_eq] at htb
    obtain ⟨ht8, htc, _⟩ := htb
    unfold isInB at ht8
    simp only [Bool.and_eq_true, decide_eq_true_eq] at ht8
    have HTC : Hid (∀ i, i < ytable.length → 0 ≤ ytable.getD i 0 ∧ ytable.getD i 0 ≤ 1000) := fun i hi => by
      have := allU_iff.1 htc i hi
      unfold isInB at this
      simp only [Bool.and_eq_true, decide_eq_true_eq] at this
      exact this
    clear hk htc
    go_enter Tryz.func59, Tryz.ntmps59
    go_upto_region 3 with (go_at_call 49; refine (HL.out _).mono ?_; rintro e w1 ⟨rfl, hG1⟩)
    replace b0 := b0.keep hG1
    replace g0 := g0.t hG1
    clear hG1 HL
    have m2 := b0.cell 2
    have m3 := b0.cell 3
    have l0 := b0.lt
    go_wp2_with fail
    clear m2 m3 l0
    go_loopw [4, 19] (fun v i wr => ∃ k : Nat, k ≤ ytable.length ∧ i = .int .i64 k ∧ wr.ownsRow w1.heap.size 3 1 v k (iv ((ytable.take k).map (fun n => LV * n / 1000))) ∧ G w1 wr) (fun _ i _ => ytable.length - (intOf i).toNat)
    case atStart => exact ⟨0, Nat.zero_le _, rfl, World.ownsRow_nil _ _ _ _, G.rf _⟩
    case round =>
      obtain ⟨k, hk, rfl, ho, hG⟩ := hrel
      obtain ⟨wo, rfl⟩ : ∃ wo, wo = wr := ⟨_, rfl⟩
      have HO := Lib.hid ho
      clear ho
      by_cases hlt : k < ytable.length
      · have hki : (k : Int) < ytable.length := by omega
        rcases ht with rfl | ⟨g, off, rfl, hg, hcell⟩
        · simp at hlt
        have lg := Nat.lt_of_lt_of_le hg (g0.t hG).size
        have q0 := ((bcellB (g0.t hG)).1 g _ hg).trans (hcell k hlt)
        have hy01 := HTC.out k hlt
        have HSN := Lib.hid (take_snoc hlt (fun n => LV * n / 1000))
        obtain ⟨y, hy⟩ : ∃ y, y = ytable.getD k 0 := ⟨_, rfl⟩
        rw [← hy] at q0 hy01 HSN
        clear hy hcell
        have hpr : 0 ≤ LV * y ∧ LV * y ≤ LV * 1000 := ⟨Int.mul_nonneg hlb.1 hy01.1, Int.mul_le_mul_of_nonneg_left hy01.2 hlb.1⟩
        have x1 : IntKind.i64.wrap (LV * y) = LV * y := IntWalk.i64_in _ (by omega)
        have x2 : (LV * y).tdiv 1000 = LV * y / 1000 := Int.tdiv_eq_ediv_of_nonneg hpr.1
        have x3 : IntKind.i64.wrap (LV * y / 1000) = LV * y / 1000 := IntWalk.i64_in _ (by omega)
        obtain ⟨T, hT⟩ : ∃ T, T = (ytable.take k).map (fun n => LV * n / 1000) := ⟨_, rfl⟩
        have hTl : T.length = k := by rw [hT, List.length_map, List.length_take]; omega
        rw [← hT] at HO HSN
        clear hT hpr
        obtain rfl := hTl.symm
        go_wp2_with (at_builtin; refine wpList_append_own _ rfl _ _ 24 rfl w1.heap.size 3 i0 (.int .i64 0) 1 8 Tryz.underlying24 hi0 hz0 hz1 hz2 rfl (by decide) _ T.length (iv T) rfl ?hown ⟨_, 0, none⟩ 1 1 [.int .i64 (LV * y / 1000)] rfl rfl (cell_one_new _ _ _) (by simp [Value.oneCell']) (by unfold maxLen; omega) (by omega) ?hbase ?hrest)
        case hown => exact own_G HO.out ((G.rf _).a _)
        case hbase => have := hG.size; omega
        case hrest =>
          intro v9 w9 hown9 hg9 _
          have gz : G w1 w9 := grow_own (hG.a _) (own_G HO.out ((G.rf _).a _)) (Nat.le_refl _) hg9
          have HN := Lib.hid hown9
          clear hown9 hg9
          go_wp2
          go_roundw
          case rel => exact ⟨T.length + 1, by omega, by go_num, by rw [HSN.out, iv_snoc]; exact HN.out, gz⟩
          case measure => simp [intOf] <;> omega
      · obtain rfl : k = ytable.length := by omega
        have hki : ¬ ((ytable.length : Nat) : Int) < ytable.length := by omega
        rw [List.take_length] at HO
        have hlen : (ytable.map (fun n => LV * n / 1000)).length = ytable.length := List.length_map _
        have HF := Lib.hid (fun v (ho : wo.ownsRow w.heap.size 3 1 v ytable.length (iv (ytable.map (fun n => LV * n / 1000)))) => HPP.out wo v (by rw [hlen]; exact ho) (g0.t hG))
        clear HPP
        go_wp2_with fail
        exact HF.out _ (own_weaken HO.out g0.size)
  rw [if_neg k1] at hk HPP
  have e1 : (ykind == 1) = false := by simpa using k1
  by_cases k2 : ykind = 2
  · subst k2
    rw [if_pos rfl] at hk HPP
    simp only [Bool.and_eq_true, decide_eq_true_eq] at hk
    have hq := hk.2
    clear hk
    unfold isInB at hq
    simp only [Bool.and_eq_true, decide_eq_true_eq] at hq
    obtain ⟨Q, hQ⟩ : ∃ Q : Nat, yquota = Q := ⟨yquota.toNat, by omega⟩
    subst hQ
    obtain ⟨M, hM⟩ : ∃ M : Nat, M = (rs.length + Q - 1) / Q := ⟨_, rfl⟩
    have hMi : ((rs.length : Int) + Q - 1) / Q = (M : Nat) := by
      rw [hM]
      rw [show (rs.length : Int) + Q - 1 = ((rs.length + Q - 1 : Nat) : Int) by omega]
      exact (Int.natCast_ediv _ _).symm
    have hMb : M ≤ 1000 := by
      rw [hM]
      exact Nat.le_trans (Nat.div_le_self _ _) (by omega)
    rw [hMi] at HPP
    have y1 : IntKind.i64.wrap ((rs.length : Int) + Q) = (rs.length : Int) + Q := IntWalk.i64_in _ (by omega)
    have y2 : IntKind.i64.wrap ((rs.length : Int) + Q - 1) = (rs.length : Int) + Q - 1 := IntWalk.i64_in _ (by omega)
    have y3 : ((rs.length : Int) + Q - 1).tdiv Q = (M : Nat) := by rw [Int.tdiv_eq_ediv_of_nonneg (by omega)]; exact hMi
    have y4 : IntKind.i64.wrap ((M : Nat) : Int) = (M : Nat) := IntWalk.i64_in _ (by omega)
    have qz : ((Q : Int) == 0) = false := by simp; omega
    have qz2 : ¬ Q = 0 := by omega
    clear hMi hM e1
    go_enter Tryz.func59, Tryz.ntmps59
    go_upto_region 3 with (go_at_call 49; refine (HL.out _).mono ?_; rintro e w1 ⟨rfl, hG1⟩)
    replace b0 := b0.keep hG1
    replace g0 := g0.t hG1
    clear hG1 HL
    have m2 := b0.cell 2
    have m4 := b0.cell 4
    have m6 := b0.cell 6
    have l0 := b0.lt
    go_wp2_with fail
    clear m2 m4 m6 l0 y1 y2 y3 y4
    go_loopw [4, 46] (fun v i wr => ∃ k : Nat, k ≤ M ∧ i = .int .i64 k ∧ wr.ownsRow w1.heap.size 3 1 v k (iv (List.replicate k (LV / (M : Nat)))) ∧ G w1 wr) (fun _ i _ => M - (intOf i).toNat)
    case atStart => exact ⟨0, Nat.zero_le _, rfl, World.ownsRow_nil _ _ _ _, G.rf _⟩
    case round =>
      obtain ⟨k, hk, rfl, ho, hG⟩ := hrel
      obtain ⟨wo, rfl⟩ : ∃ wo, wo = wr := ⟨_, rfl⟩
      have HO := Lib.hid ho
      clear ho
      by_cases hlt : k < M
      · have hki : (k : Int) < M := by omega
        have mz : ((M : Int) == 0) = false := by simp; omega
        have mz2 : ¬ M = 0 := by omega
        have x1 : LV.tdiv (M : Nat) = LV / (M : Nat) := Int.tdiv_eq_ediv_of_nonneg hlb.1
        have hb2 : 0 ≤ LV / (M : Nat) ∧ LV / ((M : Nat) : Int) ≤ LV := ⟨Int.ediv_nonneg hlb.1 (by omega), Int.ediv_le_self _ hlb.1⟩
        have x2 : IntKind.i64.wrap (LV / (M : Nat)) = LV / (M : Nat) := IntWalk.i64_in _ (by omega)
        have HSN := Lib.hid (rep_snoc k (LV / (M : Nat)))
        obtain ⟨z, hz⟩ : ∃ z, z = LV / ((M : Nat) : Int) := ⟨_, rfl⟩
        have HZ := Lib.hid hz
        rw [← hz] at x1 x2 HSN HO
        clear hb2 hz
        obtain ⟨T, hT⟩ : ∃ T, T = List.replicate k z := ⟨_, rfl⟩
        have hTl : T.length = k := by rw [hT, List.length_replicate]
        rw [← hT] at HO HSN
        clear hT
        obtain rfl := hTl.symm
        go_wp2_with (at_builtin; refine wpList_append_own _ rfl _ _ 24 rfl w1.heap.size 3 i0 (.int .i64 0) 1 8 Tryz.underlying24 hi0 hz0 hz1 hz2 rfl (by decide) _ T.length (iv T) rfl ?hown ⟨_, 0, none⟩ 1 1 [.int .i64 z] rfl rfl (cell_one_new _ _ _) (by simp [Value.oneCell']) (by unfold maxLen; omega) (by omega) ?hbase ?hrest)
        case hown => exact own_G HO.out ((G.rf _).a _)
        case hbase => have := hG.size; omega
        case hrest =>
          intro v9 w9 hown9 hg9 _
          have gz : G w1 w9 := grow_own (hG.a _) (own_G HO.out ((G.rf _).a _)) (Nat.le_refl _) hg9
          have HN := Lib.hid hown9
          clear hown9 hg9
          go_wp2
          go_roundw
          case rel => exact ⟨T.length + 1, by omega, by go_num, by rw [← HZ.out, HSN.out, iv_snoc]; exact HN.out, gz⟩
          case measure => simp [intOf] <;> omega
      · obtain rfl : k = M := by omega
        have hki : ¬ ((k : Nat) : Int) < k := by omega
        have hlen : (List.replicate k (LV / ((k : Nat) : Int))).length = k := List.length_replicate
        have HF := Lib.hid (fun v (ho : wo.ownsRow w.heap.size 3 1 v k (iv (List.replicate k (LV / ((k : Nat) : Int))))) => HPP.out wo v (by rw [Int.toNat_natCast, hlen]; exact ho) (g0.t hG))
        clear HPP
        go_wp2_with fail
        exact HF.out _ (own_weaken HO.out g0.size)
  rw [if_neg k2] at hk HPP
  have e2 : (ykind == 2) = false := by simpa using k2
  by_cases k3 : ykind = 3
  · subst k3
    rw [if_pos rfl] at HPP
    clear hk
    go_enter Tryz.func59, Tryz.ntmps59
    go_upto_region 3 with (go_at_call 49; refine (HL.out _).mono ?_; rintro e w1 ⟨rfl, hG1⟩)
    replace b0 := b0.keep hG1
    replace g0 := g0.t hG1
    clear hG1 HL
    have m2 := b0.cell 2
    have l0 := b0.lt
    have HO : Hid (w1.ownsRow w1.heap.size 3 1 (.slice none 0 0) 0 (iv [])) := World.ownsRow_nil _ _ _ _
    go_wp2_with (at_builtin; refine wpList_append_own _ rfl _ _ 24 rfl w1.heap.size 3 i0 (.int .i64 0) 1 8 Tryz.underlying24 hi0 hz0 hz1 hz2 rfl (by decide) _ 0 (iv ([] : List Int)) rfl ?hown ⟨_, 0, none⟩ 1 1 [.int .i64 LV] rfl rfl (cell_one_new _ _ _) (by simp [Value.oneCell']) (by unfold maxLen; omega) (by omega) ?hbase ?hrest)
    case hown => exact own_G HO.out ((G.rf _).a _)
    case hbase => first | omega | exact ((G.rf _).a _).size | simp
    case hrest =>
      intro v9 w9 hown9 hg9 _
      have gz : G w1 w9 := grow_own ((G.rf _).a _) (own_G HO.out ((G.rf _).a _)) (Nat.le_refl _) hg9
      have HF := Lib.hid (HPP.out w9 v9 (own_weaken hown9 g0.size) (g0.t gz))
      clear hown9 hg9 HPP
      go_wp2
      exact HF.out
  rw [if_neg k3] at hk
  cases hk
end Go.Proofs.YtnkmcoljijmgpaaGreat
