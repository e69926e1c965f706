import Derived.Test.YtnkmcoljijmgpaaGreatDc
import Derived.Test.YtnkmcoljijmgpaaGreatCb
set_option linter.unusedSimpArgs false
set_option linter.unusedVariables false
namespace Go.Proofs.YtnkmcoljijmgpaaGreat
open Go.RowKit Go.Shelf Go.Sort Go.Maps
attribute [local go_sem] Oper.semAt_some
section
variable {P : Program} {ops : Array Oper} {md : Region.Mode} {Q : Exit → Act → World → Prop} {S : World → Prop} {z z' : Nat}
/-- from here on another operation is the last one that S waits for -/
theorem wpAnyY_weak : ∀ (fuel : Nat) (l : Array Bool) (a : Act) (w : World), wpAnyY P md ops Q S z fuel l a w → wpAnyY P md ops Q (fun _ => True) z' fuel l a w
  | 0, _, _, _, h => h
  | fuel + 1, l, a, w, h => ⟨h.1, fun i hi => wpOp_mono (fun a' w' hh => ⟨fun _ => trivial, wpAnyY_weak fuel _ _ _ hh.2⟩) (h.2 i hi)⟩
end
/-- b at place t of a list -/
def insAt (O : List Int) (b : Int) (t : Nat) : List Int := O.take t ++ b :: O.drop t
theorem insAt_len (O : List Int) (b : Int) (t : Nat) (h : t ≤ O.length) : (insAt O b t).length = O.length + 1 := by
  unfold insAt
  rw [List.length_append, List.length_take, List.length_cons, List.length_drop]
  omega
theorem insAt_end (O : List Int) (b : Int) : insAt O b O.length = O ++ [b] := by simp [insAt]
theorem insAt_get (O : List Int) (b : Int) {t : Nat} (h : t ≤ O.length) : (insAt O b t).getD t 0 = b := by
  unfold insAt
  rw [List.getD_eq_getElem?_getD, List.getElem?_append_right (by rw [List.length_take]; omega), List.length_take, show t - min t O.length = 0 by omega]
  rfl
theorem insAt_bef (O : List Int) (b : Int) {t m : Nat} (h : t ≤ O.length) (hm : m < t) : (insAt O b t).getD m 0 = O.getD m 0 := by
  unfold insAt
  rw [List.getD_eq_getElem?_getD, List.getElem?_append_left (by rw [List.length_take]; omega), List.getElem?_take_of_lt hm, List.getD_eq_getElem?_getD]
theorem insAt_step (O : List Int) (b : Int) {m : Nat} (h : m + 1 ≤ O.length) : ((insAt O b (m + 1)).set (m + 1) (O.getD m 0)).set m b = insAt O b m := by
  apply List.ext_getElem?
  intro i
  have hl : (insAt O b (m + 1)).length = O.length + 1 := insAt_len O b _ h
  rw [List.getElem?_set, List.length_set, hl, List.getElem?_set, hl]
  unfold insAt
  by_cases h1 : m = i
  · subst h1
    rw [if_pos rfl, if_pos (by omega), List.getElem?_append_right (by rw [List.length_take]; omega), List.length_take, show m - min m O.length = 0 by omega]
    rfl
  · rw [if_neg h1]
    by_cases h2 : m + 1 = i
    · subst h2
      rw [if_pos rfl, if_pos (by omega), List.getElem?_append_right (by rw [List.length_take]; omega), List.length_take, show m + 1 - min m O.length = 1 by omega]
      rw [List.getElem?_cons_succ, List.getElem?_drop, List.getD_eq_getElem?_getD, Nat.add_zero, List.getElem?_eq_getElem (by omega)]
      rfl
    · rw [if_neg h2]
      by_cases h3 : i < m
      · rw [List.getElem?_append_left (by rw [List.length_take]; omega), List.getElem?_append_left (by rw [List.length_take]; omega), List.getElem?_take_of_lt (by omega), List.getElem?_take_of_lt h3]
      · rw [List.getElem?_append_right (by rw [List.length_take]; omega), List.getElem?_append_right (by rw [List.length_take]; omega), List.length_take, List.length_take, show i - min (m + 1) O.length = (i - (m + 2)) + 1 by omega, show i - min m O.length = (i - (m + 2)) + 1 + 1 by omega]
        rw [List.getElem?_cons_succ, List.getElem?_cons_succ, List.getElem?_drop, List.getElem?_drop]
        congr 1
        omega
theorem insAt_perm (O : List Int) (b : Int) (t : Nat) : (insAt O b t).Perm (O ++ [b]) := by
  unfold insAt
  have h1 : (O.take t ++ b :: O.drop t).Perm (b :: (O.take t ++ O.drop t)) := List.perm_middle
  rw [List.take_append_drop] at h1
  exact h1.trans (List.perm_append_comm (l₁ := [b]) (l₂ := O))
theorem insAt_sorted {O : List Int} {b : Int} {t : Nat} (hs : O.Pairwise (· ≤ ·)) (ht : t ≤ O.length) (h1 : ∀ i, t ≤ i → i < O.length → b < O.getD i 0) (h2 : t = 0 ∨ O.getD (t - 1) 0 ≤ b) : (insAt O b t).Pairwise (· ≤ ·) := by
  have hg : ∀ i (hi : i < O.length), O.getD i 0 = O[i] := fun i hi => by simp [List.getD_eq_getElem?_getD, hi]
  have hle : ∀ x ∈ O.take t, x ≤ b := fun x hx => by
    obtain ⟨i, hi, rfl⟩ := List.mem_iff_getElem.1 hx
    rw [List.length_take] at hi
    rw [List.getElem_take]
    rcases h2 with rfl | h2
    · omega
    · rw [hg _ (by omega)] at h2
      by_cases e : i = t - 1
      · subst e; exact h2
      · have := List.pairwise_iff_getElem.1 hs i (t - 1) (by omega) (by omega) (by omega)
        exact Int.le_trans this h2
  have hge : ∀ x ∈ O.drop t, b ≤ x := fun x hx => by
    obtain ⟨i, hi, rfl⟩ := List.mem_iff_getElem.1 hx
    rw [List.length_drop] at hi
    rw [List.getElem_drop]
    have := h1 (t + i) (by omega) (by omega)
    rw [hg _ (by omega)] at this
    omega
  unfold insAt
  rw [List.pairwise_append]
  refine ⟨hs.sublist (List.take_sublist _ _), ?_, fun x hx y hy => ?_⟩
  · rw [List.pairwise_cons]
    exact ⟨hge, hs.sublist (List.drop_sublist _ _)⟩
  · rcases List.mem_cons.1 hy with rfl | hy
    · exact hle x hx
    · exact Int.le_trans (hle x hx) (hge y hy)
/-- the rings of the birds that are nominated, of the first k racers, ascending -/
structure NamAt (r : Ra) (p : Int) (k : Nat) (O : List Int) : Prop where
  perm : O.Perm ((runs r p k).map Rc.bird)
  srt : O.Pairwise (· ≤ ·)
def namedL (r : Ra) (p : Int) : List Int := (runners r p).map Rc.bird
theorem NamAt.all {r : Ra} {p : Int} {O : List Int} (h : NamAt r p r.racers.length O) : O = namedL r p := by
  have hp : O.Perm (namedL r p) := by
    refine h.perm.trans ?_
    unfold namedL runners runs
    rw [List.take_length]
    exact ((srt_perm _).map _).symm
  have hs : (namedL r p).Pairwise (· ≤ ·) := by
    unfold namedL
    rw [List.pairwise_map]
    exact runners_sorted r p
  exact List.Perm.eq_of_pairwise (le := fun a b : Int => a ≤ b) (fun a b _ _ h1 h2 => by omega) h.srt hs hp
theorem NamAt.skip {r : Ra} {p : Int} {k : Nat} {O : List Int} (h : NamAt r p k O) (hk : k < r.racers.length) (hn : inL (r.racers.getD k default).pools p = false) : NamAt r p (k + 1) O := by
  refine ⟨?_, h.srt⟩
  rw [runs_succ r p hk, if_neg (by rw [hn]; decide)]
  exact h.perm
theorem NamAt.put {r : Ra} {p : Int} {k t : Nat} {O : List Int} (h : NamAt r p k O) (hk : k < r.racers.length) (hn : inL (r.racers.getD k default).pools p = true) (ht : t ≤ O.length) (h1 : ∀ i, t ≤ i → i < O.length → (r.racers.getD k default).bird < O.getD i 0) (h2 : t = 0 ∨ O.getD (t - 1) 0 ≤ (r.racers.getD k default).bird) : NamAt r p (k + 1) (insAt O (r.racers.getD k default).bird t) := by
  refine ⟨?_, insAt_sorted h.srt ht h1 h2⟩
  rw [runs_succ r p hk, if_pos hn, List.map_append]
  exact (insAt_perm _ _ _).trans (List.Perm.append_right _ h.perm)
/-- a store into a row of numbers of one's own -/
theorem own_int_put {W : World} {B i g c : Nat} {L : List Int} {x : Int} (h : W.ownsRow B 3 1 (.slice (some ⟨g, 0, none⟩) L.length c) L.length (iv L)) (hi : i < L.length) :
    (W.setCell ⟨g, i, none⟩ (.int .i64 x)).ownsRow B 3 1 (.slice (some ⟨g, 0, none⟩) L.length c) L.length (iv (L.set i x)) := by
  rcases h.2 with ⟨he, _⟩ | ⟨g', cap, cur, he, hb, hg, h1, h2, h3, h4⟩
  · cases he
  · injection he with e1 e2 e3
    injection e1 with e1
    injection e1 with e1 _ _
    subst e1 e3
    refine ⟨by rw [iv_len, List.length_set]; omega, .inr ⟨g, _, _, rfl, hb, Blk.set_ hg _ _, h1, h2, by rw [Array.size_setIfInBounds]; exact h3, ?_⟩⟩
    have hcs : L.length * 1 ≤ cur.size := by
      have : L.length * 1 ≤ c * 1 := Nat.mul_le_mul_right 1 h1
      omega
    have e : iv (L.set i x) = (iv L).set i (.int .i64 x) := by
      unfold iv
      rw [List.map_set]
    rw [e, ← h4]
    rw [Array.toList_setIfInBounds, List.take_set]
theorem own_int_cell {W : World} {B i g c : Nat} {L : List Int} (h : W.ownsRow B 3 1 (.slice (some ⟨g, 0, none⟩) L.length c) L.length (iv L)) (hi : i < L.length) : W.cell? ⟨g, i, none⟩ = some (.int .i64 (L.getD i 0)) ∧ W.frozen? ⟨g, i, none⟩ = false ∧ g < W.heap.size ∧ B ≤ g := by
  rcases h.2 with ⟨he, _⟩ | ⟨g', cap, cur, he, hb, hg, h1, h2, h3, h4⟩
  · cases he
  · injection he with e1 e2 e3
    injection e1 with e1
    injection e1 with e1 _ _
    subst e1 e3
    have hB : Blk W g 3 cur := hg
    exact ⟨take_cell hB h4 (k := i) (by omega) (iv_get L hi), hB.frozen i, hB.lt, hb⟩
set_option maxRecDepth 100000 in
set_option maxHeartbeats 8000000 in
theorem Named_any (r : Ra) (p : Int) (w : World) (h : r.At w) (h12 : r.racers.length ≤ 1000) : Calls Tryz.prog 16 #[.agg r.v, .int .i64 p] w fun e w' => G w w' ∧ ∃ v, e = .returned v ∧ w'.ownsRow w.heap.size 3 1 v (namedL r p).length (iv (namedL r p)) := by
  have hrv : r.v = #[.slice r.ra r.racers.length r.rc, .slice r.pa r.pools.length r.pc, .slice r.ta r.protests.length r.tc] := rfl
  obtain ⟨i0, hi0, hz0, hz1, hz2⟩ := info_parts info3
  obtain ⟨W1, hW1⟩ : ∃ W1, W1 = w.alloc (.cells #[.slice r.ra r.racers.length r.rc, .slice r.pa r.pools.length r.pc, .slice r.ta r.protests.length r.tc] 26) := ⟨_, rfl⟩
  have g0 : G w W1 := by rw [hW1]; exact (G.rf _).a _
  have b0 : Blk W1 w.heap.size 26 #[.slice r.ra r.racers.length r.rc, .slice r.pa r.pools.length r.pc, .slice r.ta r.protests.length r.tc] := by rw [hW1]; exact Blk.new _ _ _
  have HRS := Lib.hid (h.rs.below g0)
  have HNQ := Lib.hid h.nq
  have HB0 := Lib.hid b0
  rw [hrv]
  clear h hrv
  go_enter Tryz.func16, Tryz.ntmps16
  go_upto_region 1 with fail
  change Code.wp _ _ _ _ (w.alloc (.cells #[.slice r.ra r.racers.length r.rc, .slice r.pa r.pools.length r.pc, .slice r.ta r.protests.length r.tc] 26))
  rw [← hW1]
  clear hW1 b0
  go_wp2_with fail
  go_loopw [5, 6] (fun v i wr => ∃ (k : Nat) (O : List Int), k ≤ r.racers.length ∧ i = .int .i64 k ∧ Hid (wr.ownsRow W1.heap.size 3 1 v O.length (iv O)) ∧ Hid (NamAt r p k O) ∧ O.length ≤ k ∧ G W1 wr) (fun _ i _ => r.racers.length - (intOf i).toNat)
  case atStart => exact ⟨0, [], Nat.zero_le _, rfl, World.ownsRow_nil _ _ _ _, ⟨by simp [runs], List.Pairwise.nil⟩, Nat.le_refl _, G.rf _⟩
  case round =>
    obtain ⟨k, O, hk, rfl, HO, HNA, hOk, hG⟩ := hrel
    obtain ⟨wo, rfl⟩ : ∃ wo, wo = wr := ⟨_, rfl⟩
    have bo := HB0.out.keep hG
    have n0 := bo.cell 0
    have ln := bo.lt
    by_cases hlt : k < r.racers.length
    · have hki : (k : Int) < r.racers.length := by omega
      rcases (HRS.out.below hG).row with hx | ⟨gr, ofr, hre, hgr, hcell⟩
      · omega
      have hcl := hcell k hlt
      have hpi := (HRS.out.below hG).pools k hlt
      have hnq := HNQ.out k hlt
      rw [hre] at n0
      have n0' : wo.cell? ⟨w.heap.size, 0, none⟩ = some (.slice (some ⟨gr, ofr, none⟩) r.racers.length r.rc) := n0
      obtain ⟨z, hz⟩ : ∃ z, z = r.racers.getD k default := ⟨_, rfl⟩
      have HZ := Lib.hid hz
      rw [← hz] at hcl hpi hnq
      clear hz hcell n0 hre
      obtain ⟨zbird, zowner, zrank, zday, zpa, zpc, zpools⟩ := z
      unfold Rc.v at hcl
      dsimp only at hpi hnq
      have q0 : wo.cell? ⟨gr, ofr + k * 5, none⟩ = some (.int .i64 zbird) := hcl 0 (by omega)
      have q4 : wo.cell? ⟨gr, ofr + k * 5 + 4, none⟩ = some (.slice zpa zpools.length zpc) := hcl 4 (by omega)
      clear hcl
      have HIN := Lib.hid (In_any zpools zpa zpc p wo hpi hnq)
      have EZ : Hid (inL (r.racers.getD k default).pools p = inL zpools p) := by rw [Hid, ← HZ.out]
      have EB : Hid ((r.racers.getD k default).bird = zbird) := by rw [Hid, ← HZ.out]
      have HSZ : Hid (W1.heap.size ≤ wo.heap.size) := hG.size
      clear hpi hnq
      cases hil : inL zpools p
      · rw [hil] at HIN
        have HIL := Lib.hid hil
        clear hil
        go_wp2_with (go_at_call 28; refine (HIN.out).mono ?_; rintro e w2 ⟨rfl, hG2⟩)
        have gz := hG.t hG2
        have HOZ := Lib.hid (own_G HO.out hG2)
        go_roundw
        case rel => exact ⟨k + 1, O, by omega, by go_num, HOZ.out, HNA.out.skip hlt (EZ.out.trans HIL.out), by omega, gz⟩
        case measure => simp [intOf] <;> omega
      · rw [hil] at HIN
        have HIL := Lib.hid hil
        clear hil
        go_upto_region 6 with (go_at_call 28; refine (HIN.out).mono ?_; rintro e w2 ⟨rfl, hG2⟩)
        have gw2 := hG.t hG2
        have bo2 := bo.keep hG2
        have p0 : w2.cell? ⟨w.heap.size, 0, none⟩ = some (.slice (some ⟨gr, ofr, none⟩) r.racers.length r.rc) := ((bcellB hG2).1 _ _ bo.lt).trans n0'
        have lp := bo2.lt
        have x0 : w2.cell? ⟨gr, ofr + k * 5, none⟩ = some (.int .i64 zbird) := ((bcellB hG2).1 gr _ hgr).trans q0
        have lx := Nat.lt_of_lt_of_le hgr hG2.size
        have HO2 := Lib.hid (own_G HO.out hG2)
        clear n0' ln q0 q4 bo bo2
        go_wp2_with (at_builtin; refine wpList_append_own _ rfl _ _ 24 rfl W1.heap.size 3 i0 (.int .i64 0) 1 8 Tryz.underlying24 hi0 hz0 hz1 hz2 rfl (by decide) _ O.length (iv O) rfl ?hown ⟨_, 0, none⟩ 1 1 [.int .i64 zbird] rfl rfl (cell_one_new _ _ _) (by simp [Value.oneCell']) (by unfold maxLen; omega) (by omega) ?hbase ?hrest)
        case hown => exact own_G HO2.out ((G.rf _).a _)
        case hbase => exact (gw2.a (.cells #[.int .i64 zbird] 3)).size
        case hrest =>
          intro v9 w9 hown9 hg9 _
          have gz : G W1 w9 := grow_own (gw2.a _) (own_G HO2.out ((G.rf _).a _)) (Nat.le_refl _) hg9
          obtain ⟨g, cap, cur, hv9, _, _, _⟩ := own_some hown9 (by omega)
          subst hv9
          have hend := insAt_end O zbird
          obtain ⟨N, hN⟩ : ∃ N, N = O.length + 1 := ⟨_, rfl⟩
          rw [← hN] at hown9
          have HO9 : Hid (w9.ownsRow W1.heap.size 3 1 (.slice (some ⟨g, 0, none⟩) N cap) N (iv (insAt O zbird O.length))) := by
            rw [Hid, hend, iv_snoc]
            exact hown9
          have hwN : IntKind.i64.wrap ((N : Int) - 1) = (O.length : Int) := by
            rw [show (N : Int) - 1 = (O.length : Int) by omega]
            exact IntWalk.i64_in _ (by omega)
          have HN := Lib.hid hN
          rw [← hN]
          clear hown9 hg9 hend hN HO2 HO p0 lp x0 lx HIN hgr
          go_wp2_with fail
          go_loopw [7] (fun vi wr => ∃ t : Nat, t ≤ O.length ∧ vi = .int .i64 t ∧ Hid (wr.ownsRow W1.heap.size 3 1 (.slice (some ⟨g, 0, none⟩) N cap) N (iv (insAt O zbird t))) ∧ Hid (∀ i, t ≤ i → i < O.length → zbird < O.getD i 0) ∧ G W1 wr) (fun vi _ => (intOf vi).toNat)
          case atStart => exact ⟨O.length, Nat.le_refl _, rfl, HO9.out, fun i h1 h2 => by omega, gz⟩
          case round =>
            clear HO9 gz
            obtain ⟨t, ht, rfl, HI, HBI, hG3⟩ := hrel
            obtain ⟨w10, rfl⟩ : ∃ w10, w10 = wr := ⟨_, rfl⟩
            have hLn : (insAt O zbird t).length = N := by rw [insAt_len O zbird t ht, HN.out]
            have hI := HI.out
            have HLN := Lib.hid hLn
            have htN : t < N := by have := HN.out; omega
            have htNi : (t : Int) < N := by omega
            have hcell : ∀ (W : World), W.ownsRow W1.heap.size 3 1 (.slice (some ⟨g, 0, none⟩) N cap) N (iv (insAt O zbird t)) → ∀ i, i < N → W.cell? ⟨g, i, none⟩ = some (.int .i64 ((insAt O zbird t).getD i 0)) ∧ W.frozen? ⟨g, i, none⟩ = false ∧ g < W.heap.size ∧ W1.heap.size ≤ g := fun W hW i hi => by
              rw [← hLn] at hW hi
              exact own_int_cell hW hi
            clear hLn
            by_cases ht0 : t = 0
            · subst ht0
              go_upto_region 8 with fail
              refine wp_region_Y (S := fun W' => True) 13 14 rfl (by kernel_rfl) trivial (fun hS => ?_)
              have ga := (G.rf w10).d
              refine wpAnyY_take (i := 0) (v := ?_) rfl (by kernel_rfl) (by kernel_rfl) (by kernel_rfl) (by kernel_rfl) (fun _ _ _ h => h) (Or.inl ⟨by kernel_rfl, ?_⟩) hS ?_
              rotate_left
              · intro w' hSw; go_simp; with_reducible rfl
              try simp only [Act.put, List.getElem_toArray, List.getElem_cons_zero, List.getElem_cons_succ, List.setIfInBounds_toArray, List.set_cons_zero, List.set_cons_succ]
              refine wpAnyY_take (i := 1) (v := ?_) rfl (by kernel_rfl) (by kernel_rfl) (by kernel_rfl) (by kernel_rfl) (fun _ _ _ h => h) (Or.inl ⟨by kernel_rfl, ?_⟩) hS ?_
              rotate_left
              · intro w' hSw; go_simp; with_reducible rfl
              try simp only [Act.put, List.getElem_toArray, List.getElem_cons_zero, List.getElem_cons_succ, List.setIfInBounds_toArray, List.set_cons_zero, List.set_cons_succ]
              refine wpAnyY_take (i := 2) (v := ?_) rfl (by kernel_rfl) (by kernel_rfl) (by kernel_rfl) (by kernel_rfl) (fun _ _ _ h => h) (Or.inl ⟨by kernel_rfl, ?_⟩) hS ?_
              rotate_left
              · intro w' hSw; go_simp; with_reducible rfl
              try simp only [Act.put, List.getElem_toArray, List.getElem_cons_zero, List.getElem_cons_succ, List.setIfInBounds_toArray, List.set_cons_zero, List.set_cons_succ]
              refine wpAnyY_take (i := 3) (v := undef) rfl (by kernel_rfl) (by kernel_rfl) (by kernel_rfl) (by kernel_rfl) (fun _ _ _ h => h) (Or.inr ⟨by kernel_rfl, rfl⟩) hS ?_
              try simp only [Act.put, List.getElem_toArray, List.getElem_cons_zero, List.getElem_cons_succ, List.setIfInBounds_toArray, List.set_cons_zero, List.set_cons_succ]
              refine wpAnyY_take (i := 4) (v := undef) rfl (by kernel_rfl) (by kernel_rfl) (by kernel_rfl) (by kernel_rfl) (fun _ _ _ h => h) (Or.inr ⟨by kernel_rfl, rfl⟩) hS ?_
              try simp only [Act.put, List.getElem_toArray, List.getElem_cons_zero, List.getElem_cons_succ, List.setIfInBounds_toArray, List.set_cons_zero, List.set_cons_succ]
              refine wpAnyY_take (i := 5) (v := undef) rfl (by kernel_rfl) (by kernel_rfl) (by kernel_rfl) (by kernel_rfl) (fun _ _ _ h => h) (Or.inr ⟨by kernel_rfl, rfl⟩) hS ?_
              try simp only [Act.put, List.getElem_toArray, List.getElem_cons_zero, List.getElem_cons_succ, List.setIfInBounds_toArray, List.set_cons_zero, List.set_cons_succ]
              refine wpAnyY_take (i := 6) (v := undef) rfl (by kernel_rfl) (by kernel_rfl) (by kernel_rfl) (by kernel_rfl) (fun _ _ _ h => h) (Or.inr ⟨by kernel_rfl, rfl⟩) hS ?_
              try simp only [Act.put, List.getElem_toArray, List.getElem_cons_zero, List.getElem_cons_succ, List.setIfInBounds_toArray, List.set_cons_zero, List.set_cons_succ]
              refine wpAnyY_take (i := 7) (v := undef) rfl (by kernel_rfl) (by kernel_rfl) (by kernel_rfl) (by kernel_rfl) (fun _ _ _ h => h) (Or.inr ⟨by kernel_rfl, rfl⟩) hS ?_
              try simp only [Act.put, List.getElem_toArray, List.getElem_cons_zero, List.getElem_cons_succ, List.setIfInBounds_toArray, List.set_cons_zero, List.set_cons_succ]
              refine wpAnyY_take (i := 8) (v := undef) rfl (by kernel_rfl) (by kernel_rfl) (by kernel_rfl) (by kernel_rfl) (fun _ _ _ h => h) (Or.inr ⟨by kernel_rfl, rfl⟩) hS ?_
              try simp only [Act.put, List.getElem_toArray, List.getElem_cons_zero, List.getElem_cons_succ, List.setIfInBounds_toArray, List.set_cons_zero, List.set_cons_succ]
              refine wpAnyY_take (i := 9) (v := undef) rfl (by kernel_rfl) (by kernel_rfl) (by kernel_rfl) (by kernel_rfl) (fun _ _ _ h => h) (Or.inr ⟨by kernel_rfl, rfl⟩) hS ?_
              try simp only [Act.put, List.getElem_toArray, List.getElem_cons_zero, List.getElem_cons_succ, List.setIfInBounds_toArray, List.set_cons_zero, List.set_cons_succ]
              refine wpAnyY_take (i := 10) (v := undef) rfl (by kernel_rfl) (by kernel_rfl) (by kernel_rfl) (by kernel_rfl) (fun _ _ _ h => h) (Or.inr ⟨by kernel_rfl, rfl⟩) hS ?_
              try simp only [Act.put, List.getElem_toArray, List.getElem_cons_zero, List.getElem_cons_succ, List.setIfInBounds_toArray, List.set_cons_zero, List.set_cons_succ]
              refine wpAnyY_take (i := 11) (v := undef) rfl (by kernel_rfl) (by kernel_rfl) (by kernel_rfl) (by kernel_rfl) (fun _ _ _ h => h) (Or.inr ⟨by kernel_rfl, rfl⟩) hS ?_
              try simp only [Act.put, List.getElem_toArray, List.getElem_cons_zero, List.getElem_cons_succ, List.setIfInBounds_toArray, List.set_cons_zero, List.set_cons_succ]
              refine wpAnyY_take (i := 12) (v := undef) rfl (by kernel_rfl) (by kernel_rfl) (by kernel_rfl) (by kernel_rfl) (fun _ _ _ h => h) (Or.inr ⟨by kernel_rfl, rfl⟩) hS ?_
              try simp only [Act.put, List.getElem_toArray, List.getElem_cons_zero, List.getElem_cons_succ, List.setIfInBounds_toArray, List.set_cons_zero, List.set_cons_succ]
              refine wpAnyY_oneW (i := 13) (by kernel_rfl) rfl (by kernel_rfl) (by kernel_rfl) (fun K13 hK13 => ?_)
              go_simp
              refine hK13.out _ _ ?_
              clear hK13
              try simp only [Act.put, List.getElem_toArray, List.getElem_cons_zero, List.getElem_cons_succ, List.setIfInBounds_toArray, List.set_cons_zero, List.set_cons_succ]
              refine wpAnyY_done (by kernel_rfl) ?_ _
              have HFIN := Lib.hid (own_G hI ga)
              have gzz := hG3.t ga
              clear hcell hI hS
              go_wp2_with fail
              go_roundw
              case rel => exact ⟨k + 1, insAt O zbird 0, by omega, by go_num, by rw [HLN.out]; exact HFIN.out, by rw [← EB.out]; exact HNA.out.put hlt (EZ.out.trans HIL.out) ht (by rw [EB.out]; exact HBI.out) (.inl rfl), by rw [HLN.out, HN.out]; omega, gzz⟩
              case measure => simp [intOf] <;> omega
            · obtain ⟨m, hm⟩ : ∃ m, m = t - 1 := ⟨_, rfl⟩
              have hmt : t = m + 1 := by omega
              have hwt : IntKind.i64.wrap ((t : Int) - 1) = (m : Int) := by
                rw [show (t : Int) - 1 = (m : Int) by omega]
                exact IntWalk.i64_in _ (by omega)
              have hti : (0 : Int) < (t : Int) := by omega
              have hd1 : decide ((0 : Int) < (t : Int)) = true := decide_eq_true hti
              have hd2 : decide (0 < t) = true := decide_eq_true (by omega)
              have hmN : m < N := by omega
              have hmNi : (m : Int) < N := by omega
              have HMT := Lib.hid hmt
              have eb : (insAt O zbird t).getD t 0 = zbird := insAt_get O zbird ht
              have em : (insAt O zbird t).getD m 0 = O.getD m 0 := insAt_bef O zbird ht (by omega)
              have HSTP : Hid (((insAt O zbird t).set t (O.getD m 0)).set m zbird = insAt O zbird m) := by
                rw [Hid, hmt]
                exact insAt_step O zbird (by omega)
              obtain ⟨xm, hxm⟩ : ∃ xm, xm = O.getD m 0 := ⟨_, rfl⟩
              rw [← hxm] at em HSTP
              have HXM := Lib.hid hxm
              clear hm hmt hxm
              have hSk : ∀ W', G w10 W' → W'.cell? ⟨g, t, none⟩ = some (.int .i64 zbird) ∧ W'.cell? ⟨g, m, none⟩ = some (.int .i64 xm) ∧ g < W'.heap.size := fun W' hW => by
                have a1 := hcell W' (own_G hI hW) t htN
                have a2 := hcell W' (own_G hI hW) m hmN
                rw [eb] at a1
                rw [em] at a2
                exact ⟨a1.1, a2.1, a1.2.2.1⟩
              have HI10 := Lib.hid hI
              have HCE := Lib.hid hcell
              have HSK := Lib.hid hSk
              clear hcell hI
              by_cases hbm : zbird < xm
              · have hd : decide (zbird < xm) = true := decide_eq_true hbm
                have HBM := Lib.hid hbm
                clear hbm
                go_upto_region 8 with fail
                refine wp_region_Y (S := fun W' => W'.cell? ⟨g, t, none⟩ = some (.int .i64 zbird) ∧ W'.cell? ⟨g, m, none⟩ = some (.int .i64 xm) ∧ g < W'.heap.size) 13 14 rfl (by kernel_rfl) (hSk _ (G.rf _).d) (fun hS => ?_)
                clear eb em hSk
                refine wpAnyY_take (i := 0) (v := ?_) rfl (by kernel_rfl) (by kernel_rfl) (by kernel_rfl) (by kernel_rfl) (fun _ _ _ h => h) (Or.inl ⟨by kernel_rfl, ?_⟩) hS ?_
                rotate_left
                · intro w' hSw; go_simp; with_reducible rfl
                try simp only [Act.put, List.getElem_toArray, List.getElem_cons_zero, List.getElem_cons_succ, List.setIfInBounds_toArray, List.set_cons_zero, List.set_cons_succ]
                refine wpAnyY_take (i := 1) (v := ?_) rfl (by kernel_rfl) (by kernel_rfl) (by kernel_rfl) (by kernel_rfl) (fun _ _ _ h => h) (Or.inl ⟨by kernel_rfl, ?_⟩) hS ?_
                rotate_left
                · intro w' hSw; go_simp; with_reducible rfl
                try simp only [Act.put, List.getElem_toArray, List.getElem_cons_zero, List.getElem_cons_succ, List.setIfInBounds_toArray, List.set_cons_zero, List.set_cons_succ]
                refine wpAnyY_take (i := 2) (v := ?_) rfl (by kernel_rfl) (by kernel_rfl) (by kernel_rfl) (by kernel_rfl) (fun _ _ _ h => h) (Or.inl ⟨by kernel_rfl, ?_⟩) hS ?_
                rotate_left
                · intro w' hSw; go_simp; with_reducible rfl
                try simp only [Act.put, List.getElem_toArray, List.getElem_cons_zero, List.getElem_cons_succ, List.setIfInBounds_toArray, List.set_cons_zero, List.set_cons_succ]
                refine wpAnyY_take (i := 3) (v := ?_) rfl (by kernel_rfl) (by kernel_rfl) (by kernel_rfl) (by kernel_rfl) (fun _ _ _ h => h) (Or.inl ⟨by kernel_rfl, ?_⟩) hS ?_
                rotate_left
                · intro w' hSw; go_simp; with_reducible rfl
                try simp only [Act.put, List.getElem_toArray, List.getElem_cons_zero, List.getElem_cons_succ, List.setIfInBounds_toArray, List.set_cons_zero, List.set_cons_succ]
                refine wpAnyY_take (i := 4) (v := ?_) rfl (by kernel_rfl) (by kernel_rfl) (by kernel_rfl) (by kernel_rfl) (fun _ _ _ h => h) (Or.inl ⟨by kernel_rfl, ?_⟩) hS ?_
                rotate_left
                · intro w' hSw; go_simp; with_reducible rfl
                try simp only [Act.put, List.getElem_toArray, List.getElem_cons_zero, List.getElem_cons_succ, List.setIfInBounds_toArray, List.set_cons_zero, List.set_cons_succ]
                refine wpAnyY_take (i := 5) (v := ?_) rfl (by kernel_rfl) (by kernel_rfl) (by kernel_rfl) (by kernel_rfl) (fun _ _ _ h => h) (Or.inl ⟨by kernel_rfl, ?_⟩) hS ?_
                rotate_left
                · intro w' hSw; go_simp; with_reducible rfl
                try simp only [Act.put, List.getElem_toArray, List.getElem_cons_zero, List.getElem_cons_succ, List.setIfInBounds_toArray, List.set_cons_zero, List.set_cons_succ]
                refine wpAnyY_take (i := 6) (v := ?_) rfl (by kernel_rfl) (by kernel_rfl) (by kernel_rfl) (by kernel_rfl) (fun _ _ _ h => h) (Or.inl ⟨by kernel_rfl, ?_⟩) hS ?_
                rotate_left
                · intro w' hSw; obtain ⟨s0, s1, s2⟩ := hSw; go_simp; with_reducible rfl
                try simp only [Act.put, List.getElem_toArray, List.getElem_cons_zero, List.getElem_cons_succ, List.setIfInBounds_toArray, List.set_cons_zero, List.set_cons_succ]
                refine wpAnyY_take (i := 7) (v := ?_) rfl (by kernel_rfl) (by kernel_rfl) (by kernel_rfl) (by kernel_rfl) (fun _ _ _ h => h) (Or.inl ⟨by kernel_rfl, ?_⟩) hS ?_
                rotate_left
                · intro w' hSw; go_simp; with_reducible rfl
                try simp only [Act.put, List.getElem_toArray, List.getElem_cons_zero, List.getElem_cons_succ, List.setIfInBounds_toArray, List.set_cons_zero, List.set_cons_succ]
                refine wpAnyY_take (i := 8) (v := ?_) rfl (by kernel_rfl) (by kernel_rfl) (by kernel_rfl) (by kernel_rfl) (fun _ _ _ h => h) (Or.inl ⟨by kernel_rfl, ?_⟩) hS ?_
                rotate_left
                · intro w' hSw; go_simp; with_reducible rfl
                try simp only [Act.put, List.getElem_toArray, List.getElem_cons_zero, List.getElem_cons_succ, List.setIfInBounds_toArray, List.set_cons_zero, List.set_cons_succ]
                refine wpAnyY_take (i := 9) (v := ?_) rfl (by kernel_rfl) (by kernel_rfl) (by kernel_rfl) (by kernel_rfl) (fun _ _ _ h => h) (Or.inl ⟨by kernel_rfl, ?_⟩) hS ?_
                rotate_left
                · intro w' hSw; go_simp; with_reducible rfl
                try simp only [Act.put, List.getElem_toArray, List.getElem_cons_zero, List.getElem_cons_succ, List.setIfInBounds_toArray, List.set_cons_zero, List.set_cons_succ]
                refine wpAnyY_take (i := 10) (v := ?_) rfl (by kernel_rfl) (by kernel_rfl) (by kernel_rfl) (by kernel_rfl) (fun _ _ _ h => h) (Or.inl ⟨by kernel_rfl, ?_⟩) hS ?_
                rotate_left
                · intro w' hSw; go_simp; with_reducible rfl
                try simp only [Act.put, List.getElem_toArray, List.getElem_cons_zero, List.getElem_cons_succ, List.setIfInBounds_toArray, List.set_cons_zero, List.set_cons_succ]
                refine wpAnyY_take (i := 11) (v := ?_) rfl (by kernel_rfl) (by kernel_rfl) (by kernel_rfl) (by kernel_rfl) (fun _ _ _ h => h) (Or.inl ⟨by kernel_rfl, ?_⟩) hS ?_
                rotate_left
                · intro w' hSw; obtain ⟨s0, s1, s2⟩ := hSw; go_simp; with_reducible rfl
                try simp only [Act.put, List.getElem_toArray, List.getElem_cons_zero, List.getElem_cons_succ, List.setIfInBounds_toArray, List.set_cons_zero, List.set_cons_succ]
                refine wpAnyY_take (i := 12) (v := ?_) rfl (by kernel_rfl) (by kernel_rfl) (by kernel_rfl) (by kernel_rfl) (fun _ _ _ h => h) (Or.inl ⟨by kernel_rfl, ?_⟩) hS ?_
                rotate_left
                · intro w' hSw; go_simp; with_reducible rfl
                try simp only [Act.put, List.getElem_toArray, List.getElem_cons_zero, List.getElem_cons_succ, List.setIfInBounds_toArray, List.set_cons_zero, List.set_cons_succ]
                refine wpAnyY_oneW (i := 13) (by kernel_rfl) rfl (by kernel_rfl) (by kernel_rfl) (fun K13 hK13 => ?_)
                go_simp
                refine hK13.out _ _ ?_
                clear hK13
                try simp only [Act.put, List.getElem_toArray, List.getElem_cons_zero, List.getElem_cons_succ, List.setIfInBounds_toArray, List.set_cons_zero, List.set_cons_succ]
                refine wpAnyY_done (by kernel_rfl) ?_ _
                have ga := (G.rf w10).d
                obtain ⟨w11, hw11⟩ : ∃ w11, w11 = w10.drew := ⟨_, rfl⟩
                rw [← hw11] at ga ⊢
                clear hw11 hS
                have hG4 := hG3.t ga
                have hI11 := own_G HI10.out ga
                have c1 := HCE.out _ hI11 t htN
                have c2 := HCE.out _ hI11 m hmN
                have hBg := c1.2.2.2
                have lg := c1.2.2.1
                have z1 := c1.2.1
                have e1 := c1.1
                have hSk2 : ∀ W', G w11 W' → W'.cell? ⟨g, t, none⟩ = some (.int .i64 zbird) ∧ W'.cell? ⟨g, m, none⟩ = some (.int .i64 xm) ∧ g < W'.heap.size := fun W' hW => HSK.out _ (ga.t hW)
                have hI11' := hI11
                rw [← HLN.out] at hI11'
                have hI12 := own_int_put (i := t) (x := xm) hI11' (by rw [HLN.out]; exact htN)
                have hl2 : ((insAt O zbird t).set t xm).length = (insAt O zbird t).length := List.length_set ..
                rw [← hl2] at hI12
                have d2 := own_int_cell (i := m) hI12 (by rw [hl2, HLN.out]; exact hmN)
                have hI13 := own_int_put (i := m) (x := zbird) hI12 (by rw [hl2, HLN.out]; exact hmN)
                rw [hl2, HLN.out, HSTP.out] at hI13
                have HI13 := Lib.hid hI13
                have HD1 := Lib.hid d2.1
                have HD2 := Lib.hid d2.2.1
                have HS2 := Lib.hid hSk2
                clear c1 c2 hI11 hI11' hI12 hI13 hl2 d2
                go_upto_region 10 with fail
                refine wp_region_Y (S := fun W' => True) 17 18 rfl (by kernel_rfl) trivial (fun hS => ?_)
                have hST := hSk2 _ (G.rf _).d
                clear e1 z1 hSk2
                refine wpAnyY_take (i := 2) (v := ?_) rfl (by kernel_rfl) (by kernel_rfl) (by kernel_rfl) (by kernel_rfl) (fun _ _ _ h => h) (Or.inl ⟨by kernel_rfl, ?_⟩) hS ?_
                rotate_left
                · intro w' hSw; go_simp; with_reducible rfl
                try simp only [Act.put, List.getElem_toArray, List.getElem_cons_zero, List.getElem_cons_succ, List.setIfInBounds_toArray, List.set_cons_zero, List.set_cons_succ]
                refine wpAnyY_take (i := 3) (v := ?_) rfl (by kernel_rfl) (by kernel_rfl) (by kernel_rfl) (by kernel_rfl) (fun _ _ _ h => h) (Or.inl ⟨by kernel_rfl, ?_⟩) hS ?_
                rotate_left
                · intro w' hSw; go_simp; with_reducible rfl
                try simp only [Act.put, List.getElem_toArray, List.getElem_cons_zero, List.getElem_cons_succ, List.setIfInBounds_toArray, List.set_cons_zero, List.set_cons_succ]
                refine wpAnyY_take (i := 4) (v := ?_) rfl (by kernel_rfl) (by kernel_rfl) (by kernel_rfl) (by kernel_rfl) (fun _ _ _ h => h) (Or.inl ⟨by kernel_rfl, ?_⟩) hS ?_
                rotate_left
                · intro w' hSw; go_simp; with_reducible rfl
                try simp only [Act.put, List.getElem_toArray, List.getElem_cons_zero, List.getElem_cons_succ, List.setIfInBounds_toArray, List.set_cons_zero, List.set_cons_succ]
                refine wpAnyY_weak (S := fun W' => W'.cell? ⟨g, t, none⟩ = some (.int .i64 zbird) ∧ W'.cell? ⟨g, m, none⟩ = some (.int .i64 xm) ∧ g < W'.heap.size) (z := 15) _ _ _ _ ?_
                clear hS
                have hS := hST
                refine wpAnyY_take (i := 0) (v := ?_) rfl (by kernel_rfl) (by kernel_rfl) (by kernel_rfl) (by kernel_rfl) (fun _ _ _ h => h) (Or.inl ⟨by kernel_rfl, ?_⟩) hS ?_
                rotate_left
                · intro w' hSw; go_simp; with_reducible rfl
                try simp only [Act.put, List.getElem_toArray, List.getElem_cons_zero, List.getElem_cons_succ, List.setIfInBounds_toArray, List.set_cons_zero, List.set_cons_succ]
                refine wpAnyY_take (i := 1) (v := ?_) rfl (by kernel_rfl) (by kernel_rfl) (by kernel_rfl) (by kernel_rfl) (fun _ _ _ h => h) (Or.inl ⟨by kernel_rfl, ?_⟩) hS ?_
                rotate_left
                · intro w' hSw; go_simp; with_reducible rfl
                try simp only [Act.put, List.getElem_toArray, List.getElem_cons_zero, List.getElem_cons_succ, List.setIfInBounds_toArray, List.set_cons_zero, List.set_cons_succ]
                refine wpAnyY_take (i := 5) (v := ?_) rfl (by kernel_rfl) (by kernel_rfl) (by kernel_rfl) (by kernel_rfl) (fun _ _ _ h => h) (Or.inl ⟨by kernel_rfl, ?_⟩) hS ?_
                rotate_left
                · intro w' hSw; go_simp; with_reducible rfl
                try simp only [Act.put, List.getElem_toArray, List.getElem_cons_zero, List.getElem_cons_succ, List.setIfInBounds_toArray, List.set_cons_zero, List.set_cons_succ]
                refine wpAnyY_take (i := 6) (v := ?_) rfl (by kernel_rfl) (by kernel_rfl) (by kernel_rfl) (by kernel_rfl) (fun _ _ _ h => h) (Or.inl ⟨by kernel_rfl, ?_⟩) hS ?_
                rotate_left
                · intro w' hSw; go_simp; with_reducible rfl
                try simp only [Act.put, List.getElem_toArray, List.getElem_cons_zero, List.getElem_cons_succ, List.setIfInBounds_toArray, List.set_cons_zero, List.set_cons_succ]
                refine wpAnyY_take (i := 7) (v := ?_) rfl (by kernel_rfl) (by kernel_rfl) (by kernel_rfl) (by kernel_rfl) (fun _ _ _ h => h) (Or.inl ⟨by kernel_rfl, ?_⟩) hS ?_
                rotate_left
                · intro w' hSw; go_simp; with_reducible rfl
                try simp only [Act.put, List.getElem_toArray, List.getElem_cons_zero, List.getElem_cons_succ, List.setIfInBounds_toArray, List.set_cons_zero, List.set_cons_succ]
                refine wpAnyY_take (i := 8) (v := ?_) rfl (by kernel_rfl) (by kernel_rfl) (by kernel_rfl) (by kernel_rfl) (fun _ _ _ h => h) (Or.inl ⟨by kernel_rfl, ?_⟩) hS ?_
                rotate_left
                · intro w' hSw; go_simp; with_reducible rfl
                try simp only [Act.put, List.getElem_toArray, List.getElem_cons_zero, List.getElem_cons_succ, List.setIfInBounds_toArray, List.set_cons_zero, List.set_cons_succ]
                refine wpAnyY_take (i := 9) (v := ?_) rfl (by kernel_rfl) (by kernel_rfl) (by kernel_rfl) (by kernel_rfl) (fun _ _ _ h => h) (Or.inl ⟨by kernel_rfl, ?_⟩) hS ?_
                rotate_left
                · intro w' hSw; obtain ⟨s0, s1, s2⟩ := hSw; go_simp; with_reducible rfl
                try simp only [Act.put, List.getElem_toArray, List.getElem_cons_zero, List.getElem_cons_succ, List.setIfInBounds_toArray, List.set_cons_zero, List.set_cons_succ]
                refine wpAnyY_take (i := 10) (v := ?_) rfl (by kernel_rfl) (by kernel_rfl) (by kernel_rfl) (by kernel_rfl) (fun _ _ _ h => h) (Or.inl ⟨by kernel_rfl, ?_⟩) hS ?_
                rotate_left
                · intro w' hSw; go_simp; with_reducible rfl
                try simp only [Act.put, List.getElem_toArray, List.getElem_cons_zero, List.getElem_cons_succ, List.setIfInBounds_toArray, List.set_cons_zero, List.set_cons_succ]
                refine wpAnyY_take (i := 11) (v := ?_) rfl (by kernel_rfl) (by kernel_rfl) (by kernel_rfl) (by kernel_rfl) (fun _ _ _ h => h) (Or.inl ⟨by kernel_rfl, ?_⟩) hS ?_
                rotate_left
                · intro w' hSw; go_simp; with_reducible rfl
                try simp only [Act.put, List.getElem_toArray, List.getElem_cons_zero, List.getElem_cons_succ, List.setIfInBounds_toArray, List.set_cons_zero, List.set_cons_succ]
                refine wpAnyY_take (i := 12) (v := ?_) rfl (by kernel_rfl) (by kernel_rfl) (by kernel_rfl) (by kernel_rfl) (fun _ _ _ h => h) (Or.inl ⟨by kernel_rfl, ?_⟩) hS ?_
                rotate_left
                · intro w' hSw; go_simp; with_reducible rfl
                try simp only [Act.put, List.getElem_toArray, List.getElem_cons_zero, List.getElem_cons_succ, List.setIfInBounds_toArray, List.set_cons_zero, List.set_cons_succ]
                refine wpAnyY_take (i := 13) (v := ?_) rfl (by kernel_rfl) (by kernel_rfl) (by kernel_rfl) (by kernel_rfl) (fun _ _ _ h => h) (Or.inl ⟨by kernel_rfl, ?_⟩) hS ?_
                rotate_left
                · intro w' hSw; obtain ⟨s0, s1, s2⟩ := hSw; go_simp; with_reducible rfl
                try simp only [Act.put, List.getElem_toArray, List.getElem_cons_zero, List.getElem_cons_succ, List.setIfInBounds_toArray, List.set_cons_zero, List.set_cons_succ]
                refine wpAnyY_take (i := 14) (v := ?_) rfl (by kernel_rfl) (by kernel_rfl) (by kernel_rfl) (by kernel_rfl) (fun _ _ _ h => h) (Or.inl ⟨by kernel_rfl, ?_⟩) hS ?_
                rotate_left
                · intro w' hSw; go_simp; with_reducible rfl
                try simp only [Act.put, List.getElem_toArray, List.getElem_cons_zero, List.getElem_cons_succ, List.setIfInBounds_toArray, List.set_cons_zero, List.set_cons_succ]
                have e1 : w11.cell? ⟨g, t, none⟩ = some (.int .i64 zbird) := (HS2.out _ (G.rf _)).1
                have z1 := (HCE.out _ (own_G HI10.out ga) t htN).2.1
                clear hS hST
                refine wpAnyY_oneW (i := 15) (by kernel_rfl) rfl (by kernel_rfl) (by kernel_rfl) (fun K15 hK15 => ?_)
                go_simp
                refine hK15.out _ _ ?_
                clear hK15 e1 z1
                try simp only [Act.put, List.getElem_toArray, List.getElem_cons_zero, List.getElem_cons_succ, List.setIfInBounds_toArray, List.set_cons_zero, List.set_cons_succ]
                have lg2 : g < (w11.setCell ⟨g, t, none⟩ (.int .i64 xm)).heap.size := by rw [World.size_setCell]; exact lg
                refine wpAnyY_oneW (i := 16) (by kernel_rfl) rfl (by kernel_rfl) (by kernel_rfl) (fun K16 hK16 => ?_)
                go_simp
                refine hK16.out _ _ ?_
                clear hK16
                try simp only [Act.put, List.getElem_toArray, List.getElem_cons_zero, List.getElem_cons_succ, List.setIfInBounds_toArray, List.set_cons_zero, List.set_cons_succ]
                have e2 := HD1.out
                have z2 := HD2.out
                refine wpAnyY_oneW (i := 17) (by kernel_rfl) rfl (by kernel_rfl) (by kernel_rfl) (fun K17 hK17 => ?_)
                go_simp
                refine hK17.out _ _ ?_
                clear hK17 e2 z2
                try simp only [Act.put, List.getElem_toArray, List.getElem_cons_zero, List.getElem_cons_succ, List.setIfInBounds_toArray, List.set_cons_zero, List.set_cons_succ]
                refine wpAnyY_done (by kernel_rfl) ?_ _
                have gzz := ((hG4.s (p := ⟨g, t, none⟩) hBg (.int .i64 xm)).s (p := ⟨g, m, none⟩) hBg (.int .i64 zbird)).d
                have HFIN := Lib.hid (own_G HI13.out ((G.rf _).d))
                go_wp2_with fail
                go_roundw
                case rel => exact ⟨m, by have := HMT.out; omega, by go_num, HFIN.out, fun i h1 h2 => by
                  by_cases e : i = m
                  · subst e
                    rw [← HXM.out]
                    exact HBM.out
                  · exact HBI.out i (by have := HMT.out; omega) h2, gzz⟩
                case measure =>
                  have := HMT.out
                  simp [intOf] <;> omega
              · have hd : decide (zbird < xm) = false := decide_eq_false hbm
                have HBM : Hid (O.getD (t - 1) 0 ≤ zbird) := by
                  rw [Hid, show t - 1 = m by have := HMT.out; omega, ← HXM.out]
                  omega
                clear hbm
                go_upto_region 8 with fail
                refine wp_region_Y (S := fun W' => W'.cell? ⟨g, t, none⟩ = some (.int .i64 zbird) ∧ W'.cell? ⟨g, m, none⟩ = some (.int .i64 xm) ∧ g < W'.heap.size) 13 14 rfl (by kernel_rfl) (hSk _ (G.rf _).d) (fun hS => ?_)
                clear eb em hSk
                have ga := (G.rf w10).d
                refine wpAnyY_take (i := 0) (v := ?_) rfl (by kernel_rfl) (by kernel_rfl) (by kernel_rfl) (by kernel_rfl) (fun _ _ _ h => h) (Or.inl ⟨by kernel_rfl, ?_⟩) hS ?_
                rotate_left
                · intro w' hSw; go_simp; with_reducible rfl
                try simp only [Act.put, List.getElem_toArray, List.getElem_cons_zero, List.getElem_cons_succ, List.setIfInBounds_toArray, List.set_cons_zero, List.set_cons_succ]
                refine wpAnyY_take (i := 1) (v := ?_) rfl (by kernel_rfl) (by kernel_rfl) (by kernel_rfl) (by kernel_rfl) (fun _ _ _ h => h) (Or.inl ⟨by kernel_rfl, ?_⟩) hS ?_
                rotate_left
                · intro w' hSw; go_simp; with_reducible rfl
                try simp only [Act.put, List.getElem_toArray, List.getElem_cons_zero, List.getElem_cons_succ, List.setIfInBounds_toArray, List.set_cons_zero, List.set_cons_succ]
                refine wpAnyY_take (i := 2) (v := ?_) rfl (by kernel_rfl) (by kernel_rfl) (by kernel_rfl) (by kernel_rfl) (fun _ _ _ h => h) (Or.inl ⟨by kernel_rfl, ?_⟩) hS ?_
                rotate_left
                · intro w' hSw; go_simp; with_reducible rfl
                try simp only [Act.put, List.getElem_toArray, List.getElem_cons_zero, List.getElem_cons_succ, List.setIfInBounds_toArray, List.set_cons_zero, List.set_cons_succ]
                refine wpAnyY_take (i := 3) (v := ?_) rfl (by kernel_rfl) (by kernel_rfl) (by kernel_rfl) (by kernel_rfl) (fun _ _ _ h => h) (Or.inl ⟨by kernel_rfl, ?_⟩) hS ?_
                rotate_left
                · intro w' hSw; go_simp; with_reducible rfl
                try simp only [Act.put, List.getElem_toArray, List.getElem_cons_zero, List.getElem_cons_succ, List.setIfInBounds_toArray, List.set_cons_zero, List.set_cons_succ]
                refine wpAnyY_take (i := 4) (v := ?_) rfl (by kernel_rfl) (by kernel_rfl) (by kernel_rfl) (by kernel_rfl) (fun _ _ _ h => h) (Or.inl ⟨by kernel_rfl, ?_⟩) hS ?_
                rotate_left
                · intro w' hSw; go_simp; with_reducible rfl
                try simp only [Act.put, List.getElem_toArray, List.getElem_cons_zero, List.getElem_cons_succ, List.setIfInBounds_toArray, List.set_cons_zero, List.set_cons_succ]
                refine wpAnyY_take (i := 5) (v := ?_) rfl (by kernel_rfl) (by kernel_rfl) (by kernel_rfl) (by kernel_rfl) (fun _ _ _ h => h) (Or.inl ⟨by kernel_rfl, ?_⟩) hS ?_
                rotate_left
                · intro w' hSw; go_simp; with_reducible rfl
                try simp only [Act.put, List.getElem_toArray, List.getElem_cons_zero, List.getElem_cons_succ, List.setIfInBounds_toArray, List.set_cons_zero, List.set_cons_succ]
                refine wpAnyY_take (i := 6) (v := ?_) rfl (by kernel_rfl) (by kernel_rfl) (by kernel_rfl) (by kernel_rfl) (fun _ _ _ h => h) (Or.inl ⟨by kernel_rfl, ?_⟩) hS ?_
                rotate_left
                · intro w' hSw; obtain ⟨s0, s1, s2⟩ := hSw; go_simp; with_reducible rfl
                try simp only [Act.put, List.getElem_toArray, List.getElem_cons_zero, List.getElem_cons_succ, List.setIfInBounds_toArray, List.set_cons_zero, List.set_cons_succ]
                refine wpAnyY_take (i := 7) (v := ?_) rfl (by kernel_rfl) (by kernel_rfl) (by kernel_rfl) (by kernel_rfl) (fun _ _ _ h => h) (Or.inl ⟨by kernel_rfl, ?_⟩) hS ?_
                rotate_left
                · intro w' hSw; go_simp; with_reducible rfl
                try simp only [Act.put, List.getElem_toArray, List.getElem_cons_zero, List.getElem_cons_succ, List.setIfInBounds_toArray, List.set_cons_zero, List.set_cons_succ]
                refine wpAnyY_take (i := 8) (v := ?_) rfl (by kernel_rfl) (by kernel_rfl) (by kernel_rfl) (by kernel_rfl) (fun _ _ _ h => h) (Or.inl ⟨by kernel_rfl, ?_⟩) hS ?_
                rotate_left
                · intro w' hSw; go_simp; with_reducible rfl
                try simp only [Act.put, List.getElem_toArray, List.getElem_cons_zero, List.getElem_cons_succ, List.setIfInBounds_toArray, List.set_cons_zero, List.set_cons_succ]
                refine wpAnyY_take (i := 9) (v := ?_) rfl (by kernel_rfl) (by kernel_rfl) (by kernel_rfl) (by kernel_rfl) (fun _ _ _ h => h) (Or.inl ⟨by kernel_rfl, ?_⟩) hS ?_
                rotate_left
                · intro w' hSw; go_simp; with_reducible rfl
                try simp only [Act.put, List.getElem_toArray, List.getElem_cons_zero, List.getElem_cons_succ, List.setIfInBounds_toArray, List.set_cons_zero, List.set_cons_succ]
                refine wpAnyY_take (i := 10) (v := ?_) rfl (by kernel_rfl) (by kernel_rfl) (by kernel_rfl) (by kernel_rfl) (fun _ _ _ h => h) (Or.inl ⟨by kernel_rfl, ?_⟩) hS ?_
                rotate_left
                · intro w' hSw; go_simp; with_reducible rfl
                try simp only [Act.put, List.getElem_toArray, List.getElem_cons_zero, List.getElem_cons_succ, List.setIfInBounds_toArray, List.set_cons_zero, List.set_cons_succ]
                refine wpAnyY_take (i := 11) (v := ?_) rfl (by kernel_rfl) (by kernel_rfl) (by kernel_rfl) (by kernel_rfl) (fun _ _ _ h => h) (Or.inl ⟨by kernel_rfl, ?_⟩) hS ?_
                rotate_left
                · intro w' hSw; obtain ⟨s0, s1, s2⟩ := hSw; go_simp; with_reducible rfl
                try simp only [Act.put, List.getElem_toArray, List.getElem_cons_zero, List.getElem_cons_succ, List.setIfInBounds_toArray, List.set_cons_zero, List.set_cons_succ]
                refine wpAnyY_take (i := 12) (v := ?_) rfl (by kernel_rfl) (by kernel_rfl) (by kernel_rfl) (by kernel_rfl) (fun _ _ _ h => h) (Or.inl ⟨by kernel_rfl, ?_⟩) hS ?_
                rotate_left
                · intro w' hSw; go_simp; with_reducible rfl
                try simp only [Act.put, List.getElem_toArray, List.getElem_cons_zero, List.getElem_cons_succ, List.setIfInBounds_toArray, List.set_cons_zero, List.set_cons_succ]
                refine wpAnyY_oneW (i := 13) (by kernel_rfl) rfl (by kernel_rfl) (by kernel_rfl) (fun K13 hK13 => ?_)
                go_simp
                refine hK13.out _ _ ?_
                clear hK13
                try simp only [Act.put, List.getElem_toArray, List.getElem_cons_zero, List.getElem_cons_succ, List.setIfInBounds_toArray, List.set_cons_zero, List.set_cons_succ]
                refine wpAnyY_done (by kernel_rfl) ?_ _
                have HFIN := Lib.hid (own_G HI10.out ga)
                have gzz := hG3.t ga
                clear hS
                go_wp2_with fail
                go_roundw
                case rel => exact ⟨k + 1, insAt O zbird t, by omega, by go_num, by rw [HLN.out]; exact HFIN.out, by rw [← EB.out]; exact HNA.out.put hlt (EZ.out.trans HIL.out) ht (by rw [EB.out]; exact HBI.out) (.inr (by rw [EB.out]; exact HBM.out)), by rw [HLN.out, HN.out]; omega, gzz⟩
                case measure => simp [intOf] <;> omega
    · obtain rfl : k = r.racers.length := by omega
      have hki : ¬ ((r.racers.length : Nat) : Int) < r.racers.length := by omega
      have e := HNA.out.all
      have HE := Lib.hid e
      have gz := g0.t hG
      have HF : Hid (wo.ownsRow w.heap.size 3 1 u5 (namedL r p).length (iv (namedL r p))) := by
        rw [Hid, ← HE.out]
        exact own_weaken HO.out g0.size
      clear e
      go_wp2_with fail
      go_ret
      exact ⟨gz, _, rfl, HF.out⟩
end Go.Proofs.YtnkmcoljijmgpaaGreat
