import Derived.Below
import Derived.BigQuiet
import Derived.ChangeOld
import Derived.Deep.AppendLies
import Derived.Deep.Draws
import Derived.Deep.QuietTactic
import Derived.Deep.RegionHeld
import Derived.Deep.Slices
import Derived.Ground.Names2Prog
import Derived.Ground.SlsfProg
import Derived.Ground.SlsoProg
import Derived.IntWalk
import Derived.Laws.AppendOwn
import Derived.Laws.AppendOwnNone
import Derived.Laws.Bits128
import Derived.Laws.OwnMore
import Derived.Laws.Rows
import Derived.Laws.StructEq
import Derived.Lib.Hide
import Derived.Lib.SlKeysI
import Derived.Lib.SliceRun
import Derived.Lib.SmallJoins
import Derived.LoopIn
import Derived.LoopNIn
import Derived.Maps.OwnIn
import Derived.Maps.RangeWalk
import Derived.OpenShut
import Derived.OrdersHeld
import Derived.OrdersIn
import Derived.Outline
import Derived.OwnWalkIn
import Derived.ProofKit
import Derived.RangeFuncBound
import Derived.RangeFuncCalls
import Derived.RangeFuncLeaves
import Derived.RangeFuncNested
import Derived.Shelf.Abstract
import Derived.Shelf.GgSortFunc.InsertionK
import Derived.Shelf.RegionOpen
import Derived.Shelf.SlSortCmp.NoneTotal
import Derived.Shelf.SlSortCmp.WholeK
import Derived.Shelf.SlSorted.Search
import Derived.Shelf.Slices.Cells
import Derived.Shelf.Slices.CompactI
import Derived.Shelf.Slices.In.SortNone
import Derived.Shelf.Slices.SearchI
import Derived.Shelf.Small.Bits
import Derived.Shelf.Sort.Plain
import Derived.Shelf.Strconv.Itoa0
import Derived.Sort.Grow
import Derived.Sort.MapsRangeIn
import Derived.TacticsIn
import Derived.TacticsInMore
import Derived.Test.YtnkmcoljijmgpaaGreatProg
import Derived.WalkKit
import Derived.WalkSpells
import Derived.Test.YtnkmcoljijmgpaaGreatS5
set_option linter.unusedSimpArgs false
set_option linter.unusedVariables false
namespace Go.Proofs.YtnkmcoljijmgpaaGreat
open Go.RowKit Go.Shelf Go.Sort Go.Maps
attribute [local go_sem] Oper.semAt_some
section
variable {P : Program} {ops : Array Oper} {md : Region.Mode} {Q : Exit → Act → World → Prop} {S : World → Prop} {z z' : Nat}
/-- from here on another operation is the last one that S waits for -/
theorem wpAnyY_weak : ∀ (fuel : Nat) (l : Array Bool) (a : Act) (w : World), wpAnyY P md ops Q S z fuel l a w → wpAnyY P md ops Q (fun _ => True) z' fuel l a w
  | 0, _, _, _, h => h
  | fuel + 1, l, a, w, h => ⟨h.1, fun i hi => wpOp_mono (fun a' w' hh => ⟨fun _ => trivial, wpAnyY_weak fuel _ _ _ hh.2⟩) (h.2 i hi)⟩
end
/-- b at place t of a list -/
def insAt (O : List Int) (b : Int) (t : Nat) : List Int := O.take t ++ b :: O.drop t
theorem insAt_len (O : List Int) (b : Int) (t : Nat) (h : t ≤ O.length) : (insAt O b t).length = O.length + 1 := by
  unfold insAt
  rw [List.length_append, List.length_take, List.length_cons, List.length_drop]
  omega
theorem insAt_end (O : List Int) (b : Int) : insAt O b O.length = O ++ [b] := by simp [insAt]
theorem insAt_get (O : List Int) (b : Int) {t : Nat} (h : t ≤ O.length) : (insAt O b t).getD t 0 = b := by
  unfold insAt
  rw [List.getD_eq_getElem?_getD, List.getElem?_append_right (by rw [List.length_take]; omega), List.length_take, show t - min t O.length = 0 by omega]
  rfl
theorem insAt_bef (O : List Int) (b : Int) {t m : Nat} (h : t ≤ O.length) (hm : m < t) : (insAt O b t).getD m 0 = O.getD m 0 := by
  unfold insAt
  rw [List.getD_eq_getElem?_getD, List.getElem?_append_left (by rw [List.length_take]; omega), List.getElem?_take_of_lt hm, List.getD_eq_getElem?_getD]
theorem insAt_step (O : List Int) (b : Int) {m : Nat} (h : m + 1 ≤ O.length) : ((insAt O b (m + 1)).set (m + 1) (O.getD m 0)).set m b = insAt O b m := by
  apply List.ext_getElem?
  intro i
  have hl : (insAt O b (m + 1)).length = O.length + 1 := insAt_len O b _ h
  rw [List.getElem?_set, List.length_set, hl, List.getElem?_set, hl]
  unfold insAt
  by_cases h1 : m = i
  · subst h1
    rw [if_pos rfl, if_pos (by omega), List.getElem?_append_right (by rw [List.length_take]; omega), List.length_take, show m - min m O.length = 0 by omega]
    rfl
  · rw [if_neg h1]
    by_cases h2 : m + 1 = i
    · subst h2
      rw [if_pos rfl, if_pos (by omega), List.getElem?_append_right (by rw [List.length_take]; omega), List.length_take, show m + 1 - min m O.length = 1 by omega]
      rw [List.getElem?_cons_succ, List.getElem?_drop, List.getD_eq_getElem?_getD, Nat.add_zero, List.getElem?_eq_getElem (by omega)]
      rfl
    · rw [if_neg h2]
      by_cases h3 : i < m
      · rw [List.getElem?_append_left (by rw [List.length_take]; omega), List.getElem?_append_left (by rw [List.length_take]; omega), List.getElem?_take_of_lt (by omega), List.getElem?_take_of_lt h3]
      · rw [List.getElem?_append_right (by rw [List.length_take]; omega), List.getElem?_append_right (by rw [List.length_take]; omega), List.length_take, List.length_take, show i - min (m + 1) O.length = (i - (m + 2)) + 1 by omega, show i - min m O.length = (i - (m + 2)) + 1 + 1 by omega]
        rw [List.getElem?_cons_succ, List.getElem?_cons_succ, List.getElem?_drop, List.getElem?_drop]
        congr 1
        omega
theorem insAt_perm (O : List Int) (b : Int) (t : Nat) : (insAt O b t).Perm (O ++ [b]) := by
  unfold insAt
  have h1 : (O.take t ++ b :: O.drop t).Perm (b :: (O.take t ++ O.drop t)) := List.perm_middle
  rw [List.take_append_drop] at h1
  exact h1.trans (List.perm_append_comm (l₁ := [b]) (l₂ := O))
theorem insAt_sorted {O : List Int} {b : Int} {t : Nat} (hs : O.Pairwise (· ≤ ·)) (ht : t ≤ O.length) (h1 : ∀ i, t ≤ i → i < O.length → b < O.getD i 0) (h2 : t = 0 ∨ O.getD (t - 1) 0 ≤ b) : (insAt O b t).Pairwise (· ≤ ·) := by
  have hg : ∀ i (hi : i < O.length), O.getD i 0 = O[i] := fun i hi => by simp [List.getD_eq_getElem?_getD, hi]
  have hle : ∀ x ∈ O.take t, x ≤ b := fun x hx => by
    obtain ⟨i, hi, rfl⟩ := List.mem_iff_getElem.1 hx
    rw [List.length_take] at hi
    rw [List.getElem_take]
    rcases h2 with rfl | h2
    · omega
    · rw [hg _ (by omega)] at h2
      by_cases e : i = t - 1
      · subst e; exact h2
      · have := List.pairwise_iff_getElem.1 hs i (t - 1) (by omega) (by omega) (by omega)
        exact Int.le_trans this h2
  have hge : ∀ x ∈ O.drop t, b ≤ x := fun x hx => by
    obtain ⟨i, hi, rfl⟩ := List.mem_iff_getElem.1 hx
    rw [List.length_drop] at hi
    rw [List.getElem_drop]
    have := h1 (t + i) (by omega) (by omega)
    rw [hg _ (by omega)] at this
    omega
  unfold insAt
  rw [List.pairwise_append]
  refine ⟨hs.sublist (List.take_sublist _ _), ?_, fun x hx y hy => ?_⟩
  · rw [List.pairwise_cons]
    exact ⟨hge, hs.sublist (List.drop_sublist _ _)⟩
  · rcases List.mem_cons.1 hy with rfl | hy
    · exact hle x hx
    · exact Int.le_trans (hle x hx) (hge y hy)
/-- the rings of the birds that are nominated, of the first k racers, ascending -/
structure NamAt (r : Ra) (p : Int) (k : Nat) (O : List Int) : Prop where
  perm : O.Perm ((runs r p k).map Rc.bird)
  srt : O.Pairwise (· ≤ ·)
def namedL (r : Ra) (p : Int) : List Int := (runners r p).map Rc.bird
theorem NamAt.all {r : Ra} {p : Int} {O : List Int} (h : NamAt r p r.racers.length O) : O = namedL r p := by
  have hp : O.Perm (namedL r p) := by
    refine h.perm.trans ?_
    unfold namedL runners runs
    rw [List.take_length]
    exact ((srt_perm _).map _).symm
  have hs : (namedL r p).Pairwise (· ≤ ·) := by
    unfold namedL
    rw [List.pairwise_map]
    exact runners_sorted r p
  exact List.Perm.eq_of_pairwise (le := fun a b : Int => a ≤ b) (fun a b _ _ h1 h2 => by omega) h.srt hs hp
theorem NamAt.skip {r : Ra} {p : Int} {k : Nat} {O : List Int} (h : NamAt r p k O) (hk : k < r.racers.length) (hn : inL (r.racers.getD k default).pools p = false) : NamAt r p (k + 1) O := by
  refine ⟨?_, h.srt⟩
  rw [runs_succ r p hk, if_neg (by rw [hn]; decide)]
  exact h.perm
theorem NamAt.put {r : Ra} {p : Int} {k t : Nat} {O : List Int} (h : NamAt r p k O) (hk : k < r.racers.length) (hn : inL (r.racers.getD k default).pools p = true) (ht : t ≤ O.length) (h1 : ∀ i, t ≤ i → i < O.length → (r.racers.getD k default).bird < O.getD i 0) (h2 : t = 0 ∨ O.getD (t - 1) 0 ≤ (r.racers.getD k default).bird) : NamAt r p (k + 1) (insAt O (r.racers.getD k default).bird t) := by
  refine ⟨?_, insAt_sorted h.srt ht h1 h2⟩
  rw [runs_succ r p hk, if_pos hn, List.map_append]
  exact (insAt_perm _ _ _).trans (List.Perm.append_right _ h.perm)
/-- a store into a row of numbers of one's own -/
theorem own_int_put {W : World} {B i g c : Nat} {L : List Int} {x : Int} (h : W.ownsRow B 3 1 (.slice (some ⟨g, 0, none⟩) L.length c) L.length (iv L)) (hi : i < L.length) :
    (W.setCell ⟨g, i, none⟩ (.int .i64 x)).ownsRow B 3 1 (.slice (some ⟨g, 0, none⟩) L.length c) L.length (iv (L.set i x)) := by
  rcases h.2 with ⟨he, _⟩ | ⟨g', cap, cur, he, hb, hg, h1, h2, h3, h4⟩
  · cases he
  · injection he with e1 e2 e3
    injection e1 with e1
    injection e1 with e1 _ _
    subst e1 e3
    refine ⟨by rw [iv_len, List.length_set]; omega, .inr ⟨g, _, _, rfl, hb, Blk.set_ hg _ _, h1, h2, by rw [Array.size_setIfInBounds]; exact h3, ?_⟩⟩
    have hcs : L.length * 1 ≤ cur.size := by
      have : L.length * 1 ≤ c * 1 := Nat.mul_le_mul_right 1 h1
      omega
    have e : iv (L.set i x) = (iv L).set i (.int .i64 x) := by
      unfold iv
      rw [List.map_set]
    rw [e, ← h4]
    rw [Array.toList_setIfInBounds, List.take_set]
theorem own_int_cell {W : World} {B i g c : Nat} {L : List Int} (h : W.ownsRow B 3 1 (.slice (some ⟨g, 0, none⟩) L.length c) L.length (iv L)) (hi : i < L.length) : W.cell? ⟨g, i, none⟩ = some (.int .i64 (L.getD i 0)) ∧ W.frozen? ⟨g, i, none⟩ = false ∧ g < W.heap.size ∧ B ≤ g := by
  rcases h.2 with ⟨he, _⟩ | ⟨g', cap, cur, he, hb, hg, h1, h2, h3, h4⟩
  · cases he
  · injection he with e1 e2 e3
    injection e1 with e1
    injection e1 with e1 _ _
    subst e1 e3
    have hB : Blk W g 3 cur := hg
    exact ⟨take_cell hB h4 (k := i) (by omega) (iv_get L hi), hB.frozen i, hB.lt, hb⟩
set_option maxRecDepth 100000 in
set_option maxHeartbeats 8000000 in
theorem Named_any (r : Ra) (p : Int) (w : World) (h : r.At w) (h12 : r.racers.length ≤ 1000) : Calls Tryz.prog 16 #[.agg r.v, .int .i64 p] w fun e w' => G w w' ∧ ∃ v, e = .returned v ∧ w'.ownsRow w.heap.size 3 1 v (namedL r p).length (iv (namedL r p)) := by
  have hrv : r.v = #[.slice r.ra r.racers.length r.rc, .slice r.pa r.pools.length r.pc, .slice r.ta r.protests.length r.tc] := rfl
  obtain ⟨i0, hi0, hz0, hz1, hz2⟩ := info_parts info3
  obtain ⟨W1, hW1⟩ : ∃ W1, W1 = w.alloc (.cells #[.slice r.ra r.racers.length r.rc, .slice r.pa r.pools.length r.pc, .slice r.ta r.protests.length r.tc] 26) := ⟨_, rfl⟩
  have g0 : G w W1 := by rw [hW1]; exact (G.rf _).a _
  have b0 : Blk W1 w.heap.size 26 #[.slice r.ra r.racers.length r.rc, .slice r.pa r.pools.length r.pc, .slice r.ta r.protests.length r.tc] := by rw [hW1]; exact Blk.new _ _ _
  have HRS := Lib.hid (h.rs.below g0)
  have HNQ := Lib.hid h.nq
  have HB0 := Lib.hid b0
  rw [hrv]
  clear h hrv
  go_enter Tryz.func16, Tryz.ntmps16
  go_upto_region 1 with fail
  change Code.wp _ _ _ _ (w.alloc (.cells #[.slice r.ra r.racers.length r.rc, .slice r.pa r.pools.length r.pc, .slice r.ta r.protests.length r.tc] 26))
  rw [← hW1]
  clear hW1 b0
  go_wp2_with fail
  go_loopw [5, 6] (fun v i wr => ∃ (k : Nat) (O : List Int), k ≤ r.racers.length ∧ i = .int .i64 k ∧ Hid (wr.ownsRow W1.heap.size 3 1 v O.length (iv O)) ∧ Hid (NamAt r p k O) ∧ O.length ≤ k ∧ G W1 wr) (fun _ i _ => r.racers.length - (intOf i).toNat)
  case atStart => exact ⟨0, [], Nat.zero_le _, rfl, World.ownsRow_nil _ _ _ _, ⟨by simp [runs], List.Pairwise.nil⟩, Nat.le_refl _, G.rf _⟩
  case round =>
    obtain ⟨k, O, hk, rfl, HO, HNA, hOk, hG⟩ := hrel
    obtain ⟨wo, rfl⟩ : ∃ wo, wo = wr := ⟨_, rfl⟩
    have bo := HB0.out.keep hG
    have n0 := bo.cell 0
    have ln := bo.lt
    by_cases hlt : k < r.racers.length
    · have hki : (k : Int) < r.racers.length := by omega
      rcases (HRS.out.below hG).row with hx | ⟨gr, ofr, hre, hgr, hcell⟩
      · omega
      have hcl := hcell k hlt
      have hpi := (HRS.out.below hG).pools k hlt
      have hnq := HNQ.out k hlt
      rw [hre] at n0
      have n0' : wo.cell? ⟨w.heap.size, 0, none⟩ = some (.slice (some ⟨gr, ofr, none⟩) r.racers.length r.rc) := n0
      obtain ⟨z, hz⟩ : ∃ z, z = r.racers.getD k default := ⟨_, rfl⟩
      have HZ := Lib.hid hz
      rw [← hz] at hcl hpi hnq
      clear hz hcell n0 hre
      obtain ⟨zbird, zowner, zrank, zday, zpa, zpc, zpools⟩ := z
      unfold Rc.v at hcl
      dsimp only at hpi hnq
      have q0 : wo.cell? ⟨gr, ofr + k * 5, none⟩ = some (.int .i64 zbird) := hcl 0 (by omega)
      have q4 : wo.cell? ⟨gr, ofr + k * 5 + 4, none⟩ = some (.slice zpa zpools.length zpc) := hcl 4 (by omega)
      clear hcl
      have HIN := Lib.hid (In_any zpools zpa zpc p wo hpi hnq)
      have EZ : Hid (inL (r.racers.getD k default).pools p = inL zpools p) := by rw [Hid, ← HZ.out]
      have EB : Hid ((r.racers.getD k default).bird = zbird) := by rw [Hid, ← HZ.out]
      have HSZ : Hid (W1.heap.size ≤ wo.heap.size) := hG.size
      clear hpi hnq
      cases hil : inL zpools p
      · rw [hil] at HIN
        have HIL := Lib.hid hil
        clear hil
        go_wp2_with (go_at_call 28; refine (HIN.out).mono ?_; rintro e w2 ⟨rfl, hG2⟩)
        have gz := hG.t hG2
        have HOZ := Lib.hid (own_G HO.out hG2)
        go_roundw
        case rel => exact ⟨k + 1, O, by omega, by go_num, HOZ.out, HNA.out.skip hlt (EZ.out.trans HIL.out), by omega, gz⟩
        case measure => simp [intOf] <;> omega
      · rw [hil] at HIN
        have HIL := Lib.hid hil
        clear hil
        go_upto_region 6 with (go_at_call 28; refine (HIN.out).mono ?_; rintro e w2 ⟨rfl, hG2⟩)
        have gw2 := hG.t hG2
        have bo2 := bo.keep hG2
        have p0 : w2.cell? ⟨w.heap.size, 0, none⟩ = some (.slice (some ⟨gr, ofr, none⟩) r.racers.length r.rc) := ((bcellB hG2).1 _ _ bo.lt).trans n0'
        have lp := bo2.lt
        have x0 : w2.cell? ⟨gr, ofr + k * 5, none⟩ = some (.int .i64 zbird) := ((bcellB hG2).1 gr _ hgr).trans q0
        have lx := Nat.lt_of_lt_of_le hgr hG2.size
        have HO2 := Lib.hid (own_G HO.out hG2)
        clear n0' ln q0 q4 bo bo2
        go_wp2_with (at_builtin; refine wpList_append_own _ rfl _ _ 24 rfl W1.heap.size 3 i0 (.int .i64 0) 1 8 Tryz.underlying24 hi0 hz0 hz1 hz2 rfl (by decide) _ O.length (iv O) rfl ?hown ⟨_, 0, none⟩ 1 1 [.int .i64 zbird] rfl rfl (cell_one_new _ _ _) (by simp [Value.oneCell']) (by unfold maxLen; omega) (by omega) ?hbase ?hrest)
        case hown => exact own_G HO2.out ((G.rf _).a _)
        case hbase => exact (gw2.a (.cells #[.int .i64 zbird] 3)).size
        case hrest =>
          intro v9 w9 hown9 hg9 _
          have gz : G W1 w9 := grow_own (gw2.a _) (own_G HO2.out ((G.rf _).a _)) (Nat.le_refl _) hg9
          obtain ⟨g, cap, cur, hv9, _, _, _⟩ := own_some hown9 (by omega)
          subst hv9
          have hend := insAt_end O zbird
          obtain ⟨N, hN⟩ : ∃ N, N = O.length + 1 := ⟨_, rfl⟩
          rw [← hN] at hown9
          have HO9 : Hid (w9.ownsRow W1.heap.size 3 1 (.slice (some ⟨g, 0, none⟩) N cap) N (iv (insAt O zbird O.length))) := by
            rw [Hid, hend, iv_snoc]
            exact hown9
          have hwN : IntKind.i64.wrap ((N : Int) - 1) = (O.length : Int) := by
            rw [show (N : Int) - 1 = (O.length : Int) by omega]
            exact IntWalk.i64_in _ (by omega)
          have HN := Lib.hid hN
          rw [← hN]
          clear hown9 hg9 hend hN HO2 HO p0 lp x0 lx HIN hgr
          go_wp2_with fail
          go_loopw [7] (fun vi wr => ∃ t : Nat, t ≤ O.length ∧ vi = .int .i64 t ∧ Hid (wr.ownsRow W1.heap.size 3 1 (.slice (some ⟨g, 0, none⟩) N cap) N (iv (insAt O zbird t))) ∧ Hid (∀ i, t ≤ i → i < O.length → zbird < O.getD i 0) ∧ G W1 wr) (fun vi _ => (intOf vi).toNat)
          case atStart => exact ⟨O.length, Nat.le_refl _, rfl, HO9.out, fun i h1 h2 => by omega, gz⟩
          case round =>
            clear HO9 gz
            obtain ⟨t, ht, rfl, HI, HBI, hG3⟩ := hrel
            obtain ⟨w10, rfl⟩ : ∃ w10, w10 = wr := ⟨_, rfl⟩
            have hLn : (insAt O zbird t).length = N := by rw [insAt_len O zbird t ht, HN.out]
            have hI := HI.out
            have HLN := Lib.hid hLn
            have htN : t < N := by have := HN.out; omega
            have htNi : (t : Int) < N := by omega
            have hcell : ∀ (W : World), W.ownsRow W1.heap.size 3 1 (.slice (some ⟨g, 0, none⟩) N cap) N (iv (insAt O zbird t)) → ∀ i, i < N → W.cell? ⟨g, i, none⟩ = some (.int .i64 ((insAt O zbird t).getD i 0)) ∧ W.frozen? ⟨g, i, none⟩ = false ∧ g < W.heap.size ∧ W1.heap.size ≤ g := fun W hW i hi => by
              rw [← hLn] at hW hi
              exact own_int_cell hW hi
            clear hLn
            by_cases ht0 : t = 0
            · subst ht0
              go_upto_region 8 with fail
              refine wp_region_Y (S := fun W' => True) 13 14 rfl (by kernel_rfl) trivial (fun hS => ?_)
              have ga := (G.rf w10).d
              refine wpAnyY_take (i := 0) (v := ?_) rfl (by kernel_rfl) (by kernel_rfl) (by kernel_rfl) (by kernel_rfl) (fun _ _ _ h => h) (Or.inl ⟨by kernel_rfl, ?_⟩) hS ?_
              rotate_left
              · intro w' hSw; go_simp; with_reducible rfl
              try simp only [Act.put, List.getElem_toArray, List.getElem_cons_zero, List.getElem_cons_succ, List.setIfInBounds_toArray, List.set_cons_zero, List.set_cons_succ]
              refine wpAnyY_take (i := 1) (v := ?_) rfl (by kernel_rfl) (by kernel_rfl) (by kernel_rfl) (by kernel_rfl) (fun _ _ _ h => h) (Or.inl ⟨by kernel_rfl, ?_⟩) hS ?_
              rotate_left
              · intro w' hSw; go_simp; with_reducible rfl
              try simp only [Act.put, List.getElem_toArray, List.getElem_cons_zero, List.getElem_cons_succ, List.setIfInBounds_toArray, List.set_cons_zero, List.set_cons_succ]
              refine wpAnyY_take (i := 2) (v := ?_) rfl (by kernel_rfl) (by kernel_rfl) (by kernel_rfl) (by kernel_rfl) (fun _ _ _ h => h) (Or.inl ⟨by kernel_rfl, ?_⟩) hS ?_
              rotate_left
              · intro w' hSw; go_simp; with_reducible rfl
              try simp only [Act.put, List.getElem_toArray, List.getElem_cons_zero, List.getElem_cons_succ, List.setIfInBounds_toArray, List.set_cons_zero, List.set_cons_succ]
              refine wpAnyY_take (i := 3) (v := undef) rfl (by kernel_rfl) (by kernel_rfl) (by kernel_rfl) (by kernel_rfl) (fun _ _ _ h => h) (Or.inr ⟨by kernel_rfl, rfl⟩) hS ?_
              try simp only [Act.put, List.getElem_toArray, List.getElem_cons_zero, List.getElem_cons_succ, List.setIfInBounds_toArray, List.set_cons_zero, List.set_cons_succ]
              refine wpAnyY_take (i := 4) (v := undef) rfl (by kernel_rfl) (by kernel_rfl) (by kernel_rfl) (by kernel_rfl) (fun _ _ _ h => h) (Or.inr ⟨by kernel_rfl, rfl⟩) hS ?_
              try simp only [Act.put, List.getElem_toArray, List.getElem_cons_zero, List.getElem_cons_succ, List.setIfInBounds_toArray, List.set_cons_zero, List.set_cons_succ]
              refine wpAnyY_take (i := 5) (v := undef) rfl (by kernel_rfl) (by kernel_rfl) (by kernel_rfl) (by kernel_rfl) (fun _ _ _ h => h) (Or.inr ⟨by kernel_rfl, rfl⟩) hS ?_
              try simp only [Act.put, List.getElem_toArray, List.getElem_cons_zero, List.getElem_cons_succ, List.setIfInBounds_toArray, List.set_cons_zero, List.set_cons_succ]
              refine wpAnyY_take (i := 6) (v := undef) rfl (by kernel_rfl) (by kernel_rfl) (by kernel_rfl) (by kernel_rfl) (fun _ _ _ h => h) (Or.inr ⟨by kernel_rfl, rfl⟩) hS ?_
              try simp only [Act.put, List.getElem_toArray, List.getElem_cons_zero, List.getElem_cons_succ, List.setIfInBounds_toArray, List.set_cons_zero, List.set_cons_succ]
              refine wpAnyY_take (i := 7) (v := undef) rfl (by kernel_rfl) (by kernel_rfl) (by kernel_rfl) (by kernel_rfl) (fun _ _ _ h => h) (Or.inr ⟨by kernel_rfl, rfl⟩) hS ?_
              try simp only [Act.put, List.getElem_toArray, List.getElem_cons_zero, List.getElem_cons_succ, List.setIfInBounds_toArray, List.set_cons_zero, List.set_cons_succ]
              refine wpAnyY_take (i := 8) (v := undef) rfl (by kernel_rfl) (by kernel_rfl) (by kernel_rfl) (by kernel_rfl) (fun _ _ _ h => h) (Or.inr ⟨by kernel_rfl, rfl⟩) hS ?_
              try simp only [Act.put, List.getElem_toArray, List.getElem_cons_zero, List.getElem_cons_succ, List.setIfInBounds_toArray, List.set_cons_zero, List.set_cons_succ]
              refine wpAnyY_take (i := 9) (v := undef) rfl (by kernel_rfl) (by kernel_rfl) (by kernel_rfl) (by kernel_rfl) (fun _ _ _ h => h) (Or.inr ⟨by kernel_rfl, rfl⟩) hS ?_
              try simp only [Act.put, List.getElem_toArray, List.getElem_cons_zero, List.getElem_cons_succ, List.setIfInBounds_toArray, List.set_cons_zero, List.set_cons_succ]
              refine wpAnyY_take (i := 10) (v := undef) rfl (by kernel_rfl) (by kernel_rfl) (by kernel_rfl) (by kernel_rfl) (fun _ _ _ h => h) (Or.inr ⟨by kernel_rfl, rfl⟩) hS ?_
              try simp only [Act.put, List.getElem_toArray, List.getElem_cons_zero, List.getElem_cons_succ, List.setIfInBounds_toArray, List.set_cons_zero, List.set_cons_succ]
              refine wpAnyY_take (i := 11) (v := undef) rfl (by kernel_rfl) (by kernel_rfl) (by kernel_rfl) (by kernel_rfl) (fun _ _ _ h => h) (Or.inr ⟨by kernel_rfl, rfl⟩) hS ?_
              try simp only [Act.put, List.getElem_toArray, List.getElem_cons_zero, List.getElem_cons_succ, List.setIfInBounds_toArray, List.set_cons_zero, List.set_cons_succ]
              refine wpAnyY_take (i := 12) (v := undef) rfl (by kernel_rfl) (by kernel_rfl) (by kernel_rfl) (by kernel_rfl) (fun _ _ _ h => h) (Or.inr ⟨by kernel_rfl, rfl⟩) hS ?_
              try simp only [Act.put, List.getElem_toArray, List.getElem_cons_zero, List.getElem_cons_succ, List.setIfInBounds_toArray, List.set_cons_zero, List.set_cons_succ]
              refine wpAnyY_oneW (i := 13) (by kernel_rfl) rfl (by kernel_rfl) (by kernel_rfl) (fun K13 hK13 => ?_)
              go_simp
              refine hK13.out _ _ ?_
              clear hK13
              try simp only [Act.put, List.getElem_toArray, List.getElem_cons_zero, List.getElem_cons_succ, List.setIfInBounds_toArray, List.set_cons_zero, List.set_cons_succ]
              refine wpAnyY_done (by kernel_rfl) ?_ _
              have HFIN := Lib.hid (own_G hI ga)
              have gzz := hG3.t ga
              clear hcell hI hS
              go_wp2_with fail
              go_roundw
              case rel => exact ⟨k + 1, insAt O zbird 0, by omega, by go_num, by rw [HLN.out]; exact HFIN.out, by rw [← EB.out]; exact HNA.out.put hlt (EZ.out.trans HIL.out) ht (by rw [EB.out]; exact HBI.out) (.inl rfl), by rw [HLN.out, HN.out]; omega, gzz⟩
              case measure => simp [intOf] <;> omega
            · obtain ⟨m, hm⟩ : ∃ m, m = t - 1 := ⟨_, rfl⟩
              have hmt : t = m + 1 := by omega
              have hwt : IntKind.i64.wrap ((t : Int) - 1) = (m : Int) := by
                rw [show (t : Int) - 1 = (m : Int) by omega]
                exact IntWalk.i64_in _ (by omega)
              have hti : (0 : Int) < (t : Int) := by omega
              have hd1 : decide ((0 : Int) < (t : Int)) = true := decide_eq_true hti
              have hd2 : decide (0 < t) = true := decide_eq_true (by omega)
              have hmN : m < N := by omega
              have hmNi : (m : Int) < N := by omega
              have HMT := Lib.hid hmt
              have eb : (insAt O zbird t).getD t 0 = zbird := insAt_get O zbird ht
              have em : (insAt O zbird t).getD m 0 = O.getD m 0 := insAt_bef O zbird ht (by omega)
              have HSTP : Hid (((insAt O zbird t).set t (O.getD m 0)).set m zbird = insAt O zbird m) := by
                rw [Hid, hmt]
                exact insAt_step O zbird (by omega)
              obtain ⟨xm, hxm⟩ : ∃ xm, xm = O.getD m 0 := ⟨_, rfl⟩
              rw [← hxm] at em HSTP
              have HXM := Lib.hid hxm
              clear hm hmt hxm
              have hSk : ∀ W', G w10 W' → W'.cell? ⟨g, t, none⟩ = some (.int .i64 zbird) ∧ W'.cell? ⟨g, m, none⟩ = some (.int .i64 xm) ∧ g < W'.heap.size := fun W' hW => by
                have a1 := hcell W' (own_G hI hW) t htN
                have a2 := hcell W' (own_G hI hW) m hmN
                rw [eb] at a1
                rw [em] at a2
                exact ⟨a1.1, a2.1, a1.2.2.1⟩
              have HI10 := Lib.hid hI
              have HCE := Lib.hid hcell
              have HSK := Lib.hid hSk
              clear hcell hI
              by_cases hbm : zbird < xm
              · have hd : decide (zbird < xm) = true := decide_eq_true hbm
                have HBM := Lib.hid hbm
                clear hbm
                go_upto_region 8 with fail
                refine wp_region_Y (S := fun W' => W'.cell? ⟨g, t, none⟩ = some (.int .i64 zbird) ∧ W'.cell? ⟨g, m, none⟩ = some (.int .i64 xm) ∧ g < W'.heap.size) 13 14 rfl (by kernel_rfl) (hSk _ (G.rf _).d) (fun hS => ?_)
                clear eb em hSk
                refine wpAnyY_take (i := 0) (v := ?_) rfl (by kernel_rfl) (by kernel_rfl) (by kernel_rfl) (by kernel_rfl) (fun _ _ _ h => h) (Or.inl ⟨by kernel_rfl, ?_⟩) hS ?_
                rotate_left
                · intro w' hSw; go_simp; with_reducible rfl
                try simp only [Act.put, List.getElem_toArray, List.getElem_cons_zero, List.getElem_cons_succ, List.setIfInBounds_toArray, List.set_cons_zero, List.set_cons_succ]
                refine wpAnyY_take (i := 1) (v := ?_) rfl (by kernel_rfl) (by kernel_rfl) (by kernel_rfl) (by kernel_rfl) (fun _ _ _ h => h) (Or.inl ⟨by kernel_rfl, ?_⟩) hS ?_
                rotate_left
                · intro w' hSw; go_simp; with_reducible rfl
                try simp only [Act.put, List.getElem_toArray, List.getElem_cons_zero, List.getElem_cons_succ, List.setIfInBounds_toArray, List.set_cons_zero, List.set_cons_succ]
                refine wpAnyY_take (i := 2) (v := ?_) rfl (by kernel_rfl) (by kernel_rfl) (by kernel_rfl) (by kernel_rfl) (fun _ _ _ h => h) (Or.inl ⟨by kernel_rfl, ?_⟩) hS ?_
                rotate_left
                · intro w' hSw; go_simp; with_reducible rfl
                try simp only [Act.put, List.getElem_toArray, List.getElem_cons_zero, List.getElem_cons_succ, List.setIfInBounds_toArray, List.set_cons_zero, List.set_cons_succ]
                refine wpAnyY_take (i := 3) (v := ?_) rfl (by kernel_rfl) (by kernel_rfl) (by kernel_rfl) (by kernel_rfl) (fun _ _ _ h => h) (Or.inl ⟨by kernel_rfl, ?_⟩) hS ?_
                rotate_left
                · intro w' hSw; go_simp; with_reducible rfl
                try simp only [Act.put, List.getElem_toArray, List.getElem_cons_zero, List.getElem_cons_succ, List.setIfInBounds_toArray, List.set_cons_zero, List.set_cons_succ]
                refine wpAnyY_take (i := 4) (v := ?_) rfl (by kernel_rfl) (by kernel_rfl) (by kernel_rfl) (by kernel_rfl) (fun _ _ _ h => h) (Or.inl ⟨by kernel_rfl, ?_⟩) hS ?_
                rotate_left
                · intro w' hSw; go_simp; with_reducible rfl
                try simp only [Act.put, List.getElem_toArray, List.getElem_cons_zero, List.getElem_cons_succ, List.setIfInBounds_toArray, List.set_cons_zero, List.set_cons_succ]
                refine wpAnyY_take (i := 5) (v := ?_) rfl (by kernel_rfl) (by kernel_rfl) (by kernel_rfl) (by kernel_rfl) (fun _ _ _ h => h) (Or.inl ⟨by kernel_rfl, ?_⟩) hS ?_
                rotate_left
                · intro w' hSw; go_simp; with_reducible rfl
                try simp only [Act.put, List.getElem_toArray, List.getElem_cons_zero, List.getElem_cons_succ, List.setIfInBounds_toArray, List.set_cons_zero, List.set_cons_succ]
                refine wpAnyY_take (i := 6) (v := ?_) rfl (by kernel_rfl) (by kernel_rfl) (by kernel_rfl) (by kernel_rfl) (fun _ _ _ h => h) (Or.inl ⟨by kernel_rfl, ?_⟩) hS ?_
                rotate_left
                · intro w' hSw; obtain ⟨s0, s1, s2⟩ := hSw; go_simp; with_reducible rfl
                try simp only [Act.put, List.getElem_toArray, List.getElem_cons_zero, List.getElem_cons_succ, List.setIfInBounds_toArray, List.set_cons_zero, List.set_cons_succ]
                refine wpAnyY_take (i := 7) (v := ?_) rfl (by kernel_rfl) (by kernel_rfl) (by kernel_rfl) (by kernel_rfl) (fun _ _ _ h => h) (Or.inl ⟨by kernel_rfl, ?_⟩) hS ?_
                rotate_left
                · intro w' hSw; go_simp; with_reducible rfl
                try simp only [Act.put, List.getElem_toArray, List.getElem_cons_zero, List.getElem_cons_succ, List.setIfInBounds_toArray, List.set_cons_zero, List.set_cons_succ]
                refine wpAnyY_take (i := 8) (v := ?_) rfl (by kernel_rfl) (by kernel_rfl) (by kernel_rfl) (by kernel_rfl) (fun _ _ _ h => h) (Or.inl ⟨by kernel_rfl, ?_⟩) hS ?_
                rotate_left
                · intro w' hSw; go_simp; with_reducible rfl
                try simp only [Act.put, List.getElem_toArray, List.getElem_cons_zero, List.getElem_cons_succ, List.setIfInBounds_toArray, List.set_cons_zero, List.set_cons_succ]
                refine wpAnyY_take (i := 9) (v := ?_) rfl (by kernel_rfl) (by kernel_rfl) (by kernel_rfl) (by kernel_rfl) (fun _ _ _ h => h) (Or.inl ⟨by kernel_rfl, ?_⟩) hS ?_
                rotate_left
                · intro w' hSw; go_simp; with_reducible rfl
                try simp only [Act.put, List.getElem_toArray, List.getElem_cons_zero, List.getElem_cons_succ, List.setIfInBounds_toArray, List.set_cons_zero, List.set_cons_succ]
                refine wpAnyY_take (i := 10) (v := ?_) rfl (by kernel_rfl) (by kernel_rfl) (by kernel_rfl) (by kernel_rfl) (fun _ _ _ h => h) (Or.inl ⟨by kernel_rfl, ?_⟩) hS ?_
                rotate_left
                · intro w' hSw; go_simp; with_reducible rfl
                try simp only [Act.put, List.getElem_toArray, List.getElem_cons_zero, List.getElem_cons_succ, List.setIfInBounds_toArray, List.set_cons_zero, List.set_cons_succ]
                refine wpAnyY_take (i := 11) (v := ?_) rfl (by kernel_rfl) (by kernel_rfl) (by kernel_rfl) (by kernel_rfl) (fun _ _ _ h => h) (Or.inl ⟨by kernel_rfl, ?_⟩) hS ?_
                rotate_left
                · intro w' hSw; obtain ⟨s0, s1, s2⟩ := hSw; go_simp; with_reducible rfl
                try simp only [Act.put, List.getElem_toArray, List.getElem_cons_zero, List.getElem_cons_succ, List.setIfInBounds_toArray, List.set_cons_zero, List.set_cons_succ]
                refine wpAnyY_take (i := 12) (v := ?_) rfl (by kernel_rfl) (by kernel_rfl) (by kernel_rfl) (by kernel_rfl) (fun _ _ _ h => h) (Or.inl ⟨by kernel_rfl, ?_⟩) hS ?_
                rotate_left
                · intro w' hSw; go_simp; with_reducible rfl
                try simp only [Act.put, List.getElem_toArray, List.getElem_cons_zero, List.getElem_cons_succ, List.setIfInBounds_toArray, List.set_cons_zero, List.set_cons_succ]
                refine wpAnyY_oneW (i := 13) (by kernel_rfl) rfl (by kernel_rfl) (by kernel_rfl) (fun K13 hK13 => ?_)
                go_simp
                refine hK13.out _ _ ?_
                clear hK13
                try simp only [Act.put, List.getElem_toArray, List.getElem_cons_zero, List.getElem_cons_succ, List.setIfInBounds_toArray, List.set_cons_zero, List.set_cons_succ]
                refine wpAnyY_done (by kernel_rfl) ?_ _
                have ga := (G.rf w10).d
                obtain ⟨w11, hw11⟩ : ∃ w11, w11 = w10.drew := ⟨_, rfl⟩
                rw [← hw11] at ga ⊢
                clear hw11 hS
                have hG4 := hG3.t ga
                have hI11 := own_G HI10.out ga
                have c1 := HCE.out _ hI11 t htN
                have c2 := HCE.out _ hI11 m hmN
                have hBg := c1.2.2.2
                have lg := c1.2.2.1
                have z1 := c1.2.1
                have e1 := c1.1
                have hSk2 : ∀ W', G w11 W' → W'.cell? ⟨g, t, none⟩ = some (.int .i64 zbird) ∧ W'.cell? ⟨g, m, none⟩ = some (.int .i64 xm) ∧ g < W'.heap.size := fun W' hW => HSK.out _ (ga.t hW)
                have hI11' := hI11
                rw [← HLN.out] at hI11'
                have hI12 := own_int_put (i := t) (x := xm) hI11' (by rw [HLN.out]; exact htN)
                have hl2 : ((insAt O zbird t).set t xm).length = (insAt O zbird t).length := List.length_set ..
                rw [← hl2] at hI12
                have d2 := own_int_cell (i := m) hI12 (by rw [hl2, HLN.out]; exact hmN)
                have hI13 := own_int_put (i := m) (x := zbird) hI12 (by rw [hl2, HLN.out]; exact hmN)
                rw [hl2, HLN.out, HSTP.out] at hI13
                have HI13 := Lib.hid hI13
                have HD1 := Lib.hid d2.1
                have HD2 := Lib.hid d2.2.1
                have HS2 := Lib.hid hSk2
                clear c1 c2 hI11 hI11' hI12 hI13 hl2 d2
                go_upto_region 10 with fail
                refine wp_region_Y (S := fun W' => True) 17 18 rfl (by kernel_rfl) trivial (fun hS => ?_)
                have hST := hSk2 _ (G.rf _).d
                clear e1 z1 hSk2
                refine wpAnyY_take (i := 2) (v := ?_) rfl (by kernel_rfl) (by kernel_rfl) (by kernel_rfl) (by kernel_rfl) (fun _ _ _ h => h) (Or.inl ⟨by kernel_rfl, ?_⟩) hS ?_
                rotate_left
                · intro w' hSw; go_simp; with_reducible rfl
                try simp only [Act.put, List.getElem_toArray, List.getElem_cons_zero, List.getElem_cons_succ, List.setIfInBounds_toArray, List.set_cons_zero, List.set_cons_succ]
                refine wpAnyY_take (i := 3) (v := ?_) rfl (by kernel_rfl) (by kernel_rfl) (by kernel_rfl) (by kernel_rfl) (fun _ _ _ h => h) (Or.inl ⟨by kernel_rfl, ?_⟩) hS ?_
                rotate_left
                · intro w' hSw; go_simp; with_reducible rfl
                try simp only [Act.put, List.getElem_toArray, List.getElem_cons_zero, List.getElem_cons_succ, List.setIfInBounds_toArray, List.set_cons_zero, List.set_cons_succ]
                refine wpAnyY_take (i := 4) (v := ?_) rfl (by kernel_rfl) (by kernel_rfl) (by kernel_rfl) (by kernel_rfl) (fun _ _ _ h => h) (Or.inl ⟨by kernel_rfl, ?_⟩) hS ?_
                rotate_left
                · intro w' hSw; go_simp; with_reducible rfl
                try simp only [Act.put, List.getElem_toArray, List.getElem_cons_zero, List.getElem_cons_succ, List.setIfInBounds_toArray, List.set_cons_zero, List.set_cons_succ]
                refine wpAnyY_weak (S := fun W' => W'.cell? ⟨g, t, none⟩ = some (.int .i64 zbird) ∧ W'.cell? ⟨g, m, none⟩ = some (.int .i64 xm) ∧ g < W'.heap.size) (z := 15) _ _ _ _ ?_
                clear hS
                have hS := hST
                refine wpAnyY_take (i := 0) (v := ?_) rfl (by kernel_rfl) (by kernel_rfl) (by kernel_rfl) (by kernel_rfl) (fun _ _ _ h => h) (Or.inl ⟨by kernel_rfl, ?_⟩) hS ?_
                rotate_left
                · intro w' hSw; go_simp; with_reducible rfl
                try simp only [Act.put, List.getElem_toArray, List.getElem_cons_zero, List.getElem_cons_succ, List.setIfInBounds_toArray, List.set_cons_zero, List.set_cons_succ]
                refine wpAnyY_take (i := 1) (v := ?_) rfl (by kernel_rfl) (by kernel_rfl) (by kernel_rfl) (by kernel_rfl) (fun _ _ _ h => h) (Or.inl ⟨by kernel_rfl, ?_⟩) hS ?_
                rotate_left
                · intro w' hSw; go_simp; with_reducible rfl
                try simp only [Act.put, List.getElem_toArray, List.getElem_cons_zero, List.getElem_cons_succ, List.setIfInBounds_toArray, List.set_cons_zero, List.set_cons_succ]
                refine wpAnyY_take (i := 5) (v := ?_) rfl (by kernel_rfl) (by kernel_rfl) (by kernel_rfl) (by kernel_rfl) (fun _ _ _ h => h) (Or.inl ⟨by kernel_rfl, ?_⟩) hS ?_
                rotate_left
                · intro w' hSw; go_simp; with_reducible rfl
                try simp only [Act.put, List.getElem_toArray, List.getElem_cons_zero, List.getElem_cons_succ, List.setIfInBounds_toArray, List.set_cons_zero, List.set_cons_succ]
                refine wpAnyY_take (i := 6) (v := ?_) rfl (by kernel_rfl) (by kernel_rfl) (by kernel_rfl) (by kernel_rfl) (fun _ _ _ h => h) (Or.inl ⟨by kernel_rfl, ?_⟩) hS ?_
                rotate_left
                · intro w' hSw; go_simp; with_reducible rfl
                try simp only [Act.put, List.getElem_toArray, List.getElem_cons_zero, List.getElem_cons_succ, List.setIfInBounds_toArray, List.set_cons_zero, List.set_cons_succ]
                refine wpAnyY_take (i := 7) (v := ?_) rfl (by kernel_rfl) (by kernel_rfl) (by kernel_rfl) (by kernel_rfl) (fun _ _ _ h => h) (Or.inl ⟨by kernel_rfl, ?_⟩) hS ?_
                rotate_left
                · intro w' hSw; go_simp; with_reducible rfl
                try simp only [Act.put, List.getElem_toArray, List.getElem_cons_zero, List.getElem_cons_succ, List.setIfInBounds_toArray, List.set_cons_zero, List.set_cons_succ]
                refine wpAnyY_take (i := 8) (v := ?_) rfl (by kernel_rfl) (by kernel_rfl) (by kernel_rfl) (by kernel_rfl) (fun _ _ _ h => h) (Or.inl ⟨by kernel_rfl, ?_⟩) hS ?_
                rotate_left
                · intro w' hSw; go_simp; with_reducible rfl
                try simp only [Act.put, List.getElem_toArray, List.getElem_cons_zero, List.getElem_cons_succ, List.setIfInBounds_toArray, List.set_cons_zero, List.set_cons_succ]
                refine wpAnyY_take (i := 9) (v := ?_) rfl (by kernel_rfl) (by kernel_rfl) (by kernel_rfl) (by kernel_rfl) (fun _ _ _ h => h) (Or.inl ⟨by kernel_rfl, ?_⟩) hS ?_
                rotate_left
                · intro w' hSw; obtain ⟨s0, s1, s2⟩ := hSw; go_simp; with_reducible rfl
                try simp only [Act.put, List.getElem_toArray, List.getElem_cons_zero, List.getElem_cons_succ, List.setIfInBounds_toArray, List.set_cons_zero, List.set_cons_succ]
                refine wpAnyY_take (i := 10) (v := ?_) rfl (by kernel_rfl) (by kernel_rfl) (by kernel_rfl) (by kernel_rfl) (fun _ _ _ h => h) (Or.inl ⟨by kernel_rfl, ?_⟩) hS ?_
                rotate_left
                · intro w' hSw; go_simp; with_reducible rfl
                try simp only [Act.put, List.getElem_toArray, List.getElem_cons_zero, List.getElem_cons_succ, List.setIfInBounds_toArray, List.set_cons_zero, List.set_cons_succ]
                refine wpAnyY_take (i := 11) (v := ?_) rfl (by kernel_rfl) (by kernel_rfl) (by kernel_rfl) (by kernel_rfl) (fun _ _ _ h => h) (Or.inl ⟨by kernel_rfl, ?_⟩) hS ?_
                rotate_left
                · intro w' hSw; go_simp; with_reducible rfl
                try simp only [Act.put, List.getElem_toArray, List.getElem_cons_zero, List.getElem_cons_succ, List.setIfInBounds_toArray, List.set_cons_zero, List.set_cons_succ]
                refine wpAnyY_take (i := 12) (v := ?_) rfl (by kernel_rfl) (by kernel_rfl) (by kernel_rfl) (by kernel_rfl) (fun _ _ _ h => h) (Or.inl ⟨by kernel_rfl, ?_⟩) hS ?_
                rotate_left
                · intro w' hSw; go_simp; with_reducible rfl
                try simp only [Act.put, List.getElem_toArray, List.getElem_cons_zero, List.getElem_cons_succ, List.setIfInBounds_toArray, List.set_cons_zero, List.set_cons_succ]
                refine wpAnyY_take (i := 13) (v := ?_) rfl (by kernel_rfl) (by kernel_rfl) (by kernel_rfl) (by kernel_rfl) (fun _ _ _ h => h) (Or.inl ⟨by kernel_rfl, ?_⟩) hS ?_
                rotate_left
                · intro w' hSw; obtain ⟨s0, s1, s2⟩ := hSw; go_simp; with_reducible rfl
                try simp only [Act.put, List.getElem_toArray, List.getElem_cons_zero, List.getElem_cons_succ, List.setIfInBounds_toArray, List.set_cons_zero, List.set_cons_succ]
                refine wpAnyY_take (i := 14) (v := ?_) rfl (by kernel_rfl) (by kernel_rfl) (by kernel_rfl) (by kernel_rfl) (fun _ _ _ h => h) (Or.inl ⟨by kernel_rfl, ?_⟩) hS ?_
                rotate_left
                · intro w' hSw; go_simp; with_reducible rfl
                try simp only [Act.put, List.getElem_toArray, List.getElem_cons_zero, List.getElem_cons_succ, List.setIfInBounds_toArray, List.set_cons_zero, List.set_cons_succ]
                have e1 : w11.cell? ⟨g, t, none⟩ = some (.int .i64 zbird) := (HS2.out _ (G.rf _)).1
                have z1 := (HCE.out _ (own_G HI10.out ga) t htN).2.1
                clear hS hST
                refine wpAnyY_oneW (i := 15) (by kernel_rfl) rfl (by kernel_rfl) (by kernel_rfl) (fun K15 hK15 => ?_)
                go_simp
                refine hK15.out _ _ ?_
                clear hK15 e1 z1
                try simp only [Act.put, List.getElem_toArray, List.getElem_cons_zero, List.getElem_cons_succ, List.setIfInBounds_toArray, List.set_cons_zero, List.set_cons_succ]
                have lg2 : g < (w11.setCell ⟨g, t, none⟩ (.int .i64 xm)).heap.size := by rw [World.size_setCell]; exact lg
                refine wpAnyY_oneW (i := 16) (by kernel_rfl) rfl (by kernel_rfl) (by kernel_rfl) (fun K16 hK16 => ?_)
                go_simp
                refine hK16.out _ _ ?_
                clear hK16
                try simp only [Act.put, List.getElem_toArray, List.getElem_cons_zero, List.getElem_cons_succ, List.setIfInBounds_toArray, List.set_cons_zero, List.set_cons_succ]
                have e2 := HD1.out
                have z2 := HD2.out
                refine wpAnyY_oneW (i := 17) (by kernel_rfl) rfl (by kernel_rfl) (by kernel_rfl) (fun K17 hK17 => ?_)
                go_simp
                refine hK17.out _ _ ?_
                clear hK17 e2 z2
                try simp only [Act.put, List.getElem_toArray, List.getElem_cons_zero, List.getElem_cons_succ, List.setIfInBounds_toArray, List.set_cons_zero, List.set_cons_succ]
                refine wpAnyY_done (by kernel_rfl) ?_ _
                have gzz := ((hG4.s (p := ⟨g, t, none⟩) hBg (.int .i64 xm)).s (p := ⟨g, m, none⟩) hBg (.int .i64 zbird)).d
                have HFIN := Lib.hid (own_G HI13.out ((G.rf _).d))
                go_wp2_with fail
                go_roundw
                case rel => exact ⟨m, by have := HMT.out; omega, by go_num, HFIN.out, fun i h1 h2 => by
                  by_cases e : i = m
                  · subst e
                    rw [← HXM.out]
                    exact HBM.out
                  · exact HBI.out i (by have := HMT.out; omega) h2, gzz⟩
                case measure =>
                  have := HMT.out
                  simp [intOf] <;> omega
              · have hd : decide (zbird < xm) = false := decide_eq_false hbm
                have HBM : Hid (O.getD (t - 1) 0 ≤ zbird) := by
                  rw [Hid, show t - 1 = m by have := HMT.out; omega, ← HXM.out]
                  omega
                clear hbm
                go_upto_region 8 with fail
                refine wp_region_Y (S := fun W' => W'.cell? ⟨g, t, none⟩ = some (.int .i64 zbird) ∧ W'.cell? ⟨g, m, none⟩ = some (.int .i64 xm) ∧ g < W'.heap.size) 13 14 rfl (by kernel_rfl) (hSk _ (G.rf _).d) (fun hS => ?_)
                clear eb em hSk
                have ga := (G.rf w10).d
                refine wpAnyY_take (i := 0) (v := ?_) rfl (by kernel_rfl) (by kernel_rfl) (by kernel_rfl) (by kernel_rfl) (fun _ _ _ h => h) (Or.inl ⟨by kernel_rfl, ?_⟩) hS ?_
                rotate_left
                · intro w' hSw; go_simp; with_reducible rfl
                try simp only [Act.put, List.getElem_toArray, List.getElem_cons_zero, List.getElem_cons_succ, List.setIfInBounds_toArray, List.set_cons_zero, List.set_cons_succ]
                refine wpAnyY_take (i := 1) (v := ?_) rfl (by kernel_rfl) (by kernel_rfl) (by kernel_rfl) (by kernel_rfl) (fun _ _ _ h => h) (Or.inl ⟨by kernel_rfl, ?_⟩) hS ?_
                rotate_left
                · intro w' hSw; go_simp; with_reducible rfl
                try simp only [Act.put, List.getElem_toArray, List.getElem_cons_zero, List.getElem_cons_succ, List.setIfInBounds_toArray, List.set_cons_zero, List.set_cons_succ]
                refine wpAnyY_take (i := 2) (v := ?_) rfl (by kernel_rfl) (by kernel_rfl) (by kernel_rfl) (by kernel_rfl) (fun _ _ _ h => h) (Or.inl ⟨by kernel_rfl, ?_⟩) hS ?_
                rotate_left
                · intro w' hSw; go_simp; with_reducible rfl
                try simp only [Act.put, List.getElem_toArray, List.getElem_cons_zero, List.getElem_cons_succ, List.setIfInBounds_toArray, List.set_cons_zero, List.set_cons_succ]
                refine wpAnyY_take (i := 3) (v := ?_) rfl (by kernel_rfl) (by kernel_rfl) (by kernel_rfl) (by kernel_rfl) (fun _ _ _ h => h) (Or.inl ⟨by kernel_rfl, ?_⟩) hS ?_
                rotate_left
                · intro w' hSw; go_simp; with_reducible rfl
                try simp only [Act.put, List.getElem_toArray, List.getElem_cons_zero, List.getElem_cons_succ, List.setIfInBounds_toArray, List.set_cons_zero, List.set_cons_succ]
                refine wpAnyY_take (i := 4) (v := ?_) rfl (by kernel_rfl) (by kernel_rfl) (by kernel_rfl) (by kernel_rfl) (fun _ _ _ h => h) (Or.inl ⟨by kernel_rfl, ?_⟩) hS ?_
                rotate_left
                · intro w' hSw; go_simp; with_reducible rfl
                try simp only [Act.put, List.getElem_toArray, List.getElem_cons_zero, List.getElem_cons_succ, List.setIfInBounds_toArray, List.set_cons_zero, List.set_cons_succ]
                refine wpAnyY_take (i := 5) (v := ?_) rfl (by kernel_rfl) (by kernel_rfl) (by kernel_rfl) (by kernel_rfl) (fun _ _ _ h => h) (Or.inl ⟨by kernel_rfl, ?_⟩) hS ?_
                rotate_left
                · intro w' hSw; go_simp; with_reducible rfl
                try simp only [Act.put, List.getElem_toArray, List.getElem_cons_zero, List.getElem_cons_succ, List.setIfInBounds_toArray, List.set_cons_zero, List.set_cons_succ]
                refine wpAnyY_take (i := 6) (v := ?_) rfl (by kernel_rfl) (by kernel_rfl) (by kernel_rfl) (by kernel_rfl) (fun _ _ _ h => h) (Or.inl ⟨by kernel_rfl, ?_⟩) hS ?_
                rotate_left
                · intro w' hSw; obtain ⟨s0, s1, s2⟩ := hSw; go_simp; with_reducible rfl
                try simp only [Act.put, List.getElem_toArray, List.getElem_cons_zero, List.getElem_cons_succ, List.setIfInBounds_toArray, List.set_cons_zero, List.set_cons_succ]
                refine wpAnyY_take (i := 7) (v := ?_) rfl (by kernel_rfl) (by kernel_rfl) (by kernel_rfl) (by kernel_rfl) (fun _ _ _ h => h) (Or.inl ⟨by kernel_rfl, ?_⟩) hS ?_
                rotate_left
                · intro w' hSw; go_simp; with_reducible rfl
                try simp only [Act.put, List.getElem_toArray, List.getElem_cons_zero, List.getElem_cons_succ, List.setIfInBounds_toArray, List.set_cons_zero, List.set_cons_succ]
                refine wpAnyY_take (i := 8) (v := ?_) rfl (by kernel_rfl) (by kernel_rfl) (by kernel_rfl) (by kernel_rfl) (fun _ _ _ h => h) (Or.inl ⟨by kernel_rfl, ?_⟩) hS ?_
                rotate_left
                · intro w' hSw; go_simp; with_reducible rfl
                try simp only [Act.put, List.getElem_toArray, List.getElem_cons_zero, List.getElem_cons_succ, List.setIfInBounds_toArray, List.set_cons_zero, List.set_cons_succ]
                refine wpAnyY_take (i := 9) (v := ?_) rfl (by kernel_rfl) (by kernel_rfl) (by kernel_rfl) (by kernel_rfl) (fun _ _ _ h => h) (Or.inl ⟨by kernel_rfl, ?_⟩) hS ?_
                rotate_left
                · intro w' hSw; go_simp; with_reducible rfl
                try simp only [Act.put, List.getElem_toArray, List.getElem_cons_zero, List.getElem_cons_succ, List.setIfInBounds_toArray, List.set_cons_zero, List.set_cons_succ]
                refine wpAnyY_take (i := 10) (v := ?_) rfl (by kernel_rfl) (by kernel_rfl) (by kernel_rfl) (by kernel_rfl) (fun _ _ _ h => h) (Or.inl ⟨by kernel_rfl, ?_⟩) hS ?_
                rotate_left
                · intro w' hSw; go_simp; with_reducible rfl
                try simp only [Act.put, List.getElem_toArray, List.getElem_cons_zero, List.getElem_cons_succ, List.setIfInBounds_toArray, List.set_cons_zero, List.set_cons_succ]
                refine wpAnyY_take (i := 11) (v := ?_) rfl (by kernel_rfl) (by kernel_rfl) (by kernel_rfl) (by kernel_rfl) (fun _ _ _ h => h) (Or.inl ⟨by kernel_rfl, ?_⟩) hS ?_
                rotate_left
                · intro w' hSw; obtain ⟨s0, s1, s2⟩ := hSw; go_simp; with_reducible rfl
                try simp only [Act.put, List.getElem_toArray, List.getElem_cons_zero, List.getElem_cons_succ, List.setIfInBounds_toArray, List.set_cons_zero, List.set_cons_succ]
                refine wpAnyY_take (i := 12) (v := ?_) rfl (by kernel_rfl) (by kernel_rfl) (by kernel_rfl) (by kernel_rfl) (fun _ _ _ h => h) (Or.inl ⟨by kernel_rfl, ?_⟩) hS ?_
                rotate_left
                · intro w' hSw; go_simp; with_reducible rfl
                try simp only [Act.put, List.getElem_toArray, List.getElem_cons_zero, List.getElem_cons_succ, List.setIfInBounds_toArray, List.set_cons_zero, List.set_cons_succ]
                refine wpAnyY_oneW (i := 13) (by kernel_rfl) rfl (by kernel_rfl) (by kernel_rfl) (fun K13 hK13 => ?_)
                go_simp
                refine hK13.out _ _ ?_
                clear hK13
                try simp only [Act.put, List.getElem_toArray, List.getElem_cons_zero, List.getElem_cons_succ, List.setIfInBounds_toArray, List.set_cons_zero, List.set_cons_succ]
                refine wpAnyY_done (by kernel_rfl) ?_ _
                have HFIN := Lib.hid (own_G HI10.out ga)
                have gzz := hG3.t ga
                clear hS
                go_wp2_with fail
                go_roundw
                case rel => exact ⟨k + 1, insAt O zbird t, by omega, by go_num, by rw [HLN.out]; exact HFIN.out, by rw [← EB.out]; exact HNA.out.put hlt (EZ.out.trans HIL.out) ht (by rw [EB.out]; exact HBI.out) (.inr (by rw [EB.out]; exact HBM.out)), by rw [HLN.out, HN.out]; omega, gzz⟩
                case measure => simp [intOf] <;> omega
    · obtain rfl : k = r.racers.length := by omega
      have hki : ¬ ((r.racers.length : Nat) : Int) < r.racers.length := by omega
      have e := HNA.out.all
      have HE := Lib.hid e
      have gz := g0.t hG
      have HF : Hid (wo.ownsRow w.heap.size 3 1 u5 (namedL r p).length (iv (namedL r p))) := by
        rw [Hid, ← HE.out]
        exact own_weaken HO.out g0.size
      clear e
      go_wp2_with fail
      go_ret
      exact ⟨gz, _, rfl, HF.out⟩
end Go.Proofs.YtnkmcoljijmgpaaGreat

set_option linter.unusedSimpArgs false
set_option linter.unusedVariables false
namespace Go.Proofs.YtnkmcoljijmgpaaGreat
open Go.RowKit Go.Shelf Go.Sort Go.Maps
attribute [local go_sem] Oper.semAt_some
/-- what the law asks of one pool -/
structure CenP (AL : List Pz) (NL : List Int) (stake T C L R : Int) : Prop where
  len : NL.length = AL.length
  le : AL.length ≤ 12
  bird : ∀ i, i < AL.length → NL.getD i 0 = (AL.getD i default).bird
  won : ∀ i, i < AL.length → 0 ≤ (AL.getD i default).won ∧ (AL.getD i default).won ≤ 1200001
  back : ∀ i, i < AL.length → 0 ≤ (AL.getD i default).back ∧ (AL.getD i default).back ≤ 1200001
  t : T = stake * AL.length
  c : 0 ≤ C ∧ C ≤ T
  tb : 0 ≤ T ∧ T ≤ 1200000
  sum : T = C + (AL.map Pz.won).sum + (AL.map Pz.back).sum
  l : L = T - C
  r : R = (AL.map Pz.back).sum
  rb : 0 ≤ R ∧ R ≤ 1200000
/-- sums of the first ones -/
def sumT (l : List Int) (t : Nat) : Int := (l.take t).sum
theorem sumT_succ {α : Type} [Inhabited α] (f : α → Int) (l : List α) {t : Nat} (h : t < l.length) : sumT (l.map f) (t + 1) = sumT (l.map f) t + f (l.getD t default) := by
  unfold sumT
  rw [List.take_add_one, List.sum_append, List.getElem?_map, List.getElem?_eq_getElem h, List.getD_eq_getElem?_getD, List.getElem?_eq_getElem h]
  simp
theorem sumT_all {α : Type} (f : α → Int) (l : List α) : sumT (l.map f) l.length = (l.map f).sum := by
  unfold sumT
  rw [List.take_of_length_le (by rw [List.length_map]; exact Nat.le_refl _)]
/-- what the law asks of the purses -/
structure CenQ (QL : List Pu) (n : Nat) (TS PS : Int) : Prop where
  len : QL.length ≤ n
  asc : ∀ i, i + 1 < QL.length → (QL.getD i default).owner < (QL.getD (i + 1) default).owner
  st : ∀ i, i < QL.length → 0 ≤ (QL.getD i default).staked ∧ (QL.getD i default).staked ≤ 300000000
  pd : ∀ i, i < QL.length → 0 ≤ (QL.getD i default).paid ∧ (QL.getD i default).paid ≤ 300000000
  ts : (QL.map Pu.staked).sum = TS
  ps : (QL.map Pu.paid).sum = PS
theorem naQ0 (r : Ra) (p : Int) (n : Nat) (w : World) (h : r.At w) (hn : (namedL r p).length = n) : Calls Tryz.prog 16 #[.agg r.v, .int .i64 p] w fun e w' => G w w' ∧ ∃ a c, e = .returned (.slice a n c) ∧ IntsAt w' a (namedL r p) := by
  refine (Named_any r p w h h.nr).mono ?_
  rintro e w' ⟨hG, v, rfl, ho⟩
  obtain ⟨a, c, rfl, hI⟩ := own_ints ho
  exact ⟨hG, a, c, by rw [hn], hI⟩
end Go.Proofs.YtnkmcoljijmgpaaGreat

set_option linter.unusedSimpArgs false
set_option linter.unusedVariables false
namespace Go.Proofs.YtnkmcoljijmgpaaGreat
open Go.RowKit Go.Shelf Go.Sort Go.Maps
attribute [local go_sem] Oper.semAt_some
/-- the copy, with other racers in its row, and other protests -/
theorem cp_at3 {W : World} {B1 B2 : Nat} {r o : Ra} {L : List Rc} {ta : Option Addr} {tc : Nat} {ps : List Int} (hAT : r.At W) (hrr : W.ownsRow B1 60 5 (.slice o.ra L.length o.rc) L.length (rcV L)) (hL : ∀ y ∈ L, IntsAt W y.pa y.pools ∧ y.pools.length ≤ 1000) (hlen : L.length = r.racers.length)
    (hpr : W.ownsRow B1 42 6 (.slice o.pa o.pools.length o.pc) o.pools.length (cv Po.v o.pools)) (hpt : ∀ y ∈ o.pools, W.ownsRow B1 3 1 (.slice y.ta y.table.length y.tc) y.table.length (iv y.table))
    (htr : W.ownsRow B2 3 1 (.slice ta ps.length tc) ps.length (iv ps)) (hep : o.pools.map poP = r.pools.map poP) (hps : ps.length ≤ 1000) :
    (⟨o.ra, o.rc, L, o.pa, o.pc, o.pools, ta, tc, ps⟩ : Ra).At W := by
  have hl : o.pools.length = r.pools.length := by
    have e := congrArg List.length hep
    simpa using e
  have hints : ∀ {B : Nat} {a : Option Addr} {c : Nat} {l : List Int}, W.ownsRow B 3 1 (.slice a l.length c) l.length (iv l) → IntsAt W a l := fun {B a c l} ho => by
    obtain ⟨a', c', e, hI⟩ := own_ints ho
    injection e with e1 _ _
    rw [e1]
    exact hI
  have hmem : ∀ {i : Nat}, i < L.length → L.getD i default ∈ L := fun {i} hi => by
    rw [List.getD_eq_getElem?_getD, List.getElem?_eq_getElem hi]
    exact List.getElem_mem hi
  have hmemP : ∀ {i : Nat}, i < o.pools.length → o.pools.getD i default ∈ o.pools := fun {i} hi => by
    rw [List.getD_eq_getElem?_getD, List.getElem?_eq_getElem hi]
    exact List.getElem_mem hi
  refine ⟨⟨(own_fn hrr).2, fun i hi => (hL _ (hmem hi)).1⟩, ⟨?_, fun i hi => hints (hpt _ (hmemP hi))⟩, hints htr, by show L.length ≤ 1000; rw [hlen]; exact hAT.nr, own_cap hrr, own_cap htr, by show o.pools.length ≤ 1000; rw [hl]; exact hAT.np, hps, fun i hi => (hL _ (hmem hi)).2, fun i hi => ?_⟩
  · obtain ⟨a', c', e, hR⟩ := own_rowE (v := Po.v) (fun x => rfl) hpr
    injection e with e1 _ _
    show RowE Po.v 6 W o.pa o.pools
    rw [e1]
    exact hR
  · have e := congrArg (fun m => m[i]?) hep
    simp only [List.getElem?_map] at e
    have hi' : i < o.pools.length := hi
    have hi2 : i < r.pools.length := by omega
    have h2 := hAT.nb i hi2
    rw [List.getD_eq_getElem?_getD, List.getElem?_eq_getElem hi2] at h2
    show (o.pools.getD i default).table.length ≤ 1000
    rw [List.getD_eq_getElem?_getD, List.getElem?_eq_getElem hi']
    rw [List.getElem?_eq_getElem hi', List.getElem?_eq_getElem hi2] at e
    simp only [Option.map_some, Option.some.injEq] at e
    have e3 : (o.pools[i]).table = (r.pools[i]).table := congrArg (fun q => q.2.2.2.1) e
    show (o.pools[i]).table.length ≤ 1000
    rw [e3]
    exact h2
end Go.Proofs.YtnkmcoljijmgpaaGreat
namespace Go.Proofs.YtnkmcoljijmgpaaGreat
open Go.RowKit Go.Shelf Go.ChangeShapes Go.WideShapes Go.ChangeAt
end Go.Proofs.YtnkmcoljijmgpaaGreat

set_option linter.unusedSimpArgs false
set_option linter.unusedVariables false
namespace Go.Proofs.YtnkmcoljijmgpaaGreat
open Go.RowKit Go.Shelf Go.Sort Go.Maps
attribute [local go_sem] Oper.semAt_some
theorem racer_at {l : List Rc} {b : Int} (h : hasB l b = true) : ∃ q : Nat, q < l.length ∧ (l.getD q default).bird = b ∧ idxR l b = q := by
  rcases first_or (p := fun j => (l.getD j default).bird = b) l.length with h1 | ⟨k, h1, h2, h3⟩
  · obtain ⟨x, hx, e⟩ := hasB_mem.1 h
    obtain ⟨j, hj, rfl⟩ := List.mem_iff_getElem.1 hx
    refine absurd ?_ (h1 j hj)
    rw [List.getD_eq_getElem?_getD, List.getElem?_eq_getElem hj]
    exact e
  · exact ⟨k, h1, h2, idxR_some h1 h2 h3⟩
end Go.Proofs.YtnkmcoljijmgpaaGreat

set_option linter.unusedSimpArgs false
set_option linter.unusedVariables false
namespace Go.Proofs.YtnkmcoljijmgpaaGreat
open Go.RowKit Go.Shelf Go.Sort Go.Maps
attribute [local go_sem] Oper.semAt_some
/-- the reference's check of a race and a pool -/
theorem refc_any (r : Ra) (p : Int) (w : World) (h : r.At w) : Calls Tryz.prog 63 #[.agg r.v, .int .i64 p] w fun e w' => e = .returned (.int .i64 (qE r p [])) ∧ G w w' := by
  have HCH := Lib.hid (fun (W : World) (hW : G w W) => refCheck8_any r W (h.keep hW))
  have HWI := Lib.hid (fun (W : World) => within_any p 0 ((r.pools.length : Int) - 1) W)
  have hnp := h.np
  have hrv : r.v = #[.slice r.ra r.racers.length r.rc, .slice r.pa r.pools.length r.pc, .slice r.ta r.protests.length r.tc] := rfl
  have HQ : Hid (qE r p [] = if raceB r = true then (if isInB p 0 ((r.pools.length : Int) - 1) = true then 0 else 1) else 80) := by
    show qE r p [] = _
    unfold qE
    rfl
  unfold chk8 at HCH
  rw [hrv] at HCH ⊢
  rw [HQ.out]
  clear h hrv HQ
  have g0 : G w (w.alloc (.cells #[.slice r.ra r.racers.length r.rc, .slice r.pa r.pools.length r.pc, .slice r.ta r.protests.length r.tc] 26)) := (G.rf _).a _
  have b0 : Blk (w.alloc (.cells #[.slice r.ra r.racers.length r.rc, .slice r.pa r.pools.length r.pc, .slice r.ta r.protests.length r.tc] 26)) w.heap.size 26 #[.slice r.ra r.racers.length r.rc, .slice r.pa r.pools.length r.pc, .slice r.ta r.protests.length r.tc] := Blk.new _ _ _
  have m0 := b0.cell 0
  have m1 := b0.cell 1
  have m2 := b0.cell 2
  have l0 := b0.lt
  generalize raceB r = B at *
  generalize isInB p 0 ((r.pools.length : Int) - 1) = E at *
  go_enter Tryz.func63, Tryz.ntmps63
  cases B
  · simp only [Bool.false_eq_true, if_false] at HCH ⊢
    go_wp2_with (go_at_call 14; refine (HCH.out _ g0).mono ?_; rintro e w2 ⟨rfl, hG2⟩)
    have gz := g0.t hG2
    first | exact ⟨rfl, gz⟩ | (go_ret; exact ⟨rfl, gz⟩)
  · simp only [if_true] at HCH ⊢
    cases E
    all_goals
      go_wp2_with (first | (go_at_call 14; refine (HCH.out _ g0).mono ?_; rintro e w2 ⟨rfl, hG2⟩; clear m0 m1 m2 l0; have m1 := (b0.keep hG2).cell 1; have l0 := (b0.keep hG2).lt) | (go_at_call 69; refine (HWI.out _).mono ?_; rintro e w3 ⟨rfl, hG3⟩))
      have gz := (g0.t hG2).t hG3
      first | exact ⟨rfl, gz⟩ | (go_ret; exact ⟨rfl, gz⟩)
theorem shared_any8 (am : Int) (n : Nat) (w : World) (ha : 0 ≤ am ∧ am ≤ 1000000000000) (hn : n ≤ 1000) : Calls Tryz.prog 88 #[.int .i64 am, .int .i64 (n : Nat)] w fun e w' => ∃ v, e = .returned v ∧ w'.ownsRow w.heap.size 3 1 v n (iv ((List.range n).map (shareI am n))) ∧ G w w' := by
  have hd : am.tdiv (n : Int) = am / n := Int.tdiv_eq_ediv_of_nonneg ha.1
  have hm : am.tmod (n : Int) = am % n := Int.tmod_eq_emod_of_nonneg ha.1
  have hq : 0 ≤ am / n ∧ am / (n : Int) ≤ 1000000000000 := ⟨Int.ediv_nonneg ha.1 (by omega), Int.le_trans (Int.ediv_le_self _ ha.1) ha.2⟩
  have HSH : Hid (∀ k : Nat, shareI am n k = am / n + if (k : Int) < am % n then 1 else 0) := fun k => rfl
  obtain ⟨q, hq0⟩ : ∃ q, q = am / (n : Int) := ⟨_, rfl⟩
  obtain ⟨m, hm0⟩ : ∃ m, m = am % (n : Int) := ⟨_, rfl⟩
  rw [← hq0] at hd hq HSH
  rw [← hm0] at hm HSH
  have x1 : IntKind.i64.wrap q = q := IntWalk.i64_in _ (by omega)
  have x2 : IntKind.i64.wrap (q + 1) = q + 1 := IntWalk.i64_in _ (by omega)
  obtain ⟨sh, hsh⟩ : ∃ sh : Nat → Int, sh = shareI am n := ⟨_, rfl⟩
  rw [← hsh] at HSH ⊢
  clear hq0 hm0 hsh
  go_enter Tryz.func88, Tryz.ntmps88
  go_wp2
  go_loopw [5, 6] (fun v i wr => ∃ k : Nat, k ≤ n ∧ i = .int .i64 k ∧ Hid (wr.ownsRow w.heap.size 3 1 v k (iv ((List.range k).map sh))) ∧ Hid (G w wr)) (fun _ i _ => n - (intOf i).toNat)
  case atStart => exact ⟨0, Nat.zero_le _, rfl, World.ownsRow_nil _ _ _ _, G.rf _⟩
  case round =>
    obtain ⟨k, hk, rfl, HO, HG⟩ := hrel
    obtain ⟨wi, rfl⟩ : ∃ wi, wi = wr := ⟨_, rfl⟩
    obtain ⟨va, vc, rfl⟩ := own_slice HO.out
    by_cases hlt : k < n
    · have hki : (k : Int) < n := by omega
      have hbz : ((n : Int) == 0) = false := by simp; omega
      have hbz2 : ¬ n = 0 := by omega
      have hbz3 : ¬ (n : Int) = 0 := by omega
      have hsz := HG.out.size
      have hrs : (List.range (k + 1)).map sh = (List.range k).map sh ++ [sh k] := by rw [List.range_succ, List.map_append]; rfl
      have HRS := Lib.hid hrs
      obtain ⟨i0, hi0, hz0, hz1, hz2⟩ := info_parts info3
      clear hrs
      by_cases h1 : (k : Int) < m
      · have hs : sh k = q + 1 := by rw [HSH.out, if_pos h1]
        have HS := Lib.hid hs
        have HOA := Lib.hid (own_G HO.out ((G.rf wi).a (.cells #[.int .i64 (q + 1)] 3)))
        clear hs
        go_wp2_with (at_builtin; refine wpList_append_own _ rfl _ _ 24 rfl w.heap.size 3 i0 (.int .i64 0) 1 8 Tryz.underlying24 hi0 hz0 hz1 hz2 rfl (by decide) _ k (iv ((List.range k).map sh)) rfl HOA.out ⟨wi.heap.size, 0, none⟩ 1 1 [.int .i64 (q + 1)] rfl rfl (cell_one_new _ _ _) (by simp [Value.oneCell']) (by unfold maxLen; omega) (by omega) (by simp only [World.alloc, Array.size_push]; omega) ?_; intro v9 w9 hown9 hg9 hnil9)
        go_wp2
        go_roundw
        case rel => exact ⟨k + 1, by omega, by go_num, by rw [HRS.out, iv_snoc, HS.out]; exact hown9, grow_own (HG.out.a _) HOA.out (Nat.le_refl _) hg9⟩
        case measure => simp [intOf] <;> omega
      · have hs : sh k = q := by rw [HSH.out, if_neg h1, Int.add_zero]
        have HS := Lib.hid hs
        have HOA := Lib.hid (own_G HO.out ((G.rf wi).a (.cells #[.int .i64 q] 3)))
        clear hs
        go_wp2_with (at_builtin; refine wpList_append_own _ rfl _ _ 24 rfl w.heap.size 3 i0 (.int .i64 0) 1 8 Tryz.underlying24 hi0 hz0 hz1 hz2 rfl (by decide) _ k (iv ((List.range k).map sh)) rfl HOA.out ⟨wi.heap.size, 0, none⟩ 1 1 [.int .i64 q] rfl rfl (cell_one_new _ _ _) (by simp [Value.oneCell']) (by unfold maxLen; omega) (by omega) (by simp only [World.alloc, Array.size_push]; omega) ?_; intro v9 w9 hown9 hg9 hnil9)
        go_wp2
        go_roundw
        case rel => exact ⟨k + 1, by omega, by go_num, by rw [HRS.out, iv_snoc, HS.out]; exact hown9, grow_own (HG.out.a _) HOA.out (Nat.le_refl _) hg9⟩
        case measure => simp [intOf] <;> omega
    · obtain rfl : k = n := by omega
      have hki : ¬ ((k : Nat) : Int) < k := by omega
      go_wp2_with fail
      go_ret
      exact ⟨_, rfl, HO.out, HG.out⟩
end Go.Proofs.YtnkmcoljijmgpaaGreat

set_option linter.unusedSimpArgs false
set_option linter.unusedVariables false
namespace Go.Proofs.YtnkmcoljijmgpaaGreat
open Go.RowKit Go.Shelf Go.Sort Go.Maps
attribute [local go_sem] Oper.semAt_some
/-- a row of rows of numbers of one's own -/
structure RowsAt (W : World) (B : Nat) (v : Value) (gs : List (List Int)) (cs : List Value) : Prop where
  out : W.ownsRow B 24 1 v gs.length cs
  inn : ∀ i, i < gs.length → W.ownsRow B 3 1 (cs.getD i undef) (gs.getD i []).length (iv (gs.getD i []))
theorem RowsAt.nil (W : World) (B : Nat) : RowsAt W B (.slice none 0 0) [] [] := ⟨World.ownsRow_nil _ _ _ _, fun i h => by simp at h⟩
theorem RowsAt.keepG {W W' : World} {B : Nat} {v : Value} {gs : List (List Int)} {cs : List Value} (h : RowsAt W B v gs cs) (hG : G W W') : RowsAt W' B v gs cs := ⟨own_G h.out hG, fun i hi => own_G (h.inn i hi) hG⟩
theorem RowsAt.len {W : World} {B : Nat} {v : Value} {gs : List (List Int)} {cs : List Value} (h : RowsAt W B v gs cs) : cs.length = gs.length := by have := h.out.1; omega
theorem RowsAt.push {W W' : World} {B : Nat} {v v' u : Value} {gs : List (List Int)} {cs : List Value} {g : List Int} (h : RowsAt W B v gs cs) (ht : W.ownsRow B 3 1 u g.length (iv g)) (ho : W'.ownsRow B 24 1 v' (gs.length + 1) (cs ++ [u])) (hg : W.grownBy W' v.ownBlock) : RowsAt W' B v' (gs ++ [g]) (cs ++ [u]) := by
  have hl := h.len
  refine ⟨by rw [List.length_append]; exact ho, fun i hi => ?_⟩
  rw [List.length_append, List.length_singleton] at hi
  by_cases h1 : i < gs.length
  · rw [getD_app (by omega), getD_app h1]
    exact (h.inn i h1).kept hg (own_own (h.inn i h1) h.out (by decide))
  · rw [getD_last (by omega), getD_last (by omega)]
    exact ht.kept hg (own_own ht h.out (by decide))
theorem rows_read {W : World} {B : Nat} {v : Value} {gs : List (List Int)} {cs : List Value} (h : RowsAt W B v gs cs) : ∃ va vc, v = .slice va gs.length vc ∧ GrpAt W va gs := by
  by_cases h0 : gs.length = 0
  · obtain ⟨va, vc, e⟩ : ∃ va vc, v = .slice va gs.length vc := by
      rcases h.out.2 with ⟨rfl, h1⟩ | ⟨g, cap, cur, rfl, _⟩
      · exact ⟨none, 0, by rw [h0]⟩
      · exact ⟨_, _, rfl⟩
    exact ⟨va, vc, e, fun j hj => by omega⟩
  · obtain ⟨go, ocap, ocur, hov, hbv, hlv, htv⟩ := own_some h.out (by omega)
    refine ⟨_, _, hov, fun j hj => ?_⟩
    obtain ⟨ga, gc, hcs, hig⟩ := own_ints (h.inn j hj)
    have hcl := h.len
    exact ⟨go, ga, gc, rfl, hlv, take_cell hbv htv (k := j) (by omega) (by rw [← hcs]; simp [List.getD_eq_getElem?_getD, show j < cs.length by omega]), hig⟩
theorem racer_named {r : Ra} (hr : raceB r = true) {p : Int} {i : Nat} (hi : i < (runners r p).length) : ∃ q : Nat, q < r.racers.length ∧ r.racers.getD q default = (runners r p).getD i default ∧ idxR r.racers ((runners r p).getD i default).bird = q := by
  have hg : (runners r p).getD i default = (runners r p)[i] := by simp [List.getD_eq_getElem?_getD, hi]
  have hm : (runners r p).getD i default ∈ r.racers := by
    rw [hg]
    exact (runners_sub (List.getElem_mem hi)).1
  obtain ⟨q, h1, h2, h3⟩ := racer_at (l := r.racers) (b := ((runners r p).getD i default).bird) (hasB_mem.2 ⟨_, hm, rfl⟩)
  refine ⟨q, h1, ?_, h3⟩
  refine uniq_eq (uniq_of (race_parts hr)).2 ?_ hm h2
  rw [List.getD_eq_getElem?_getD, List.getElem?_eq_getElem h1]
  exact List.getElem_mem h1
def tieP (first : Bool) (s : Int × Int) (x : Rc) : Bool := decide (x.day = s.1 ∧ x.rank = s.2) && (decide (s.1 = 1) || !first)
def tieK (first : Bool) (rs : List Rc) (s : Int × Int) (k : Nat) : List Int := ((rs.take k).filter (tieP first s)).map Rc.bird
theorem tieK_all (first : Bool) (rs : List Rc) (s : Int × Int) : tieK first rs s rs.length = tieS first rs s := by
  unfold tieK tieS
  rw [List.take_length]
  rfl
theorem tieK_succ (first : Bool) (rs : List Rc) (s : Int × Int) {k : Nat} (h : k < rs.length) : tieK first rs s (k + 1) = if tieP first s (rs.getD k default) = true then tieK first rs s k ++ [(rs.getD k default).bird] else tieK first rs s k := by
  unfold tieK
  rw [List.take_add_one, List.filter_append, List.getElem?_eq_getElem h]
  have e : rs.getD k default = rs[k] := by simp [List.getD_eq_getElem?_getD, h]
  rw [e]
  cases hv : tieP first s rs[k] <;> simp [hv]
theorem tieK_len (first : Bool) (rs : List Rc) (s : Int × Int) (k : Nat) : (tieK first rs s k).length ≤ rs.length := by
  unfold tieK
  rw [List.length_map]
  exact Nat.le_trans (List.length_filter_le _ _) (by rw [List.length_take]; omega)
theorem outT_len (first : Bool) (rs : List Rc) (t : Nat) : (outT first rs t).length ≤ t := by
  unfold outT
  exact Nat.le_trans (List.length_filter_le _ _) (by rw [List.length_map, List.length_range]; exact Nat.le_refl _)
theorem joinL67 {M C : Nat → World → Prop} {P : Prop} (h : ∀ g W, C g W → M g W) (k : (∀ g W, C g W → M g W) → P) : P := k h
def Order67 (w : World) (gs : List (List Int)) (e : Ending) (w' : World) : Prop := ∃ v cs, e = .returned v ∧ RowsAt w' w.heap.size v gs cs ∧ G w w'
theorem key_eq (d k : Nat) (hk : k < 12) : keyT (12 * d + k) = (((d + 1 : Nat) : Int), ((k + 1 : Nat) : Int)) := by
  unfold keyT
  rw [Prod.ext_iff]
  dsimp only
  omega
set_option maxRecDepth 100000 in
set_option maxHeartbeats 16000000 in
theorem order67_any (r : Ra) (p : Nat) (w : World) (h : r.At w) (hr : raceB r = true) (hp : p < r.pools.length) : Calls Tryz.prog 67 #[.agg r.v, .int .i64 (p : Nat)] w (Order67 w (orderL (fuOf r p none 0) [])) := by
  have hrv : r.v = #[.slice r.ra r.racers.length r.rc, .slice r.pa r.pools.length r.pc, .slice r.ta r.protests.length r.tc] := rfl
  have h12 := (uniq_of (race_parts hr)).1
  have hrl := runners_len r p
  have hnl : (namedL r p).length = (runners r p).length := by unfold namedL; rw [List.length_map]
  have HNA := Lib.hid (fun (W : World) (hW : G w W) => naQ0 r p (runners r p).length W (h.keep hW) hnl)
  have HRI := Lib.hid (fun (W : World) (hW : G w W) (b : Int) => racer_idx r.racers r.ra r.rc (.slice r.pa r.pools.length r.pc) (.slice r.ta r.protests.length r.tc) b W ((h.keep hW).rs.row) h.nr)
  have HRN := Lib.hid (fun (i : Nat) (hi : i < (runners r p).length) => racer_named hr hi)
  have heq := order_eq (f := fuOf r p none 0) (runners_uniq hr p) (runners_sorted r p) (fun x hx => by
    have hx2 := (runners_sub hx).1
    have h1 := racer_parts hr hx2
    unfold racerB at h1
    simp only [Bool.and_eq_true] at h1
    have h2 := h1.2.2.1
    unfold rankB at h2
    split at h2
    · rename_i h0
      exact .inl h0
    · unfold isInB at h2
      simp only [Bool.and_eq_true, decide_eq_true_eq] at h2
      exact .inr ⟨by omega, by omega⟩)
  have hPA : poolAt r p = r.pools.getD p default := by unfold poolAt; rw [Int.toNat_natCast]
  have heq2 : orderL (fuOf r p none 0) [] = outT (r.pools.getD p default).first (runners r p) 24 := by rw [← hPA]; exact heq
  rw [heq2]
  have HPP : Hid (∀ w' v cs, RowsAt w' w.heap.size v (outT (r.pools.getD p default).first (runners r p) 24) cs → G w w' → Order67 w (outT (r.pools.getD p default).first (runners r p) 24) (.returned v) w') := fun w' v cs a b => ⟨v, cs, rfl, a, b⟩
  generalize Order67 w (outT (r.pools.getD p default).first (runners r p) 24) = PP at *
  clear heq heq2
  have HNM : Hid (∀ i, i < (runners r p).length → (namedL r p).getD i 0 = ((runners r p).getD i default).bird) := fun i hi => by
    unfold namedL
    rw [List.getD_eq_getElem?_getD, List.getElem?_map, List.getElem?_eq_getElem hi, List.getD_eq_getElem?_getD, List.getElem?_eq_getElem hi]
    rfl
  rcases h.ps.row with hx | ⟨gp, op, hpe, hgp, hcell⟩
  · omega
  have hcl := hcell p hp 5 (by omega)
  obtain ⟨first, hfirst⟩ : ∃ first, first = (r.pools.getD p default).first := ⟨_, rfl⟩
  have HPF : Hid (w.cell? ⟨gp, op + p * 6 + 5, none⟩ = some (.bool first)) := by show _ = _; rw [hcl, hfirst]; rfl
  rw [← hfirst] at HPP
  have HROW := Lib.hid h.rs.row
  obtain ⟨rs, hrs⟩ : ∃ rs, rs = runners r p := ⟨_, rfl⟩
  obtain ⟨NL, hNL⟩ : ∃ NL, NL = namedL r p := ⟨_, rfl⟩
  rw [← hrs] at HNA HRN HPP HNM hrl
  rw [← hNL] at HNA HNM
  have hr12 : rs.length ≤ 12 := by omega
  have hnl2 : NL.length = rs.length := by rw [hNL, hrs]; exact hnl
  have HNL := Lib.hid hnl2
  have HPE := Lib.hid hpe
  have hpi : (p : Int) < r.pools.length := by omega
  obtain ⟨W1, hW1⟩ : ∃ W1, W1 = w.alloc (.cells #[.slice r.ra r.racers.length r.rc, .slice r.pa r.pools.length r.pc, .slice r.ta r.protests.length r.tc] 26) := ⟨_, rfl⟩
  have g1 : G w W1 := by rw [hW1]; exact (G.rf _).a _
  have B0 : Blk W1 w.heap.size 26 #[.slice r.ra r.racers.length r.rc, .slice r.pa r.pools.length r.pc, .slice r.ta r.protests.length r.tc] := by rw [hW1]; exact Blk.new _ _ _
  rw [hrv] at HNA ⊢
  clear hrs hNL hnl hnl2 hpe hcell hcl hfirst hPA h hr hrv hrl h12
  obtain ⟨i0, hi0, hz0, hz1, hz2⟩ := info_parts info3
  obtain ⟨j0, hj0, hy0, hy1, hy2⟩ := info_parts info24
  have m0 := B0.cell 0
  have m1 := B0.cell 1
  have m2 := B0.cell 2
  have l0 := B0.lt
  go_enter Tryz.func67, Tryz.ntmps67
  go_upto_region 1 with fail
  change Code.wp _ _ _ _ (w.alloc (.cells #[.slice r.ra r.racers.length r.rc, .slice r.pa r.pools.length r.pc, .slice r.ta r.protests.length r.tc] 26))
  rw [← hW1]
  clear hW1
  go_wp2_with (go_at_call 16; refine (HNA.out _ g1).mono ?_; rintro e w2 ⟨hG2, na, nc, rfl, hni⟩)
  clear m0 m1 m2 l0 HNA
  have g2 := g1.t hG2
  have HB2 := Lib.hid (B0.keep hG2)
  have HNI := Lib.hid hni
  have hlo : w.heap.size ≤ w2.heap.size := g2.size
  clear hni hG2 B0 g1
  go_loopw [6, 7] (fun v i wr => ∃ (d dd : Nat) (OO : List (List Int)) (cs : List Value), d + 1 ≤ dd ∧ dd ≤ d + 1 ∧ d ≤ 2 ∧ i = .int .i64 dd ∧ Hid (OO = outT first rs (12 * d)) ∧ Hid (RowsAt wr w2.heap.size v OO cs) ∧ Hid (G w2 wr)) (fun _ i _ => 3 - (intOf i).toNat)
  case atStart => exact ⟨0, 1, [], [], by omega, by omega, by omega, rfl, rfl, RowsAt.nil _ _, G.rf _⟩
  case round =>
    obtain ⟨d, dd, OO, cs, hd0, hd1, hd2, rfl, HOQ, HO, HG⟩ := hrel
    obtain ⟨wd, rfl⟩ : ∃ wd, wd = wr := ⟨_, rfl⟩
    by_cases hlt : d < 2
    rotate_left
    · obtain rfl : d = 2 := by omega
      have hdi : ¬ (dd : Int) ≤ 2 := by omega
      go_wp2_with fail
      rw [HOQ.out] at HO
      have hF := HPP.out _ _ _ (⟨own_weaken HO.out.out hlo, fun i hi => own_weaken (HO.out.inn i hi) hlo⟩) (g2.t HG.out)
      first | exact hF | (go_ret; exact hF)
    have hdi : (dd : Int) ≤ 2 := by omega
    go_wp2_with fail
    go_loopw [6, 8] (fun v i wr => ∃ (t tt : Nat) (OO : List (List Int)) (cs : List Value), t + 1 ≤ tt ∧ tt ≤ t + 1 ∧ t ≤ 12 ∧ i = .int .i64 tt ∧ Hid (OO = outT first rs (12 * d + t)) ∧ Hid (RowsAt wr w2.heap.size v OO cs) ∧ Hid (G w2 wr)) (fun _ i _ => 13 - (intOf i).toNat)
    case atStart => exact ⟨0, 1, OO, cs, by omega, by omega, by omega, rfl, HOQ.out, HO.out, HG.out⟩
    case round =>
      clear HO HG HOQ cs OO
      obtain ⟨t, tt, OO, cs, ht0, ht1, ht12, rfl, HOQ, HO, HG⟩ := hrel
      obtain ⟨wt, rfl⟩ : ∃ wt, wt = wr := ⟨_, rfl⟩
      by_cases htl : t < 12
      rotate_left
      · obtain rfl : t = 12 := by omega
        have hti : ¬ (tt : Int) ≤ 12 := by omega
        go_wp2_with fail
        go_roundw
        case rel => exact ⟨d + 1, dd + 1, OO, cs, by omega, by omega, by omega, by go_num, by rw [show 12 * (d + 1) = 12 * d + 12 by omega]; exact HOQ.out, HO.out, HG.out⟩
        case measure => simp [intOf] <;> omega
      have hti : (tt : Int) ≤ 12 := by omega
      have HOS := Lib.hid (outT_succ first rs (12 * d + t))
      have HOL := outT_len first rs (12 * d + t)
      rw [← HOQ.out] at HOL HOS
      have hKE : keyT (12 * d + t) = ((dd : Int), (tt : Int)) := by rw [key_eq d t htl, show dd = d + 1 by omega, show tt = t + 1 by omega]
      rw [hKE] at HOS
      clear hKE
      obtain ⟨va0, vc0, rfl⟩ := own_slice HO.out.out
      go_wp2_with fail
      go_loopw [9, 10] (fun v i wr => ∃ (k : Nat) (TK : List Int), k ≤ rs.length ∧ i = .int .i64 k ∧ Hid (TK = tieK first rs ((dd : Int), (tt : Int)) k) ∧ Hid (wr.ownsRow wt.heap.size 3 1 v TK.length (iv TK)) ∧ Hid (G wt wr)) (fun _ i _ => rs.length - (intOf i).toNat)
      case atStart => exact ⟨0, [], Nat.zero_le _, rfl, rfl, World.ownsRow_nil _ _ _ _, G.rf _⟩
      case round =>
        obtain ⟨k, TK, hk, rfl, HTK, HT, HGT⟩ := hrel
        obtain ⟨wk, rfl⟩ : ∃ wk, wk = wr := ⟨_, rfl⟩
        obtain ⟨ta0, tc0, rfl⟩ := own_slice HT.out
        by_cases hkl : k < rs.length
        rotate_left
        · obtain rfl : k = rs.length := by omega
          have hki : ¬ ((rs.length : Nat) : Int) < rs.length := by omega
          rw [tieK_all] at HTK
          have hTl : TK.length ≤ rs.length := by rw [HTK.out, ← tieK_all]; exact tieK_len _ _ _ _
          rw [← HTK.out] at HOS
          clear HTK
          have gk2 := HG.out.t HGT.out
          have HO2 := Lib.hid (HO.out.keepG HGT.out)
          have HT2 := Lib.hid (own_weaken HT.out HG.out.size)
          clear HT
          by_cases h0 : TK.length = 0
          · have hb : TK.isEmpty = true := by rw [List.isEmpty_iff]; exact List.length_eq_zero_iff.1 h0
            have HOE : Hid (outT first rs (12 * d + t + 1) = OO) := by show _ = _; rw [HOS.out, if_pos hb]
            clear HOS hb
            have hz : ¬ 0 < TK.length := by omega
            have hzz : decide ((0 : Int) < (TK.length : Int)) = false := by rw [decide_eq_false_iff_not]; omega
            go_wp2_with fail
            go_roundw
            case rel => exact ⟨t + 1, tt + 1, OO, cs, by omega, by omega, by omega, by go_num, by rw [show 12 * d + (t + 1) = 12 * d + t + 1 by omega]; exact HOE.out.symm, HO2.out, gk2⟩
            case measure => simp [intOf] <;> omega
          · have hb : ¬ TK.isEmpty = true := by rw [List.isEmpty_iff]; exact fun e => h0 (by rw [e]; rfl)
            have HOE : Hid (outT first rs (12 * d + t + 1) = OO ++ [TK]) := by show _ = _; rw [HOS.out, if_neg hb]
            clear HOS hb
            have hz : 0 < TK.length := by omega
            have hzz : decide ((0 : Int) < (TK.length : Int)) = true := by rw [decide_eq_true_iff]; omega
            clear h0
            have HOA := Lib.hid (own_G HO2.out.out ((G.rf wk).a (.cells #[.slice ta0 TK.length tc0] 24)))
            go_wp2_with (at_builtin; refine wpList_append_own _ rfl _ _ 49 rfl w2.heap.size 24 j0 (.slice none 0 0) 1 24 Tryz.underlying49 hj0 hy0 hy1 hy2 rfl (by decide) _ OO.length cs rfl HOA.out ⟨wk.heap.size, 0, none⟩ 1 1 [.slice ta0 TK.length tc0] rfl rfl (cell_one_new _ _ _) (by simp [Value.oneCell']) (by unfold maxLen; omega) (by omega) (by have h1 := gk2.size; simp only [World.alloc, Array.size_push]; omega) ?_; intro v9 w9 hown9 hg9 hnil9)
            have ga : G wk (wk.alloc (.cells #[.slice ta0 TK.length tc0] 24)) := (G.rf _).a _
            have HR9 := Lib.hid ((HO2.out.keepG ga).push (own_G HT2.out ga) hown9 hg9)
            have HG9 := Lib.hid (grow_own (gk2.t ga) HOA.out (Nat.le_refl _) hg9)
            clear hown9 hg9 HOA ga
            go_wp2_with fail
            go_roundw
            case rel => exact ⟨t + 1, tt + 1, OO ++ [TK], _, by omega, by omega, by omega, by go_num, by rw [show 12 * d + (t + 1) = 12 * d + t + 1 by omega]; exact HOE.out.symm, HR9.out, HG9.out⟩
            case measure => simp [intOf] <;> omega
        have hki : (k : Int) < rs.length := by omega
        have gk := g2.t (HG.out.t HGT.out)
        have gk2 := HG.out.t HGT.out
        obtain ⟨q, hq, hqe, hqi⟩ := HRN.out k hkl
        rcases HROW.out with hx | ⟨gr, ofr, hre, hgr, hrc⟩
        · omega
        have hcl := hrc q hq
        rw [hqe] at hcl
        have HTS := Lib.hid (tieK_succ first rs ((dd : Int), (tt : Int)) hkl)
        have HTL := tieK_len first rs ((dd : Int), (tt : Int)) k
        have hnm := HNM.out k hkl
        rcases HNI.out with hx | ⟨gn, ofn, rfl, hgn, hnc⟩
        · rw [hx] at HNL; have := HNL.out; simp at this; omega
        have n0 := hnc k (by rw [HNL.out]; exact hkl)
        rw [hnm] at n0
        have HQI := Lib.hid hqi
        obtain ⟨y, hy⟩ : ∃ y, y = rs.getD k default := ⟨_, rfl⟩
        rw [← hy] at hcl n0 HTS HQI
        clear hrc hqe hqi hnm hnc hy
        obtain ⟨zbird, zowner, zrank, zday, zpa, zpc, zpools⟩ := y
        unfold Rc.v at hcl
        dsimp only at hcl n0 HTS HQI
        have q0 : w.cell? ⟨gr, ofr + q * 5, none⟩ = some (.int .i64 zbird) := hcl 0 (by omega)
        have q1 : w.cell? ⟨gr, ofr + q * 5 + 1, none⟩ = some (.int .i64 zowner) := hcl 1 (by omega)
        have q2 : w.cell? ⟨gr, ofr + q * 5 + 2, none⟩ = some (.int .i64 zrank) := hcl 2 (by omega)
        have q3 : w.cell? ⟨gr, ofr + q * 5 + 3, none⟩ = some (.int .i64 zday) := hcl 3 (by omega)
        have q4 : w.cell? ⟨gr, ofr + q * 5 + 4, none⟩ = some (.slice zpa zpools.length zpc) := hcl 4 (by omega)
        clear hcl
        have hqii : (q : Int) < r.racers.length := by omega
        have HRE := Lib.hid hre
        have HRI2 : Hid (∀ W, G w W → Calls Tryz.prog 43 #[.agg #[.slice r.ra r.racers.length r.rc, .slice r.pa r.pools.length r.pc, .slice r.ta r.protests.length r.tc], .int .i64 zbird] W fun e w' => e = .returned (.int .i64 (q : Nat)) ∧ G W w') := fun W hW => by
          have := HRI.out W hW zbird
          rw [HQI.out] at this
          exact this
        clear hre
        go_upto_region 13 with fail
        refine wp_region_Y (S := fun W' => G wk W') 11 12 rfl (by kernel_rfl) (G.rf _).d (fun hS => ?_)
        have gd : G wk wk.drew := (G.rf _).d
        generalize wk.drew = WD at *
        refine wpAnyY_take (i := 0) (v := ?_) rfl (by kernel_rfl) (by kernel_rfl) (by kernel_rfl) (by kernel_rfl) (fun _ _ _ h => h) (Or.inl ⟨by kernel_rfl, ?_⟩) hS ?_
        rotate_left
        · intro w' hSw; go_simp; with_reducible rfl
        try simp only [Act.put, List.getElem_toArray, List.getElem_cons_zero, List.getElem_cons_succ, List.setIfInBounds_toArray, List.set_cons_zero, List.set_cons_succ]
        refine wpAnyY_take (i := 1) (v := ?_) rfl (by kernel_rfl) (by kernel_rfl) (by kernel_rfl) (by kernel_rfl) (fun _ _ _ h => h) (Or.inl ⟨by kernel_rfl, ?_⟩) hS ?_
        rotate_left
        · intro w' hSw; have s0 := (HB2.out.keep (gk2.t hSw)).cell 0; rw [HRE.out] at s0; have s3 := (HB2.out.keep (gk2.t hSw)).lt; go_simp; with_reducible rfl
        try simp only [Act.put, List.getElem_toArray, List.getElem_cons_zero, List.getElem_cons_succ, List.setIfInBounds_toArray, List.set_cons_zero, List.set_cons_succ]
        refine wpAnyY_take (i := 2) (v := ?_) rfl (by kernel_rfl) (by kernel_rfl) (by kernel_rfl) (by kernel_rfl) (fun _ _ _ h => h) (Or.inl ⟨by kernel_rfl, ?_⟩) hS ?_
        rotate_left
        · intro w' hSw; have s0 := (HB2.out.keep (gk2.t hSw)).cell 0; have s1 := (HB2.out.keep (gk2.t hSw)).cell 1; have s2 := (HB2.out.keep (gk2.t hSw)).cell 2; have s3 := (HB2.out.keep (gk2.t hSw)).lt; go_simp; with_reducible rfl
        try simp only [Act.put, List.getElem_toArray, List.getElem_cons_zero, List.getElem_cons_succ, List.setIfInBounds_toArray, List.set_cons_zero, List.set_cons_succ]
        refine wpAnyY_take (i := 3) (v := ?_) rfl (by kernel_rfl) (by kernel_rfl) (by kernel_rfl) (by kernel_rfl) (fun _ _ _ h => h) (Or.inl ⟨by kernel_rfl, ?_⟩) hS ?_
        rotate_left
        · intro w' hSw; go_simp; with_reducible rfl
        try simp only [Act.put, List.getElem_toArray, List.getElem_cons_zero, List.getElem_cons_succ, List.setIfInBounds_toArray, List.set_cons_zero, List.set_cons_succ]
        refine wpAnyY_take (i := 4) (v := ?_) rfl (by kernel_rfl) (by kernel_rfl) (by kernel_rfl) (by kernel_rfl) (fun _ _ _ h => h) (Or.inl ⟨by kernel_rfl, ?_⟩) hS ?_
        rotate_left
        · intro w' hSw; go_simp; with_reducible rfl
        try simp only [Act.put, List.getElem_toArray, List.getElem_cons_zero, List.getElem_cons_succ, List.setIfInBounds_toArray, List.set_cons_zero, List.set_cons_succ]
        refine wpAnyY_take (i := 5) (v := ?_) rfl (by kernel_rfl) (by kernel_rfl) (by kernel_rfl) (by kernel_rfl) (fun _ _ _ h => h) (Or.inl ⟨by kernel_rfl, ?_⟩) hS ?_
        rotate_left
        · intro w' hSw; go_simp; with_reducible rfl
        try simp only [Act.put, List.getElem_toArray, List.getElem_cons_zero, List.getElem_cons_succ, List.setIfInBounds_toArray, List.set_cons_zero, List.set_cons_succ]
        refine wpAnyY_take (i := 6) (v := ?_) rfl (by kernel_rfl) (by kernel_rfl) (by kernel_rfl) (by kernel_rfl) (fun _ _ _ h => h) (Or.inl ⟨by kernel_rfl, ?_⟩) hS ?_
        rotate_left
        · intro w' hSw; have s0 := ((bcellB (gk2.t hSw)).1 gn _ hgn).trans n0; have s1 : gn < w'.heap.size := Nat.lt_of_lt_of_le hgn (gk2.t hSw).size; go_simp; with_reducible rfl
        try simp only [Act.put, List.getElem_toArray, List.getElem_cons_zero, List.getElem_cons_succ, List.setIfInBounds_toArray, List.set_cons_zero, List.set_cons_succ]
        apply joinL67 (C := fun GX W => wk.heap.size ≤ GX ∧ Blk W GX 60 #[.int .i64 0, .int .i64 0, .int .i64 0, .int .i64 0, .slice none 0 0] ∧ G wk W)
        rotate_left
        · intro HJ
          refine wpAnyY_twoSW (i := 7) (j := 10) (by kernel_rfl) rfl rfl (by kernel_rfl) (by kernel_rfl) (fun K7 hK7 => ?_) (fun K10 hK10 => ?_)
          · go_simp
            refine (HRI2.out _ (gk.t gd)).mono ?_
            rintro e w3 ⟨rfl, hG3⟩
            replace gd := gd.t hG3
            refine hK7.out _ _ gd (fun hS => ?_)
            clear hK7
            try simp only [Act.put, List.getElem_toArray, List.getElem_cons_zero, List.getElem_cons_succ, List.setIfInBounds_toArray, List.set_cons_zero, List.set_cons_succ]
            refine wpAnyY_take (i := 8) (v := ?_) rfl (by kernel_rfl) (by kernel_rfl) (by kernel_rfl) (by kernel_rfl) (fun _ _ _ h => h) (Or.inl ⟨by kernel_rfl, ?_⟩) hS ?_
            rotate_left
            · intro w' hSw; go_simp; with_reducible rfl
            try simp only [Act.put, List.getElem_toArray, List.getElem_cons_zero, List.getElem_cons_succ, List.setIfInBounds_toArray, List.set_cons_zero, List.set_cons_succ]
            refine wpAnyY_take (i := 9) (v := ?_) rfl (by kernel_rfl) (by kernel_rfl) (by kernel_rfl) (by kernel_rfl) (fun _ _ _ h => h) (Or.inl ⟨by kernel_rfl, ?_⟩) hS ?_
            rotate_left
            · intro w' hSw; have e := fun q => (bcellB (gk.t hSw)).1 gr q hgr; have s0 := (e _).trans q0; have s1 := (e _).trans q1; have s2 := (e _).trans q2; have s3 := (e _).trans q3; have s4 := (e _).trans q4; have s6 : gr < w'.heap.size := Nat.lt_of_lt_of_le hgr (gk.t hSw).size; clear e; go_simp; with_reducible rfl
            try simp only [Act.put, List.getElem_toArray, List.getElem_cons_zero, List.getElem_cons_succ, List.setIfInBounds_toArray, List.set_cons_zero, List.set_cons_succ]
            refine wpAnyY_oneSW (i := 10) (by kernel_rfl) rfl (by kernel_rfl) (fun K10 hK10 => ?_)
            go_simp
            have gE := gd.a (.cells #[.int .i64 0, .int .i64 0, .int .i64 0, .int .i64 0, .slice none 0 0] 60)
            refine hK10.out _ _ gE (fun hS => ?_)
            clear hK10
            try simp only [Act.put, List.getElem_toArray, List.getElem_cons_zero, List.getElem_cons_succ, List.setIfInBounds_toArray, List.set_cons_zero, List.set_cons_succ]
            have bX := Blk.new w3 60 #[.int .i64 0, .int .i64 0, .int .i64 0, .int .i64 0, .slice none 0 0]
            have lX := gd.size
            obtain ⟨GX, hGX⟩ : ∃ GX, GX = w3.heap.size := ⟨_, rfl⟩
            rw [← hGX] at bX lX ⊢
            clear hGX
            generalize w3.alloc (.cells #[.int .i64 0, .int .i64 0, .int .i64 0, .int .i64 0, .slice none 0 0] 60) = WE at *
            exact HJ GX WE ⟨lX, bX, gE⟩
          · go_simp
            have gE := gd.a (.cells #[.int .i64 0, .int .i64 0, .int .i64 0, .int .i64 0, .slice none 0 0] 60)
            refine hK10.out _ _ gE (fun hS => ?_)
            clear hK10
            try simp only [Act.put, List.getElem_toArray, List.getElem_cons_zero, List.getElem_cons_succ, List.setIfInBounds_toArray, List.set_cons_zero, List.set_cons_succ]
            have bX := Blk.new WD 60 #[.int .i64 0, .int .i64 0, .int .i64 0, .int .i64 0, .slice none 0 0]
            have lX := gd.size
            obtain ⟨GX, hGX⟩ : ∃ GX, GX = WD.heap.size := ⟨_, rfl⟩
            rw [← hGX] at bX lX ⊢
            clear hGX
            generalize WD.alloc (.cells #[.int .i64 0, .int .i64 0, .int .i64 0, .int .i64 0, .slice none 0 0] 60) = WE at *
            refine wpAnyY_oneSW (i := 7) (by kernel_rfl) rfl (by kernel_rfl) (fun K7 hK7 => ?_)
            go_simp
            refine (HRI2.out _ (gk.t gE)).mono ?_
            rintro e w3 ⟨rfl, hG3⟩
            replace gE := gE.t hG3
            refine hK7.out _ _ gE (fun hS => ?_)
            clear hK7
            try simp only [Act.put, List.getElem_toArray, List.getElem_cons_zero, List.getElem_cons_succ, List.setIfInBounds_toArray, List.set_cons_zero, List.set_cons_succ]
            refine wpAnyY_take (i := 8) (v := ?_) rfl (by kernel_rfl) (by kernel_rfl) (by kernel_rfl) (by kernel_rfl) (fun _ _ _ h => h) (Or.inl ⟨by kernel_rfl, ?_⟩) hS ?_
            rotate_left
            · intro w' hSw; go_simp; with_reducible rfl
            try simp only [Act.put, List.getElem_toArray, List.getElem_cons_zero, List.getElem_cons_succ, List.setIfInBounds_toArray, List.set_cons_zero, List.set_cons_succ]
            refine wpAnyY_take (i := 9) (v := ?_) rfl (by kernel_rfl) (by kernel_rfl) (by kernel_rfl) (by kernel_rfl) (fun _ _ _ h => h) (Or.inl ⟨by kernel_rfl, ?_⟩) hS ?_
            rotate_left
            · intro w' hSw; have e := fun q => (bcellB (gk.t hSw)).1 gr q hgr; have s0 := (e _).trans q0; have s1 := (e _).trans q1; have s2 := (e _).trans q2; have s3 := (e _).trans q3; have s4 := (e _).trans q4; have s6 : gr < w'.heap.size := Nat.lt_of_lt_of_le hgr (gk.t hSw).size; clear e; go_simp; with_reducible rfl
            try simp only [Act.put, List.getElem_toArray, List.getElem_cons_zero, List.getElem_cons_succ, List.setIfInBounds_toArray, List.set_cons_zero, List.set_cons_succ]
            exact HJ GX w3 ⟨lX, bX.keep hG3, gE⟩
        intro GX Wf hJ
        obtain ⟨hGX, bX, gz⟩ := hJ
        clear hS gd HRI2
        refine wpAnyY_oneW (i := 11) (by kernel_rfl) rfl (by kernel_rfl) (by kernel_rfl) (fun K11 hK11 => ?_)
        refine wp_store60 GX (.tmp 11) (.tmp 38) (OLD := #[.int .i64 0, .int .i64 0, .int .i64 0, .int .i64 0, .slice none 0 0]) (NEW := #[.int .i64 zbird, .int .i64 zowner, .int .i64 zrank, .int .i64 zday, .slice zpa zpools.length zpc]) ⟨_, _, _, _, _, _, _, rfl⟩ ⟨_, _, _, _, _, _, _, rfl⟩ rfl rfl rfl bX (fun WX bP hFX hGGX => ?_)
        refine hK11.out _ _ ?_
        clear hK11
        try simp only [Act.put, List.getElem_toArray, List.getElem_cons_zero, List.getElem_cons_succ, List.setIfInBounds_toArray, List.set_cons_zero, List.set_cons_succ]
        have gX : G wk WX := hGGX wk hGX gz
        clear hFX hGGX bX gz hGX
        refine wpAnyY_done (by kernel_rfl) ?_ _
        have m2 := bP.cell 2
        have m3 := bP.cell 3
        have lX := bP.lt
        have HBW : Hid (Blk WX w.heap.size 26 #[.slice r.ra r.racers.length r.rc, .slice r.pa r.pools.length r.pc, .slice r.ta r.protests.length r.tc]) := HB2.out.keep (gk2.t gX)
        have n1 : WX.cell? ⟨gn, ofn + k, none⟩ = some (.int .i64 zbird) := ((bcellB (gk2.t gX)).1 gn _ hgn).trans n0
        have ln : gn < WX.heap.size := Nat.lt_of_lt_of_le hgn (gk2.t gX).size
        have HTX := Lib.hid (own_G HT.out gX)
        have HGX := Lib.hid (HGT.out.t gX)
        rw [← HTK.out] at HTS HTL
        clear q0 q1 q2 q3 q4 n0 bP HT HGT HTK gk2
        by_cases a1 : zday = (dd : Int)
        rotate_left
        · have b1 : (zday == (dd : Int)) = false := by simpa using a1
          have HTE : Hid (tieK first rs ((dd : Int), (tt : Int)) (k + 1) = TK) := by
            show _ = _
            rw [HTS.out, if_neg]
            unfold tieP
            simp [a1]
          clear HTS
          go_wp2_with fail
          go_roundw
          case rel => exact ⟨k + 1, TK, by omega, by go_num, HTE.out.symm, HTX.out, HGX.out⟩
          case measure => simp [intOf] <;> omega
        by_cases a2 : zrank = (tt : Int)
        rotate_left
        · have b1 : (zday == (dd : Int)) = true := by simpa using a1
          have b2 : (zrank == (tt : Int)) = false := by simpa using a2
          have HTE : Hid (tieK first rs ((dd : Int), (tt : Int)) (k + 1) = TK) := by
            show _ = _
            rw [HTS.out, if_neg]
            unfold tieP
            simp [a2]
          clear HTS a1
          go_wp2_with fail
          go_roundw
          case rel => exact ⟨k + 1, TK, by omega, by go_num, HTE.out.symm, HTX.out, HGX.out⟩
          case measure => simp [intOf] <;> omega
        have b1 : (zday == (dd : Int)) = true := by simpa using a1
        have b2 : (zrank == (tt : Int)) = true := by simpa using a2
        by_cases a3 : d = 0
        · have e1 : dd = 1 := by omega
          have b3 : ((dd : Int) == 1) = true := by rw [e1]; rfl
          have HTE : Hid (tieK first rs ((dd : Int), (tt : Int)) (k + 1) = TK ++ [zbird]) := by
            show _ = _
            rw [HTS.out, if_pos]
            unfold tieP
            simp [a1, a2, e1]
          clear HTS a1 a2 e1
          have HOA := Lib.hid (own_G HTX.out ((G.rf WX).a (.cells #[.int .i64 zbird] 3)))
          go_wp2_with (at_builtin; refine wpList_append_own _ rfl _ _ 24 rfl wt.heap.size 3 i0 (.int .i64 0) 1 8 Tryz.underlying24 hi0 hz0 hz1 hz2 rfl (by decide) _ TK.length (iv TK) rfl HOA.out ⟨WX.heap.size, 0, none⟩ 1 1 [.int .i64 zbird] rfl rfl (cell_one_new _ _ _) (by simp [Value.oneCell']) (by unfold maxLen; omega) (by omega) (by have h1 := HGX.out.size; simp only [World.alloc, Array.size_push]; omega) ?_; intro v9 w9 hown9 hg9 hnil9)
          have HG9 := Lib.hid (grow_own (HGX.out.a (.cells #[.int .i64 zbird] 3)) HOA.out (Nat.le_refl _) hg9)
          have HN9 := Lib.hid hown9
          clear hown9 hg9 HOA
          go_wp2_with fail
          go_roundw
          case rel => exact ⟨k + 1, TK ++ [zbird], by omega, by go_num, HTE.out.symm, by rw [List.length_append, iv_snoc]; exact HN9.out, HG9.out⟩
          case measure => simp [intOf] <;> omega
        · have e1 : dd = 2 := by omega
          have b3 : ((dd : Int) == 1) = false := by rw [e1]; rfl
          have m1 := HBW.out.cell 1
          rw [HPE.out] at m1
          have lb := HBW.out.lt
          have p5 : WX.cell? ⟨gp, op + p * 6 + 5, none⟩ = some (.bool first) := ((bcellB (gk.t gX)).1 gp _ hgp).trans HPF.out
          have lp : gp < WX.heap.size := Nat.lt_of_lt_of_le hgp (gk.t gX).size
          cases first
          · have HTE : Hid (tieK false rs ((dd : Int), (tt : Int)) (k + 1) = TK ++ [zbird]) := by
              show _ = _
              rw [HTS.out, if_pos]
              unfold tieP
              simp [a1, a2, e1]
            clear HTS a1 a2 e1
            have HOA := Lib.hid (own_G HTX.out ((G.rf WX).a (.cells #[.int .i64 zbird] 3)))
            go_wp2_with (at_builtin; refine wpList_append_own _ rfl _ _ 24 rfl wt.heap.size 3 i0 (.int .i64 0) 1 8 Tryz.underlying24 hi0 hz0 hz1 hz2 rfl (by decide) _ TK.length (iv TK) rfl HOA.out ⟨WX.heap.size, 0, none⟩ 1 1 [.int .i64 zbird] rfl rfl (cell_one_new _ _ _) (by simp [Value.oneCell']) (by unfold maxLen; omega) (by omega) (by have h1 := HGX.out.size; simp only [World.alloc, Array.size_push]; omega) ?_; intro v9 w9 hown9 hg9 hnil9)
            have HG9 := Lib.hid (grow_own (HGX.out.a (.cells #[.int .i64 zbird] 3)) HOA.out (Nat.le_refl _) hg9)
            have HN9 := Lib.hid hown9
            clear hown9 hg9 HOA
            go_wp2_with fail
            go_roundw
            case rel => exact ⟨k + 1, TK ++ [zbird], by omega, by go_num, HTE.out.symm, by rw [List.length_append, iv_snoc]; exact HN9.out, HG9.out⟩
            case measure => simp [intOf] <;> omega
          · have HTE : Hid (tieK true rs ((dd : Int), (tt : Int)) (k + 1) = TK) := by
              show _ = _
              rw [HTS.out, if_neg]
              unfold tieP
              simp [e1]
            clear HTS a1 a2 e1
            go_wp2_with fail
            go_roundw
            case rel => exact ⟨k + 1, TK, by omega, by go_num, HTE.out.symm, HTX.out, HGX.out⟩
            case measure => simp [intOf] <;> omega
end Go.Proofs.YtnkmcoljijmgpaaGreat

set_option linter.unusedSimpArgs false
set_option linter.unusedVariables false
namespace Go.Proofs.YtnkmcoljijmgpaaGreat
open Go.RowKit Go.Shelf Go.Sort Go.Maps
attribute [local go_sem] Oper.semAt_some
theorem res64 (tmps : Array Value) (w : World) (g : Nat) (a b c d : Int) (h : tmps.getD 4 undef = .pointer (some ⟨g, 0, none⟩)) (hB : Blk w g 33 #[.int .i64 a, .int .i64 b, .int .i64 c, .int .i64 d]) :
    (results Tryz.f64 tmps).run Tryz.prog w = .ok (.agg #[.int .i64 a, .int .i64 b, .int .i64 c, .int .i64 d]) w := by
  have c0 := hB.cell 0
  have c1 := hB.cell 1
  have c2 := hB.cell 2
  have c3 := hB.cell 3
  clear hB
  have hr : Tryz.f64.results = #[.cell 4 33] := rfl
  have h' : tmps[4]?.getD undef = .pointer (some ⟨g, 0, none⟩) := by simpa using h
  simp only [results, hr]
  go_simp
theorem pool_bd {x : Po} (h : poolB x = true) : 0 ≤ x.stake ∧ x.stake ≤ 100000 ∧ 0 ≤ x.cut ∧ x.cut ≤ 1000 := by
  unfold poolB isInB at h
  simp only [Bool.and_eq_true, decide_eq_true_eq] at h
  omega
set_option maxRecDepth 100000 in
set_option maxHeartbeats 8000000 in
theorem pot64_any (r : Ra) (j : Nat) (w : World) (h : r.At w) (hr : raceB r = true) (hj : j < r.pools.length) : Calls Tryz.prog 64 #[.agg r.v, .int .i64 (j : Nat)] w fun e w' => e = .returned (.agg #[.int .i64 (totI (fuOf r j none 0)), .int .i64 (kepI (fuOf r j none 0)), .int .i64 (lefI (fuOf r j none 0)), .int .i64 0]) ∧ G w w' := by
  have hrv : r.v = #[.slice r.ra r.racers.length r.rc, .slice r.pa r.pools.length r.pc, .slice r.ta r.protests.length r.tc] := rfl
  have h12 := (uniq_of (race_parts hr)).1
  have hrl := runners_len r j
  have hnl : (namedL r j).length = (runners r j).length := by unfold namedL; rw [List.length_map]
  have HNA := Lib.hid (fun (W : World) (hW : G w W) => naQ0 r j (runners r j).length W (h.keep hW) hnl)
  have hmp : r.pools.getD j default ∈ r.pools := by
    rw [List.getD_eq_getElem?_getD, List.getElem?_eq_getElem hj]
    exact List.getElem_mem hj
  have hpb := pool_bd (((race_iff r).1 hr).2.1 _ hmp)
  have hT : totI (fuOf r j none 0) = (r.pools.getD j default).stake * (runners r j).length := rfl
  have hK : kepI (fuOf r j none 0) = totI (fuOf r j none 0) * (r.pools.getD j default).cut / 1000 := rfl
  have hL : lefI (fuOf r j none 0) = totI (fuOf r j none 0) - kepI (fuOf r j none 0) := rfl
  obtain ⟨T, hT0⟩ : ∃ T, T = totI (fuOf r j none 0) := ⟨_, rfl⟩
  obtain ⟨C, hC0⟩ : ∃ C, C = kepI (fuOf r j none 0) := ⟨_, rfl⟩
  obtain ⟨L, hL0⟩ : ∃ L, L = lefI (fuOf r j none 0) := ⟨_, rfl⟩
  rw [← hT0] at hT
  rw [← hT0, ← hC0] at hK
  rw [← hT0, ← hC0, ← hL0] at hL
  rw [← hT0, ← hC0, ← hL0]
  rcases h.ps.row with hx | ⟨gp, op, hpe, hgp, hcell⟩
  · omega
  have hcl := hcell j hj
  obtain ⟨⟨xs, xc, xk, xa, xd, xt, xq, xf⟩, hX⟩ : ∃ X, X = r.pools.getD j default := ⟨_, rfl⟩
  rw [← hX] at hpb hT hK hcl
  dsimp only at hpb hT hK
  unfold Po.v at hcl
  obtain ⟨n, hn⟩ : ∃ n, n = (runners r j).length := ⟨_, rfl⟩
  rw [← hn] at HNA hT hrl
  have hn12 : n ≤ 12 := by omega
  have hTb : 0 ≤ T ∧ T ≤ 1200000 := by
    rw [hT]
    refine ⟨Int.mul_nonneg hpb.1 (by omega), ?_⟩
    have h1 : xs * (n : Int) ≤ 100000 * n := Int.mul_le_mul_of_nonneg_right hpb.2.1 (by omega)
    omega
  have hTC : 0 ≤ T * xc ∧ T * xc ≤ 1200000000 := by
    refine ⟨Int.mul_nonneg hTb.1 hpb.2.2.1, ?_⟩
    have h1 : T * xc ≤ T * 1000 := Int.mul_le_mul_of_nonneg_left hpb.2.2.2 hTb.1
    omega
  have hw1 : IntKind.i64.wrap (xs * (n : Int)) = T := by rw [← hT]; exact IntWalk.i64_in _ (by omega)
  have hw2 : IntKind.i64.wrap (T * xc) = T * xc := IntWalk.i64_in _ (by omega)
  have hd : (T * xc).tdiv 1000 = C := by rw [hK]; exact Int.tdiv_eq_ediv_of_nonneg hTC.1
  have hCb : 0 ≤ C ∧ C ≤ 1200000 := by rw [hK]; omega
  have hw3 : IntKind.i64.wrap C = C := IntWalk.i64_in _ (by omega)
  have hw4 : IntKind.i64.wrap (T - C) = L := by rw [hL]; exact IntWalk.i64_in _ (by omega)
  rw [hrv]
  have q0 : w.cell? ⟨gp, op + j * 6, none⟩ = some (.int .i64 xs) := hcl 0 (by omega)
  have q1 : w.cell? ⟨gp, op + j * 6 + 1, none⟩ = some (.int .i64 xc) := hcl 1 (by omega)
  have q2 : w.cell? ⟨gp, op + j * 6 + 2, none⟩ = some (.int .i64 xk) := hcl 2 (by omega)
  have q3 : w.cell? ⟨gp, op + j * 6 + 3, none⟩ = some (.slice xa xt.length xd) := hcl 3 (by omega)
  have q4 : w.cell? ⟨gp, op + j * 6 + 4, none⟩ = some (.int .i64 xq) := hcl 4 (by omega)
  have q5 : w.cell? ⟨gp, op + j * 6 + 5, none⟩ = some (.bool xf) := hcl 5 (by omega)
  obtain ⟨xn, hxn⟩ : ∃ xn, xn = xt.length := ⟨_, rfl⟩
  rw [← hxn] at q3
  have HW1 := Lib.hid hw1
  have hji : (j : Int) < r.pools.length := by omega
  obtain ⟨W1, hW1⟩ : ∃ W1, W1 = (w.alloc (.cells #[.slice r.ra r.racers.length r.rc, .slice r.pa r.pools.length r.pc, .slice r.ta r.protests.length r.tc] 26)).alloc (.cells #[.int .i64 0, .int .i64 0, .int .i64 0, .int .i64 0] 33) := ⟨_, rfl⟩
  have g1 : G w W1 := by rw [hW1]; exact ((G.rf _).a _).a _
  have b0 : Blk W1 w.heap.size 26 #[.slice r.ra r.racers.length r.rc, .slice r.pa r.pools.length r.pc, .slice r.ta r.protests.length r.tc] := by rw [hW1]; exact (Blk.new _ _ _).alloc _
  have b1 : Blk W1 (w.heap.size + 1) 33 #[.int .i64 0, .int .i64 0, .int .i64 0, .int .i64 0] := by rw [hW1]; exact Blk.new1 _ _ _ _
  have hs1 : W1.heap.size = w.heap.size + 1 + 1 := by rw [hW1, World.size_alloc, World.size_alloc]
  have HPE := Lib.hid hpe
  clear hT0 hC0 hL0 hpe h hr hmp hX hn hxn hcl hcell hT hK hL hrv hnl hTC hrl
  go_enter Tryz.func64, Tryz.ntmps64
  go_upto_region 1 with fail
  change Code.wp _ _ _ _ ((w.alloc (.cells #[.slice r.ra r.racers.length r.rc, .slice r.pa r.pools.length r.pc, .slice r.ta r.protests.length r.tc] 26)).alloc (.cells #[.int .i64 0, .int .i64 0, .int .i64 0, .int .i64 0] 33))
  rw [← hW1]
  clear hW1
  have e := fun q => (bcellB g1).1 gp q hgp
  rw [← e] at q0 q1 q2 q3 q4 q5
  have lgp : gp < W1.heap.size := Nat.lt_of_lt_of_le hgp g1.size
  have m1 := b0.cell 1
  rw [HPE.out] at m1
  have m1' : W1.cell? ⟨w.heap.size, 1, none⟩ = some (.slice (some ⟨gp, op, none⟩) r.pools.length r.pc) := m1
  have l0 := b0.lt
  clear e m1
  go_upto_region 2 with fail
  obtain ⟨W2, hW2⟩ : ∃ W2, W2 = W1.alloc (.cells #[.int .i64 xs, .int .i64 xc, .int .i64 xk, .slice xa xn xd, .int .i64 xq, .bool xf] 42) := ⟨_, rfl⟩
  have g2 : G w W2 := by rw [hW2]; exact g1.a _
  have HB0 : Hid (Blk W2 w.heap.size 26 #[.slice r.ra r.racers.length r.rc, .slice r.pa r.pools.length r.pc, .slice r.ta r.protests.length r.tc]) := by rw [hW2]; exact b0.alloc _
  have HB1 : Hid (Blk W2 (w.heap.size + 1) 33 #[.int .i64 0, .int .i64 0, .int .i64 0, .int .i64 0]) := by rw [hW2]; exact b1.alloc _
  have HBP : Hid (Blk W2 (w.heap.size + 1 + 1) 42 #[.int .i64 xs, .int .i64 xc, .int .i64 xk, .slice xa xn xd, .int .i64 xq, .bool xf]) := by
    rw [hW2, ← hs1]
    exact Blk.new _ _ _
  have hs2 : w.heap.size + 1 + 1 < W2.heap.size := HBP.out.lt
  try rw [hs1]
  rw [← hW2]
  clear hW2 q0 q1 q2 q3 q4 q5 lgp m1' l0 b0 b1 hs1 g1
  refine wp_region_Y (S := fun W' => G W2 W') 9 10 rfl (by kernel_rfl) (G.rf _).d (fun hS => ?_)
  have gd : G W2 W2.drew := (G.rf _).d
  refine wpAnyY_take (i := 0) (v := ?_) rfl (by kernel_rfl) (by kernel_rfl) (by kernel_rfl) (by kernel_rfl) (fun _ _ _ h => h) (Or.inl ⟨by kernel_rfl, ?_⟩) hS ?_
  rotate_left
  · intro w' hSw; go_simp; with_reducible rfl
  try simp only [Act.put, List.getElem_toArray, List.getElem_cons_zero, List.getElem_cons_succ, List.setIfInBounds_toArray, List.set_cons_zero, List.set_cons_succ]
  refine wpAnyY_take (i := 1) (v := ?_) rfl (by kernel_rfl) (by kernel_rfl) (by kernel_rfl) (by kernel_rfl) (fun _ _ _ h => h) (Or.inl ⟨by kernel_rfl, ?_⟩) hS ?_
  rotate_left
  · intro w' hSw; have s0 := (HBP.out.keep hSw).cell 0; have s1 := (HBP.out.keep hSw).lt; go_simp; with_reducible rfl
  try simp only [Act.put, List.getElem_toArray, List.getElem_cons_zero, List.getElem_cons_succ, List.setIfInBounds_toArray, List.set_cons_zero, List.set_cons_succ]
  refine wpAnyY_take (i := 2) (v := ?_) rfl (by kernel_rfl) (by kernel_rfl) (by kernel_rfl) (by kernel_rfl) (fun _ _ _ h => h) (Or.inl ⟨by kernel_rfl, ?_⟩) hS ?_
  rotate_left
  · intro w' hSw; have s0 := (HB0.out.keep hSw).cell 0; have s1 := (HB0.out.keep hSw).cell 1; have s2 := (HB0.out.keep hSw).cell 2; have s3 := (HB0.out.keep hSw).lt; go_simp; with_reducible rfl
  try simp only [Act.put, List.getElem_toArray, List.getElem_cons_zero, List.getElem_cons_succ, List.setIfInBounds_toArray, List.set_cons_zero, List.set_cons_succ]
  refine wpAnyY_take (i := 3) (v := ?_) rfl (by kernel_rfl) (by kernel_rfl) (by kernel_rfl) (by kernel_rfl) (fun _ _ _ h => h) (Or.inl ⟨by kernel_rfl, ?_⟩) hS ?_
  rotate_left
  · intro w' hSw; go_simp; with_reducible rfl
  try simp only [Act.put, List.getElem_toArray, List.getElem_cons_zero, List.getElem_cons_succ, List.setIfInBounds_toArray, List.set_cons_zero, List.set_cons_succ]
  refine wpAnyY_twoSW (i := 4) (j := 8) (by kernel_rfl) rfl rfl (by kernel_rfl) (by kernel_rfl) (fun K4 hK4 => ?_) (fun K8 hK8 => ?_)
  · go_simp
    refine (HNA.out _ (g2.t gd)).mono ?_
    rintro e w3 ⟨hG3, na, nc, rfl, hni⟩
    refine hK4.out _ _ (gd.t hG3) (fun hS => ?_)
    clear hK4 hni
    try simp only [Act.put, List.getElem_toArray, List.getElem_cons_zero, List.getElem_cons_succ, List.setIfInBounds_toArray, List.set_cons_zero, List.set_cons_succ]
    refine wpAnyY_take (i := 5) (v := ?_) rfl (by kernel_rfl) (by kernel_rfl) (by kernel_rfl) (by kernel_rfl) (fun _ _ _ h => h) (Or.inl ⟨by kernel_rfl, ?_⟩) hS ?_
    rotate_left
    · intro w' hSw; go_simp; with_reducible rfl
    try simp only [Act.put, List.getElem_toArray, List.getElem_cons_zero, List.getElem_cons_succ, List.setIfInBounds_toArray, List.set_cons_zero, List.set_cons_succ]
    refine wpAnyY_take (i := 6) (v := ?_) rfl (by kernel_rfl) (by kernel_rfl) (by kernel_rfl) (by kernel_rfl) (fun _ _ _ h => h) (Or.inl ⟨by kernel_rfl, ?_⟩) hS ?_
    rotate_left
    · intro w' hSw; go_simp; with_reducible rfl
    try simp only [Act.put, List.getElem_toArray, List.getElem_cons_zero, List.getElem_cons_succ, List.setIfInBounds_toArray, List.set_cons_zero, List.set_cons_succ]
    refine wpAnyY_take (i := 7) (v := ?_) rfl (by kernel_rfl) (by kernel_rfl) (by kernel_rfl) (by kernel_rfl) (fun _ _ _ h => h) (Or.inl ⟨by kernel_rfl, ?_⟩) hS ?_
    rotate_left
    · intro w' hSw; go_simp; with_reducible rfl
    try simp only [Act.put, List.getElem_toArray, List.getElem_cons_zero, List.getElem_cons_succ, List.setIfInBounds_toArray, List.set_cons_zero, List.set_cons_succ]
    refine wpAnyY_oneSW (i := 8) (by kernel_rfl) rfl (by kernel_rfl) (fun K8 hK8 => ?_)
    go_simp
    refine hK8.out _ _ ((gd.t hG3).a _) (fun hS => ?_)
    clear hK8
    try simp only [Act.put, List.getElem_toArray, List.getElem_cons_zero, List.getElem_cons_succ, List.setIfInBounds_toArray, List.set_cons_zero, List.set_cons_succ]
    have bX := Blk.new w3 33 #[.int .i64 0, .int .i64 0, .int .i64 0, .int .i64 0]
    have c0 := bX.cell 0
    have c1 := bX.cell 1
    have c2 := bX.cell 2
    have c3 := bX.cell 3
    have z0 := bX.frozen 0
    have z1 := bX.frozen 1
    have z2 := bX.frozen 2
    have z3 := bX.frozen 3
    have lX := bX.lt
    refine wpAnyY_oneW (i := 9) (by kernel_rfl) rfl (by kernel_rfl) (by kernel_rfl) (fun K9 hK9 => ?_)
    go_simp
    refine hK9.out _ _ ?_
    clear hK9
    try simp only [Act.put, List.getElem_toArray, List.getElem_cons_zero, List.getElem_cons_succ, List.setIfInBounds_toArray, List.set_cons_zero, List.set_cons_succ]
    refine wpAnyY_done (by kernel_rfl) ?_ _
    clear hS c0 c1 c2 c3 z0 z1 z2 z3 lX
    have bY := Blk.new w3 33 #[.int .i64 T, .int .i64 0, .int .i64 0, .int .i64 0]
    have gX := (gd.t hG3).a (.cells #[.int .i64 T, .int .i64 0, .int .i64 0, .int .i64 0] 33)
    have hge := (gd.t hG3).size
    obtain ⟨GX, hGX⟩ : ∃ GX, GX = w3.heap.size := ⟨_, rfl⟩
    rw [← hGX] at bY hge ⊢
    clear hGX bX
    have bP := HBP.out.keep gX
    have b1 := HB1.out.keep gX
    have gw := g2.t gX
    generalize (w3.alloc (.cells #[.int .i64 T, .int .i64 0, .int .i64 0, .int .i64 0] 33)) = WX at *
    have x0 := bY.cell 0
    have x1 := bY.cell 1
    have y1 := bY.frozen 1
    have lx := bY.lt
    have p1 := bP.cell 1
    have lp := bP.lt
    go_upto_region 4 with fail
    clear x0 x1 y1 lx p1 lp
    have bY2 := bY.set_ 1 (.int .i64 C)
    simp only [List.setIfInBounds_toArray, List.set_cons_zero, List.set_cons_succ] at bY2
    have f2 : Fr (fun i => i = GX) WX (WX.setCell ⟨GX, 1, none⟩ (.int .i64 C)) := (Fr.rf (fun i => i = GX) WX).s (p := ⟨GX, 1, none⟩) (.inl rfl) _
    generalize WX.setCell ⟨GX, 1, none⟩ (.int .i64 C) = WY at *
    have x0 := bY2.cell 0
    have x1 := bY2.cell 1
    have x2 := bY2.cell 2
    have y2 := bY2.frozen 2
    have lx := bY2.lt
    go_upto_region 5 with fail
    clear x0 x1 x2 y2 lx
    have bY3 := bY2.set_ 2 (.int .i64 L)
    simp only [List.setIfInBounds_toArray, List.set_cons_zero, List.set_cons_succ] at bY3
    have f3 := f2.s (p := ⟨GX, 2, none⟩) (.inl rfl) (.int .i64 L)
    generalize WY.setCell ⟨GX, 2, none⟩ (.int .i64 L) = WZ at *
    have b3 := f3.blk b1 (by omega)
    have x0 := bY3.cell 0
    have x1 := bY3.cell 1
    have x2 := bY3.cell 2
    have x3 := bY3.cell 3
    have lx := bY3.lt
    have c0 := b3.cell 0
    have c1 := b3.cell 1
    have c2 := b3.cell 2
    have c3 := b3.cell 3
    have z0 := b3.frozen 0
    have z1 := b3.frozen 1
    have z2 := b3.frozen 2
    have z3 := b3.frozen 3
    have lz := b3.lt
    have gz : G w WZ := ((G.fr (R := fun _ => False) gw).t2 f3 (fun i hi e => by omega)).toG (fun _ _ h => h)
    clear bY bY2 b1 bP f2 f3 gw
    go_wp2_with fail
    have bE := (((b3.set_ 0 (.int .i64 T)).set_ 1 (.int .i64 C)).set_ 2 (.int .i64 L)).set_ 3 (.int .i64 0)
    simp only [List.setIfInBounds_toArray, List.set_cons_zero, List.set_cons_succ] at bE
    refine bodyPost_ret (res64 _ _ (w.heap.size + 1) _ _ _ _ rfl bE) rfl ?_
    exact ⟨rfl, (((gz.s (p := ⟨w.heap.size + 1, 0, none⟩) (Nat.le_succ _) _).s (p := ⟨w.heap.size + 1, 1, none⟩) (Nat.le_succ _) _).s (p := ⟨w.heap.size + 1, 2, none⟩) (Nat.le_succ _) _).s (p := ⟨w.heap.size + 1, 3, none⟩) (Nat.le_succ _) _⟩
  · go_simp
    refine hK8.out _ _ (gd.a _) (fun hS => ?_)
    clear hK8
    try simp only [Act.put, List.getElem_toArray, List.getElem_cons_zero, List.getElem_cons_succ, List.setIfInBounds_toArray, List.set_cons_zero, List.set_cons_succ]
    refine wpAnyY_oneSW (i := 4) (by kernel_rfl) rfl (by kernel_rfl) (fun K4 hK4 => ?_)
    go_simp
    refine (HNA.out _ (g2.t (gd.a _))).mono ?_
    rintro e w3 ⟨hG3, na, nc, rfl, hni⟩
    refine hK4.out _ _ ((gd.a _).t hG3) (fun hS => ?_)
    clear hK4 hni
    try simp only [Act.put, List.getElem_toArray, List.getElem_cons_zero, List.getElem_cons_succ, List.setIfInBounds_toArray, List.set_cons_zero, List.set_cons_succ]
    refine wpAnyY_take (i := 5) (v := ?_) rfl (by kernel_rfl) (by kernel_rfl) (by kernel_rfl) (by kernel_rfl) (fun _ _ _ h => h) (Or.inl ⟨by kernel_rfl, ?_⟩) hS ?_
    rotate_left
    · intro w' hSw; go_simp; with_reducible rfl
    try simp only [Act.put, List.getElem_toArray, List.getElem_cons_zero, List.getElem_cons_succ, List.setIfInBounds_toArray, List.set_cons_zero, List.set_cons_succ]
    refine wpAnyY_take (i := 6) (v := ?_) rfl (by kernel_rfl) (by kernel_rfl) (by kernel_rfl) (by kernel_rfl) (fun _ _ _ h => h) (Or.inl ⟨by kernel_rfl, ?_⟩) hS ?_
    rotate_left
    · intro w' hSw; go_simp; with_reducible rfl
    try simp only [Act.put, List.getElem_toArray, List.getElem_cons_zero, List.getElem_cons_succ, List.setIfInBounds_toArray, List.set_cons_zero, List.set_cons_succ]
    refine wpAnyY_take (i := 7) (v := ?_) rfl (by kernel_rfl) (by kernel_rfl) (by kernel_rfl) (by kernel_rfl) (fun _ _ _ h => h) (Or.inl ⟨by kernel_rfl, ?_⟩) hS ?_
    rotate_left
    · intro w' hSw; go_simp; with_reducible rfl
    try simp only [Act.put, List.getElem_toArray, List.getElem_cons_zero, List.getElem_cons_succ, List.setIfInBounds_toArray, List.set_cons_zero, List.set_cons_succ]
    have bX : Blk w3 W2.heap.size 33 #[.int .i64 0, .int .i64 0, .int .i64 0, .int .i64 0] := (Blk.new W2.drew 33 #[.int .i64 0, .int .i64 0, .int .i64 0, .int .i64 0]).keep hG3
    have c0 := bX.cell 0
    have c1 := bX.cell 1
    have c2 := bX.cell 2
    have c3 := bX.cell 3
    have z0 := bX.frozen 0
    have z1 := bX.frozen 1
    have z2 := bX.frozen 2
    have z3 := bX.frozen 3
    have lX := bX.lt
    refine wpAnyY_oneW (i := 9) (by kernel_rfl) rfl (by kernel_rfl) (by kernel_rfl) (fun K9 hK9 => ?_)
    go_simp
    refine hK9.out _ _ ?_
    clear hK9
    try simp only [Act.put, List.getElem_toArray, List.getElem_cons_zero, List.getElem_cons_succ, List.setIfInBounds_toArray, List.set_cons_zero, List.set_cons_succ]
    refine wpAnyY_done (by kernel_rfl) ?_ _
    clear hS c0 c1 c2 c3 z0 z1 z2 z3 lX
    have bY := (((bX.set_ 0 (.int .i64 T)).set_ 1 (.int .i64 0)).set_ 2 (.int .i64 0)).set_ 3 (.int .i64 0)
    simp only [List.setIfInBounds_toArray, List.set_cons_zero, List.set_cons_succ] at bY
    have gX := (((((gd.a (.cells #[.int .i64 0, .int .i64 0, .int .i64 0, .int .i64 0] 33)).t hG3).s (p := ⟨W2.heap.size, 0, none⟩) (Nat.le_refl _) (.int .i64 T)).s (p := ⟨W2.heap.size, 1, none⟩) (Nat.le_refl _) (.int .i64 0)).s (p := ⟨W2.heap.size, 2, none⟩) (Nat.le_refl _) (.int .i64 0)).s (p := ⟨W2.heap.size, 3, none⟩) (Nat.le_refl _) (.int .i64 0)
    have hge := Nat.le_refl W2.heap.size
    have bP := HBP.out.keep gX
    have b1 := HB1.out.keep gX
    have gw := g2.t gX
    generalize ((((w3.setCell ⟨W2.heap.size, 0, none⟩ (.int .i64 T)).setCell ⟨W2.heap.size, 1, none⟩ (.int .i64 0)).setCell ⟨W2.heap.size, 2, none⟩ (.int .i64 0)).setCell ⟨W2.heap.size, 3, none⟩ (.int .i64 0)) = WX at *
    have x0 := bY.cell 0
    have x1 := bY.cell 1
    have y1 := bY.frozen 1
    have lx := bY.lt
    have p1 := bP.cell 1
    have lp := bP.lt
    go_upto_region 4 with fail
    clear x0 x1 y1 lx p1 lp
    have bY2 := bY.set_ 1 (.int .i64 C)
    simp only [List.setIfInBounds_toArray, List.set_cons_zero, List.set_cons_succ] at bY2
    have f2 : Fr (fun i => i = W2.heap.size) WX (WX.setCell ⟨W2.heap.size, 1, none⟩ (.int .i64 C)) := (Fr.rf (fun i => i = W2.heap.size) WX).s (p := ⟨W2.heap.size, 1, none⟩) (.inl rfl) _
    generalize WX.setCell ⟨W2.heap.size, 1, none⟩ (.int .i64 C) = WY at *
    have x0 := bY2.cell 0
    have x1 := bY2.cell 1
    have x2 := bY2.cell 2
    have y2 := bY2.frozen 2
    have lx := bY2.lt
    go_upto_region 5 with fail
    clear x0 x1 x2 y2 lx
    have bY3 := bY2.set_ 2 (.int .i64 L)
    simp only [List.setIfInBounds_toArray, List.set_cons_zero, List.set_cons_succ] at bY3
    have f3 := f2.s (p := ⟨W2.heap.size, 2, none⟩) (.inl rfl) (.int .i64 L)
    generalize WY.setCell ⟨W2.heap.size, 2, none⟩ (.int .i64 L) = WZ at *
    have b3 := f3.blk b1 (by omega)
    have x0 := bY3.cell 0
    have x1 := bY3.cell 1
    have x2 := bY3.cell 2
    have x3 := bY3.cell 3
    have lx := bY3.lt
    have c0 := b3.cell 0
    have c1 := b3.cell 1
    have c2 := b3.cell 2
    have c3 := b3.cell 3
    have z0 := b3.frozen 0
    have z1 := b3.frozen 1
    have z2 := b3.frozen 2
    have z3 := b3.frozen 3
    have lz := b3.lt
    have gz : G w WZ := ((G.fr (R := fun _ => False) gw).t2 f3 (fun i hi e => by omega)).toG (fun _ _ h => h)
    clear bY bY2 b1 bP f2 f3 gw
    go_wp2_with fail
    have bE := (((b3.set_ 0 (.int .i64 T)).set_ 1 (.int .i64 C)).set_ 2 (.int .i64 L)).set_ 3 (.int .i64 0)
    simp only [List.setIfInBounds_toArray, List.set_cons_zero, List.set_cons_succ] at bE
    refine bodyPost_ret (res64 _ _ (w.heap.size + 1) _ _ _ _ rfl bE) rfl ?_
    exact ⟨rfl, (((gz.s (p := ⟨w.heap.size + 1, 0, none⟩) (Nat.le_succ _) _).s (p := ⟨w.heap.size + 1, 1, none⟩) (Nat.le_succ _) _).s (p := ⟨w.heap.size + 1, 2, none⟩) (Nat.le_succ _) _).s (p := ⟨w.heap.size + 1, 3, none⟩) (Nat.le_succ _) _⟩
end Go.Proofs.YtnkmcoljijmgpaaGreat

set_option linter.unusedSimpArgs false
set_option linter.unusedVariables false
namespace Go.Proofs.YtnkmcoljijmgpaaGreat
open Go.RowKit Go.Shelf Go.Sort Go.Maps
attribute [local go_sem] Oper.semAt_some
def IsPo (A : Array Value) : Prop := ∃ (x0 x1 x2 : Int) (x3 : Option Addr) (xl xc : Nat) (x4 : Int) (x5 : Bool), A = #[.int .i64 x0, .int .i64 x1, .int .i64 x2, .slice x3 xl xc, .int .i64 x4, .bool x5]
set_option maxRecDepth 100000 in
set_option maxHeartbeats 4000000 in
theorem store42 (W : World) (g : Nat) (d s : Operand) {OLD NEW : Array Value} (hO : IsPo OLD) (hR : IsPo NEW) (op : Oper) (ev : Operand → Value) (ho : op.op = .store 42 d s) (hv : ev d = .pointer (some ⟨g, 0, none⟩)) (hs : ev s = .agg NEW) (hB : Blk W g 42 OLD) :
    ∃ W2, (execOp ev op).run Tryz.prog W = .ok .skip W2 ∧ Blk W2 g 42 NEW ∧ (∀ b, b ≠ g → W2.heap[b]? = W.heap[b]?) ∧ ∀ w0 : World, w0.heap.size ≤ g → G w0 W → G w0 W2 := by
  obtain ⟨y0, y1, y2, y3, yl, yc, y4, y5, rfl⟩ := hO
  obtain ⟨x0, x1, x2, x3, xl, xc, x4, x5, rfl⟩ := hR
  have c0 : W.cell? ⟨g, 0, none⟩ = some (.int .i64 y0) := hB.cell 0
  have z0 := hB.frozen 0
  have c1 : W.cell? ⟨g, 1, none⟩ = some (.int .i64 y1) := hB.cell 1
  have z1 := hB.frozen 1
  have c2 : W.cell? ⟨g, 2, none⟩ = some (.int .i64 y2) := hB.cell 2
  have z2 := hB.frozen 2
  have c3 : W.cell? ⟨g, 3, none⟩ = some (.slice y3 yl yc) := hB.cell 3
  have z3 := hB.frozen 3
  have c4 : W.cell? ⟨g, 4, none⟩ = some (.int .i64 y4) := hB.cell 4
  have z4 := hB.frozen 4
  have c5 : W.cell? ⟨g, 5, none⟩ = some (.bool y5) := hB.cell 5
  have z5 := hB.frozen 5
  have lB := hB.lt
  refine ⟨((((((W).setCell ⟨g, 0, none⟩ (.int .i64 x0)).setCell ⟨g, 1, none⟩ (.int .i64 x1)).setCell ⟨g, 2, none⟩ (.int .i64 x2)).setCell ⟨g, 3, none⟩ (.slice x3 xl xc)).setCell ⟨g, 4, none⟩ (.int .i64 x4)).setCell ⟨g, 5, none⟩ (.bool x5), ?_, ?_, ?_, fun w0 hg hG => ((((((hG).s (p := ⟨g, 0, none⟩) hg (.int .i64 x0)).s (p := ⟨g, 1, none⟩) hg (.int .i64 x1)).s (p := ⟨g, 2, none⟩) hg (.int .i64 x2)).s (p := ⟨g, 3, none⟩) hg (.slice x3 xl xc)).s (p := ⟨g, 4, none⟩) hg (.int .i64 x4)).s (p := ⟨g, 5, none⟩) hg (.bool x5)⟩
  · clear hB
    unfold execOp
    simp only [ho, hv, hs]
    go_simp
  · have b := ((((((hB).set_ 0 (.int .i64 x0)).set_ 1 (.int .i64 x1)).set_ 2 (.int .i64 x2)).set_ 3 (.slice x3 xl xc)).set_ 4 (.int .i64 x4)).set_ 5 (.bool x5)
    simp only [List.setIfInBounds_toArray, List.set_cons_zero, List.set_cons_succ] at b
    exact b
  · exact far_trans (far_trans (far_trans (far_trans (far_trans (far_trans (fun _ _ => rfl) 0 (.int .i64 x0)) 1 (.int .i64 x1)) 2 (.int .i64 x2)) 3 (.slice x3 xl xc)) 4 (.int .i64 x4)) 5 (.bool x5)
theorem wp_store42 {o : Oper} {a : Act} {W : World} {K : Act → World → Prop} {Q : Exit → Act → World → Prop} (g : Nat) (d s : Operand) {OLD NEW : Array Value} (hO : IsPo OLD) (hR : IsPo NEW) (ho : o.op = .store 42 d s) (hv : a.eval d = .pointer (some ⟨g, 0, none⟩)) (hs : a.eval s = .agg NEW) (hB : Blk W g 42 OLD)
    (hk : ∀ W2, Blk W2 g 42 NEW → (∀ b, b ≠ g → W2.heap[b]? = W.heap[b]?) → (∀ w0 : World, w0.heap.size ≤ g → G w0 W → G w0 W2) → K (a.put o.dst undef) W2) : Oper.wp Tryz.prog o a W K Q := by
  obtain ⟨W2, h1, h2, h3, h4⟩ := store42 W g d s hO hR o a.eval ho hv hs hB
  unfold Oper.wp
  rw [h1]
  exact hk W2 h2 h3 h4
theorem field33 (a b c d : Int) (w : World) : (Instr.field 33 (.agg #[.int .i64 a, .int .i64 b, .int .i64 c, .int .i64 d]) 2).run Tryz.prog w = .ok (.int .i64 c) w := by
  kernel_rfl
attribute [local go_sem] field33
theorem joinL66 {M C : Nat → Option Addr → Nat → World → Prop} {P : Prop} (h : ∀ g a c W, C g a c W → M g a c W) (k : (∀ g a c W, C g a c W → M g a c W) → P) : P := k h
set_option maxRecDepth 100000 in
set_option maxHeartbeats 16000000 in
theorem places66_any (r : Ra) (j : Nat) (w : World) (h : r.At w) (hr : raceB r = true) (hj : j < r.pools.length) : Calls Tryz.prog 66 #[.agg r.v, .int .i64 (j : Nat)] w (IvPost w (placesL (fuOf r j none 0))) := by
  have hrv : r.v = #[.slice r.ra r.racers.length r.rc, .slice r.pa r.pools.length r.pc, .slice r.ta r.protests.length r.tc] := rfl
  have h12 := (uniq_of (race_parts hr)).1
  have hrl := runners_len r j
  have hnl : (namedL r j).length = (runners r j).length := by unfold namedL; rw [List.length_map]
  have HNA := Lib.hid (fun (W : World) (hW : G w W) => naQ0 r j (runners r j).length W (h.keep hW) hnl)
  have HPOT := Lib.hid (fun (W : World) (hW : G w W) => pot64_any r j W (h.keep hW) hr hj)
  have hin := inB_pool hj
  have hlb := left_bd (fu_bounds hr hin none 0)
  have hpo := (pool_of hr hin).2
  have hPA : poolAt r j = r.pools.getD j default := by unfold poolAt; rw [Int.toNat_natCast]
  have hPL : placesL (fuOf r j none 0) = (if (poolAt r j).kind = 1 then (poolAt r j).table.map (fun n => lefI (fuOf r j none 0) * n / 1000) else if (poolAt r j).kind = 2 then List.replicate ((((runners r j).length : Int) + (poolAt r j).quota - 1) / (poolAt r j).quota).toNat (lefI (fuOf r j none 0) / ((((runners r j).length : Int) + (poolAt r j).quota - 1) / (poolAt r j).quota)) else if (poolAt r j).kind = 3 then [lefI (fuOf r j none 0)] else []) := rfl
  have HPP : Hid (∀ w' v, w'.ownsRow w.heap.size 3 1 v (placesL (fuOf r j none 0)).length (iv (placesL (fuOf r j none 0))) → G w w' → IvPost w (placesL (fuOf r j none 0)) (.returned v) w') := fun w' v a b => ⟨v, rfl, a, b⟩
  generalize IvPost w (placesL (fuOf r j none 0)) = PP at *
  rw [hPL] at HPP
  rw [hPA] at HPP hpo
  have hta := h.ps.tables j hj
  obtain ⟨T, hT0⟩ : ∃ T, T = totI (fuOf r j none 0) := ⟨_, rfl⟩
  obtain ⟨C, hC0⟩ : ∃ C, C = kepI (fuOf r j none 0) := ⟨_, rfl⟩
  obtain ⟨L, hL0⟩ : ∃ L, L = lefI (fuOf r j none 0) := ⟨_, rfl⟩
  rw [← hT0, ← hC0, ← hL0] at HPOT
  rw [← hL0] at HPP hlb
  rcases h.ps.row with hx | ⟨gp, op, hpe, hgp, hcell⟩
  · omega
  have hcl := hcell j hj
  obtain ⟨⟨xs, xc, xk, xa, xd, xt, xq, xf⟩, hX⟩ : ∃ X, X = r.pools.getD j default := ⟨_, rfl⟩
  rw [← hX] at hcl HPP hpo hta
  dsimp only at HPP hta
  unfold Po.v at hcl
  unfold poolB at hpo
  simp only [Bool.and_eq_true] at hpo
  obtain ⟨_, _, hk⟩ := hpo
  unfold kindB at hk
  obtain ⟨n, hn⟩ : ∃ n, n = (runners r j).length := ⟨_, rfl⟩
  rw [← hn] at HNA HPP hrl
  have hn12 : n ≤ 12 := by omega
  rw [hrv]
  have q0 : w.cell? ⟨gp, op + j * 6, none⟩ = some (.int .i64 xs) := hcl 0 (by omega)
  have q1 : w.cell? ⟨gp, op + j * 6 + 1, none⟩ = some (.int .i64 xc) := hcl 1 (by omega)
  have q2 : w.cell? ⟨gp, op + j * 6 + 2, none⟩ = some (.int .i64 xk) := hcl 2 (by omega)
  have q3 : w.cell? ⟨gp, op + j * 6 + 3, none⟩ = some (.slice xa xt.length xd) := hcl 3 (by omega)
  have q4 : w.cell? ⟨gp, op + j * 6 + 4, none⟩ = some (.int .i64 xq) := hcl 4 (by omega)
  have q5 : w.cell? ⟨gp, op + j * 6 + 5, none⟩ = some (.bool xf) := hcl 5 (by omega)
  have hji : (j : Int) < r.pools.length := by omega
  have HPE := Lib.hid hpe
  obtain ⟨W1, hW1⟩ : ∃ W1, W1 = w.alloc (.cells #[.slice r.ra r.racers.length r.rc, .slice r.pa r.pools.length r.pc, .slice r.ta r.protests.length r.tc] 26) := ⟨_, rfl⟩
  have g1 : G w W1 := by rw [hW1]; exact (G.rf _).a _
  have B0 : Blk W1 w.heap.size 26 #[.slice r.ra r.racers.length r.rc, .slice r.pa r.pools.length r.pc, .slice r.ta r.protests.length r.tc] := by rw [hW1]; exact Blk.new _ _ _
  rw [hrv] at HPOT HNA
  clear hT0 hC0 hL0 hpe h hr hX hn hcl hcell hrv hnl hrl hPL hPA hin h12
  go_enter Tryz.func66, Tryz.ntmps66
  go_upto_region 1 with fail
  change Code.wp _ _ _ _ (w.alloc (.cells #[.slice r.ra r.racers.length r.rc, .slice r.pa r.pools.length r.pc, .slice r.ta r.protests.length r.tc] 26))
  rw [← hW1]
  clear hW1
  refine wp_region_Y (S := fun W' => G W1 W') 16 17 rfl (by kernel_rfl) (G.rf _).d (fun hS => ?_)
  have gd : G W1 W1.drew := (G.rf _).d
  generalize W1.drew = WD at *
  refine wpAnyY_take (i := 0) (v := ?_) rfl (by kernel_rfl) (by kernel_rfl) (by kernel_rfl) (by kernel_rfl) (fun _ _ _ h => h) (Or.inl ⟨by kernel_rfl, ?_⟩) hS ?_
  rotate_left
  · intro w' hSw; go_simp; with_reducible rfl
  try simp only [Act.put, List.getElem_toArray, List.getElem_cons_zero, List.getElem_cons_succ, List.setIfInBounds_toArray, List.set_cons_zero, List.set_cons_succ]
  refine wpAnyY_take (i := 1) (v := ?_) rfl (by kernel_rfl) (by kernel_rfl) (by kernel_rfl) (by kernel_rfl) (fun _ _ _ h => h) (Or.inl ⟨by kernel_rfl, ?_⟩) hS ?_
  rotate_left
  · intro w' hSw; have s1 := (B0.keep hSw).cell 1; rw [HPE.out] at s1; have s3 := (B0.keep hSw).lt; go_simp; with_reducible rfl
  try simp only [Act.put, List.getElem_toArray, List.getElem_cons_zero, List.getElem_cons_succ, List.setIfInBounds_toArray, List.set_cons_zero, List.set_cons_succ]
  refine wpAnyY_take (i := 2) (v := ?_) rfl (by kernel_rfl) (by kernel_rfl) (by kernel_rfl) (by kernel_rfl) (fun _ _ _ h => h) (Or.inl ⟨by kernel_rfl, ?_⟩) hS ?_
  rotate_left
  · intro w' hSw; go_simp; with_reducible rfl
  try simp only [Act.put, List.getElem_toArray, List.getElem_cons_zero, List.getElem_cons_succ, List.setIfInBounds_toArray, List.set_cons_zero, List.set_cons_succ]
  refine wpAnyY_take (i := 3) (v := ?_) rfl (by kernel_rfl) (by kernel_rfl) (by kernel_rfl) (by kernel_rfl) (fun _ _ _ h => h) (Or.inl ⟨by kernel_rfl, ?_⟩) hS ?_
  rotate_left
  · intro w' hSw; go_simp; with_reducible rfl
  try simp only [Act.put, List.getElem_toArray, List.getElem_cons_zero, List.getElem_cons_succ, List.setIfInBounds_toArray, List.set_cons_zero, List.set_cons_succ]
  refine wpAnyY_take (i := 4) (v := ?_) rfl (by kernel_rfl) (by kernel_rfl) (by kernel_rfl) (by kernel_rfl) (fun _ _ _ h => h) (Or.inl ⟨by kernel_rfl, ?_⟩) hS ?_
  rotate_left
  · intro w' hSw; have e := fun q => (bcellB (g1.t hSw)).1 gp q hgp; have s0 := (e _).trans q0; have s1 := (e _).trans q1; have s2 := (e _).trans q2; have s3 := (e _).trans q3; have s4 := (e _).trans q4; have s5 := (e _).trans q5; have s6 : gp < w'.heap.size := Nat.lt_of_lt_of_le hgp (g1.t hSw).size; clear e; go_simp; with_reducible rfl
  try simp only [Act.put, List.getElem_toArray, List.getElem_cons_zero, List.getElem_cons_succ, List.setIfInBounds_toArray, List.set_cons_zero, List.set_cons_succ]
  refine wpAnyY_take (i := 5) (v := ?_) rfl (by kernel_rfl) (by kernel_rfl) (by kernel_rfl) (by kernel_rfl) (fun _ _ _ h => h) (Or.inl ⟨by kernel_rfl, ?_⟩) hS ?_
  rotate_left
  · intro w' hSw; have s0 := (B0.keep hSw).cell 0; have s1 := (B0.keep hSw).cell 1; have s2 := (B0.keep hSw).cell 2; have s3 := (B0.keep hSw).lt; go_simp; with_reducible rfl
  try simp only [Act.put, List.getElem_toArray, List.getElem_cons_zero, List.getElem_cons_succ, List.setIfInBounds_toArray, List.set_cons_zero, List.set_cons_succ]
  refine wpAnyY_take (i := 6) (v := ?_) rfl (by kernel_rfl) (by kernel_rfl) (by kernel_rfl) (by kernel_rfl) (fun _ _ _ h => h) (Or.inl ⟨by kernel_rfl, ?_⟩) hS ?_
  rotate_left
  · intro w' hSw; go_simp; with_reducible rfl
  try simp only [Act.put, List.getElem_toArray, List.getElem_cons_zero, List.getElem_cons_succ, List.setIfInBounds_toArray, List.set_cons_zero, List.set_cons_succ]
  refine wpAnyY_take (i := 9) (v := ?_) rfl (by kernel_rfl) (by kernel_rfl) (by kernel_rfl) (by kernel_rfl) (fun _ _ _ h => h) (Or.inl ⟨by kernel_rfl, ?_⟩) hS ?_
  rotate_left
  · intro w' hSw; have s0 := (B0.keep hSw).cell 0; have s1 := (B0.keep hSw).cell 1; have s2 := (B0.keep hSw).cell 2; have s3 := (B0.keep hSw).lt; go_simp; with_reducible rfl
  try simp only [Act.put, List.getElem_toArray, List.getElem_cons_zero, List.getElem_cons_succ, List.setIfInBounds_toArray, List.set_cons_zero, List.set_cons_succ]
  refine wpAnyY_take (i := 10) (v := ?_) rfl (by kernel_rfl) (by kernel_rfl) (by kernel_rfl) (by kernel_rfl) (fun _ _ _ h => h) (Or.inl ⟨by kernel_rfl, ?_⟩) hS ?_
  rotate_left
  · intro w' hSw; go_simp; with_reducible rfl
  try simp only [Act.put, List.getElem_toArray, List.getElem_cons_zero, List.getElem_cons_succ, List.setIfInBounds_toArray, List.set_cons_zero, List.set_cons_succ]
  apply joinL66 (C := fun GX _ _ W => W1.heap.size ≤ GX ∧ Blk W GX 42 #[.int .i64 0, .int .i64 0, .int .i64 0, .slice none 0 0, .int .i64 0, .bool false] ∧ G W1 W)
  rotate_left
  · intro HJ
    refine wpAnyY_twoSW (i := 7) (j := 13) (by kernel_rfl) rfl rfl (by kernel_rfl) (by kernel_rfl) (fun K7 hK7 => ?_) (fun K13 hK13 => ?_)
    · go_simp
      refine (HPOT.out _ (g1.t gd)).mono ?_
      rintro e w3 ⟨rfl, hG3⟩
      replace gd := gd.t hG3
      refine hK7.out _ _ gd (fun hS => ?_)
      clear hK7
      try simp only [Act.put, List.getElem_toArray, List.getElem_cons_zero, List.getElem_cons_succ, List.setIfInBounds_toArray, List.set_cons_zero, List.set_cons_succ]
      refine wpAnyY_take (i := 8) (v := ?_) rfl (by kernel_rfl) (by kernel_rfl) (by kernel_rfl) (by kernel_rfl) (fun _ _ _ h => h) (Or.inl ⟨by kernel_rfl, ?_⟩) hS ?_
      rotate_left
      · intro w' hSw; go_simp; with_reducible rfl
      try simp only [Act.put, List.getElem_toArray, List.getElem_cons_zero, List.getElem_cons_succ, List.setIfInBounds_toArray, List.set_cons_zero, List.set_cons_succ]
      refine wpAnyY_twoSW (i := 11) (j := 13) (by kernel_rfl) rfl rfl (by kernel_rfl) (by kernel_rfl) (fun K11 hK11 => ?_) (fun K13 hK13 => ?_)
      · go_simp
        refine (HNA.out _ (g1.t gd)).mono ?_
        rintro e w4 ⟨hG4, na, nc, rfl, hni⟩
        replace gd := gd.t hG4
        refine hK11.out _ _ gd (fun hS => ?_)
        clear hK11 hni
        try simp only [Act.put, List.getElem_toArray, List.getElem_cons_zero, List.getElem_cons_succ, List.setIfInBounds_toArray, List.set_cons_zero, List.set_cons_succ]
        refine wpAnyY_take (i := 12) (v := ?_) rfl (by kernel_rfl) (by kernel_rfl) (by kernel_rfl) (by kernel_rfl) (fun _ _ _ h => h) (Or.inl ⟨by kernel_rfl, ?_⟩) hS ?_
        rotate_left
        · intro w' hSw; go_simp; with_reducible rfl
        try simp only [Act.put, List.getElem_toArray, List.getElem_cons_zero, List.getElem_cons_succ, List.setIfInBounds_toArray, List.set_cons_zero, List.set_cons_succ]
        refine wpAnyY_oneSW (i := 13) (by kernel_rfl) rfl (by kernel_rfl) (fun K13 hK13 => ?_)
        go_simp
        have gE := gd.a (.cells #[.int .i64 0, .int .i64 0, .int .i64 0, .slice none 0 0, .int .i64 0, .bool false] 42)
        refine hK13.out _ _ gE (fun hS => ?_)
        clear hK13
        try simp only [Act.put, List.getElem_toArray, List.getElem_cons_zero, List.getElem_cons_succ, List.setIfInBounds_toArray, List.set_cons_zero, List.set_cons_succ]
        have bX := Blk.new w4 42 #[.int .i64 0, .int .i64 0, .int .i64 0, .slice none 0 0, .int .i64 0, .bool false]
        have lX := gd.size
        obtain ⟨GX, hGX⟩ : ∃ GX, GX = w4.heap.size := ⟨_, rfl⟩
        rw [← hGX] at bX lX ⊢
        clear hGX
        generalize w4.alloc (.cells #[.int .i64 0, .int .i64 0, .int .i64 0, .slice none 0 0, .int .i64 0, .bool false] 42) = WE at *
        exact HJ GX na nc WE ⟨lX, bX, gE⟩
      · go_simp
        have gE := gd.a (.cells #[.int .i64 0, .int .i64 0, .int .i64 0, .slice none 0 0, .int .i64 0, .bool false] 42)
        refine hK13.out _ _ gE (fun hS => ?_)
        clear hK13
        try simp only [Act.put, List.getElem_toArray, List.getElem_cons_zero, List.getElem_cons_succ, List.setIfInBounds_toArray, List.set_cons_zero, List.set_cons_succ]
        have bX := Blk.new w3 42 #[.int .i64 0, .int .i64 0, .int .i64 0, .slice none 0 0, .int .i64 0, .bool false]
        have lX := gd.size
        obtain ⟨GX, hGX⟩ : ∃ GX, GX = w3.heap.size := ⟨_, rfl⟩
        rw [← hGX] at bX lX ⊢
        clear hGX
        generalize w3.alloc (.cells #[.int .i64 0, .int .i64 0, .int .i64 0, .slice none 0 0, .int .i64 0, .bool false] 42) = WE at *
        refine wpAnyY_oneSW (i := 11) (by kernel_rfl) rfl (by kernel_rfl) (fun K11 hK11 => ?_)
        go_simp
        refine (HNA.out _ (g1.t gE)).mono ?_
        rintro e w4 ⟨hG4, na, nc, rfl, hni⟩
        replace gE := gE.t hG4
        refine hK11.out _ _ gE (fun hS => ?_)
        clear hK11 hni
        try simp only [Act.put, List.getElem_toArray, List.getElem_cons_zero, List.getElem_cons_succ, List.setIfInBounds_toArray, List.set_cons_zero, List.set_cons_succ]
        refine wpAnyY_take (i := 12) (v := ?_) rfl (by kernel_rfl) (by kernel_rfl) (by kernel_rfl) (by kernel_rfl) (fun _ _ _ h => h) (Or.inl ⟨by kernel_rfl, ?_⟩) hS ?_
        rotate_left
        · intro w' hSw; go_simp; with_reducible rfl
        try simp only [Act.put, List.getElem_toArray, List.getElem_cons_zero, List.getElem_cons_succ, List.setIfInBounds_toArray, List.set_cons_zero, List.set_cons_succ]
        exact HJ GX na nc w4 ⟨lX, bX.keep hG4, gE⟩
    · go_simp
      have gE := gd.a (.cells #[.int .i64 0, .int .i64 0, .int .i64 0, .slice none 0 0, .int .i64 0, .bool false] 42)
      refine hK13.out _ _ gE (fun hS => ?_)
      clear hK13
      try simp only [Act.put, List.getElem_toArray, List.getElem_cons_zero, List.getElem_cons_succ, List.setIfInBounds_toArray, List.set_cons_zero, List.set_cons_succ]
      have bX := Blk.new WD 42 #[.int .i64 0, .int .i64 0, .int .i64 0, .slice none 0 0, .int .i64 0, .bool false]
      have lX := gd.size
      obtain ⟨GX, hGX⟩ : ∃ GX, GX = WD.heap.size := ⟨_, rfl⟩
      rw [← hGX] at bX lX ⊢
      clear hGX
      generalize WD.alloc (.cells #[.int .i64 0, .int .i64 0, .int .i64 0, .slice none 0 0, .int .i64 0, .bool false] 42) = WE at *
      refine wpAnyY_oneSW (i := 7) (by kernel_rfl) rfl (by kernel_rfl) (fun K7 hK7 => ?_)
      go_simp
      refine (HPOT.out _ (g1.t gE)).mono ?_
      rintro e w3 ⟨rfl, hG3⟩
      replace gE := gE.t hG3
      refine hK7.out _ _ gE (fun hS => ?_)
      clear hK7
      try simp only [Act.put, List.getElem_toArray, List.getElem_cons_zero, List.getElem_cons_succ, List.setIfInBounds_toArray, List.set_cons_zero, List.set_cons_succ]
      refine wpAnyY_take (i := 8) (v := ?_) rfl (by kernel_rfl) (by kernel_rfl) (by kernel_rfl) (by kernel_rfl) (fun _ _ _ h => h) (Or.inl ⟨by kernel_rfl, ?_⟩) hS ?_
      rotate_left
      · intro w' hSw; go_simp; with_reducible rfl
      try simp only [Act.put, List.getElem_toArray, List.getElem_cons_zero, List.getElem_cons_succ, List.setIfInBounds_toArray, List.set_cons_zero, List.set_cons_succ]
      refine wpAnyY_oneSW (i := 11) (by kernel_rfl) rfl (by kernel_rfl) (fun K11 hK11 => ?_)
      go_simp
      refine (HNA.out _ (g1.t gE)).mono ?_
      rintro e w4 ⟨hG4, na, nc, rfl, hni⟩
      replace gE := gE.t hG4
      refine hK11.out _ _ gE (fun hS => ?_)
      clear hK11 hni
      try simp only [Act.put, List.getElem_toArray, List.getElem_cons_zero, List.getElem_cons_succ, List.setIfInBounds_toArray, List.set_cons_zero, List.set_cons_succ]
      refine wpAnyY_take (i := 12) (v := ?_) rfl (by kernel_rfl) (by kernel_rfl) (by kernel_rfl) (by kernel_rfl) (fun _ _ _ h => h) (Or.inl ⟨by kernel_rfl, ?_⟩) hS ?_
      rotate_left
      · intro w' hSw; go_simp; with_reducible rfl
      try simp only [Act.put, List.getElem_toArray, List.getElem_cons_zero, List.getElem_cons_succ, List.setIfInBounds_toArray, List.set_cons_zero, List.set_cons_succ]
      exact HJ GX na nc w4 ⟨lX, (bX.keep hG3).keep hG4, gE⟩
  intro GX na nc W2 hJ
  obtain ⟨hGX, bX, gz⟩ := hJ
  clear hS HPOT HNA gd
  refine wpAnyY_oneSW (i := 14) (by kernel_rfl) rfl (by kernel_rfl) (fun K14 hK14 => ?_)
  refine wp_store42 GX (.tmp 5) (.tmp 16) (OLD := #[.int .i64 0, .int .i64 0, .int .i64 0, .slice none 0 0, .int .i64 0, .bool false]) (NEW := #[.int .i64 xs, .int .i64 xc, .int .i64 xk, .slice xa xt.length xd, .int .i64 xq, .bool xf]) ⟨_, _, _, _, _, _, _, _, rfl⟩ ⟨_, _, _, _, _, _, _, _, rfl⟩ rfl rfl rfl bX (fun WX bP hFX hGGX => ?_)
  refine hK14.out _ _ (hGGX W1 hGX gz) (fun hS => ?_)
  clear hK14
  try simp only [Act.put, List.getElem_toArray, List.getElem_cons_zero, List.getElem_cons_succ, List.setIfInBounds_toArray, List.set_cons_zero, List.set_cons_succ]
  have gX : G w WX := g1.t hS
  have hgw : w.heap.size ≤ GX := Nat.le_trans g1.size hGX
  refine wpAnyY_oneSW (i := 15) (by kernel_rfl) rfl (by kernel_rfl) (fun K15 hK15 => ?_)
  go_simp
  refine hK15.out _ _ hS (fun _ => ?_)
  clear hK15 hS hFX hGGX bX gz hGX
  try simp only [Act.put, List.getElem_toArray, List.getElem_cons_zero, List.getElem_cons_succ, List.setIfInBounds_toArray, List.set_cons_zero, List.set_cons_succ]
  refine wpAnyY_oneW (i := 16) (by kernel_rfl) rfl (by kernel_rfl) (by kernel_rfl) (fun K16 hK16 => ?_)
  go_simp
  refine hK16.out _ _ ?_
  clear hK16
  try simp only [Act.put, List.getElem_toArray, List.getElem_cons_zero, List.getElem_cons_succ, List.setIfInBounds_toArray, List.set_cons_zero, List.set_cons_succ]
  refine wpAnyY_done (by kernel_rfl) ?_ _
  have HTA := Lib.hid (fun (W : World) (hW : G w W) => hta.below hW)
  have m2 := bP.cell 2
  have l0 := bP.lt
  clear q0 q1 q2 q3 q4 q5 hgp hta g1 B0 HPE
  obtain ⟨i0, hi0, hz0, hz1, hz2⟩ := info_parts info3
  by_cases k1 : xk = 1
  · subst k1
    rw [if_pos rfl] at hk HPP
    simp only [Bool.and_eq_true, decide_eq_true_eq] at hk
    have htb := hk.1
    unfold tableB at htb
    simp only [Bool.and_eq_true, decide_eq_true_eq] at htb
    obtain ⟨ht8, htc, _⟩ := htb
    unfold isInB at ht8
    simp only [Bool.and_eq_true, decide_eq_true_eq] at ht8
    have HTC : Hid (∀ i, i < xt.length → 0 ≤ xt.getD i 0 ∧ xt.getD i 0 ≤ 1000) := fun i hi => by
      have := allU_iff.1 htc i hi
      unfold isInB at this
      simp only [Bool.and_eq_true, decide_eq_true_eq] at this
      exact this
    clear hk htc
    go_wp2_with fail
    clear m2 l0
    go_loopw [8, 9] (fun v i wr => ∃ k : Nat, k ≤ xt.length ∧ i = .int .i64 k ∧ Hid (wr.ownsRow WX.heap.size 3 1 v k (iv ((xt.take k).map (fun n => L * n / 1000)))) ∧ Hid (G WX wr)) (fun _ i _ => xt.length - (intOf i).toNat)
    case atStart => exact ⟨0, Nat.zero_le _, rfl, World.ownsRow_nil _ _ _ _, G.rf _⟩
    case round =>
      obtain ⟨k, hk, rfl, HO, HG⟩ := hrel
      obtain ⟨wo, rfl⟩ : ∃ wo, wo = wr := ⟨_, rfl⟩
      have m3 := (bP.keep HG.out).cell 3
      have l0 := (bP.keep HG.out).lt
      by_cases hlt : k < xt.length
      · have hki : (k : Int) < xt.length := by omega
        rcases HTA.out _ (gX.t HG.out) with rfl | ⟨g, off, rfl, hg, hcell⟩
        · simp at hlt
        have q0 := hcell k hlt
        have hy01 := HTC.out k hlt
        have HSN := Lib.hid (take_snoc hlt (fun n => L * n / 1000))
        obtain ⟨y, hy⟩ : ∃ y, y = xt.getD k 0 := ⟨_, rfl⟩
        rw [← hy] at q0 hy01 HSN
        clear hy hcell
        have hpr : 0 ≤ L * y ∧ L * y ≤ L * 1000 := ⟨Int.mul_nonneg hlb.1 hy01.1, Int.mul_le_mul_of_nonneg_left hy01.2 hlb.1⟩
        have x1 : IntKind.i64.wrap (L * y) = L * y := IntWalk.i64_in _ (by omega)
        have x2 : (L * y).tdiv 1000 = L * y / 1000 := Int.tdiv_eq_ediv_of_nonneg hpr.1
        have x3 : IntKind.i64.wrap (L * y / 1000) = L * y / 1000 := IntWalk.i64_in _ (by omega)
        obtain ⟨T, hT⟩ : ∃ T, T = (xt.take k).map (fun n => L * n / 1000) := ⟨_, rfl⟩
        have hTl : T.length = k := by rw [hT, List.length_map, List.length_take]; omega
        rw [← hT] at HO HSN
        clear hT hpr
        obtain rfl := hTl.symm
        go_wp2_with (at_builtin; refine wpList_append_own _ rfl _ _ 24 rfl WX.heap.size 3 i0 (.int .i64 0) 1 8 Tryz.underlying24 hi0 hz0 hz1 hz2 rfl (by decide) _ T.length (iv T) rfl ?hown ⟨_, 0, none⟩ 1 1 [.int .i64 (L * y / 1000)] rfl rfl (cell_one_new _ _ _) (by simp [Value.oneCell']) (by unfold maxLen; omega) (by omega) ?hbase ?hrest)
        case hown => exact own_G HO.out ((G.rf _).a _)
        case hbase => have := HG.out.size; omega
        case hrest =>
          intro v9 w9 hown9 hg9 _
          have gz : G WX w9 := grow_own (HG.out.a _) (own_G HO.out ((G.rf _).a _)) (Nat.le_refl _) hg9
          have HN := Lib.hid hown9
          clear hown9 hg9
          go_wp2
          go_roundw
          case rel => exact ⟨T.length + 1, by omega, by go_num, by rw [HSN.out, iv_snoc]; exact HN.out, gz⟩
          case measure => simp [intOf] <;> omega
      · obtain rfl : k = xt.length := by omega
        have hki : ¬ ((xt.length : Nat) : Int) < xt.length := by omega
        rw [List.take_length] at HO
        have hlen : (xt.map (fun n => L * n / 1000)).length = xt.length := List.length_map _
        have HF := Lib.hid (fun v (ho : wo.ownsRow WX.heap.size 3 1 v xt.length (iv (xt.map (fun n => L * n / 1000)))) => HPP.out wo v (by rw [hlen]; exact own_weaken ho gX.size) (gX.t HG.out))
        clear HPP hlen
        go_wp2_with fail
        first | exact HF.out _ HO.out | (go_ret; exact HF.out _ HO.out)
  · by_cases k2 : xk = 2
    · subst k2
      rw [if_neg k1, if_pos rfl] at hk HPP
      simp only [Bool.and_eq_true, decide_eq_true_eq] at hk
      have hq := hk.2
      clear hk
      unfold isInB at hq
      simp only [Bool.and_eq_true, decide_eq_true_eq] at hq
      obtain ⟨Q, hQ⟩ : ∃ Q : Nat, xq = Q := ⟨xq.toNat, by omega⟩
      subst hQ
      obtain ⟨M, hM⟩ : ∃ M : Nat, M = (n + Q - 1) / Q := ⟨_, rfl⟩
      have hMi : ((n : Int) + Q - 1) / Q = (M : Nat) := by
        rw [hM]
        rw [show (n : Int) + Q - 1 = ((n + Q - 1 : Nat) : Int) by omega]
        exact (Int.natCast_ediv _ _).symm
      have hMb : M ≤ 1000 := by
        rw [hM]
        exact Nat.le_trans (Nat.div_le_self _ _) (by omega)
      rw [hMi] at HPP
      have y1 : IntKind.i64.wrap ((n : Int) + Q) = (n : Int) + Q := IntWalk.i64_in _ (by omega)
      have y2 : IntKind.i64.wrap ((n : Int) + Q - 1) = (n : Int) + Q - 1 := IntWalk.i64_in _ (by omega)
      have y3 : ((n : Int) + Q - 1).tdiv Q = (M : Nat) := by rw [Int.tdiv_eq_ediv_of_nonneg (by omega)]; exact hMi
      have y4 : IntKind.i64.wrap ((M : Nat) : Int) = (M : Nat) := IntWalk.i64_in _ (by omega)
      have qz : ((Q : Int) == 0) = false := by simp; omega
      have qz2 : ¬ Q = 0 := by omega
      clear hMi hM
      have m4 := bP.cell 4
      go_wp2_with fail
      clear m2 m4 l0 y1 y2 y3 y4
      go_loopw [8, 11] (fun v i wr => ∃ k : Nat, k ≤ M ∧ i = .int .i64 k ∧ Hid (wr.ownsRow WX.heap.size 3 1 v k (iv (List.replicate k (L / (M : Nat))))) ∧ Hid (G WX wr)) (fun _ i _ => M - (intOf i).toNat)
      case atStart => exact ⟨0, Nat.zero_le _, rfl, World.ownsRow_nil _ _ _ _, G.rf _⟩
      case round =>
        obtain ⟨k, hk, rfl, HO, HG⟩ := hrel
        obtain ⟨wo, rfl⟩ : ∃ wo, wo = wr := ⟨_, rfl⟩
        by_cases hlt : k < M
        · have hki : (k : Int) < M := by omega
          have mz : ((M : Int) == 0) = false := by simp; omega
          have mz2 : ¬ M = 0 := by omega
          have x1 : L.tdiv (M : Nat) = L / (M : Nat) := Int.tdiv_eq_ediv_of_nonneg hlb.1
          have hb2 : 0 ≤ L / (M : Nat) ∧ L / ((M : Nat) : Int) ≤ L := ⟨Int.ediv_nonneg hlb.1 (by omega), Int.ediv_le_self _ hlb.1⟩
          have x2 : IntKind.i64.wrap (L / (M : Nat)) = L / (M : Nat) := IntWalk.i64_in _ (by omega)
          have HSN := Lib.hid (rep_snoc k (L / (M : Nat)))
          obtain ⟨z, hz⟩ : ∃ z, z = L / ((M : Nat) : Int) := ⟨_, rfl⟩
          have HZ := Lib.hid hz
          rw [← hz] at x1 x2 HSN HO
          clear hb2 hz
          obtain ⟨T, hT⟩ : ∃ T, T = List.replicate k z := ⟨_, rfl⟩
          have hTl : T.length = k := by rw [hT, List.length_replicate]
          rw [← hT] at HO HSN
          clear hT
          obtain rfl := hTl.symm
          go_wp2_with (at_builtin; refine wpList_append_own _ rfl _ _ 24 rfl WX.heap.size 3 i0 (.int .i64 0) 1 8 Tryz.underlying24 hi0 hz0 hz1 hz2 rfl (by decide) _ T.length (iv T) rfl ?hown ⟨_, 0, none⟩ 1 1 [.int .i64 z] rfl rfl (cell_one_new _ _ _) (by simp [Value.oneCell']) (by unfold maxLen; omega) (by omega) ?hbase ?hrest)
          case hown => exact own_G HO.out ((G.rf _).a _)
          case hbase => have := HG.out.size; omega
          case hrest =>
            intro v9 w9 hown9 hg9 _
            have gz : G WX w9 := grow_own (HG.out.a _) (own_G HO.out ((G.rf _).a _)) (Nat.le_refl _) hg9
            have HN := Lib.hid hown9
            clear hown9 hg9
            go_wp2
            go_roundw
            case rel => exact ⟨T.length + 1, by omega, by go_num, by rw [← HZ.out, HSN.out, iv_snoc]; exact HN.out, gz⟩
            case measure => simp [intOf] <;> omega
        · obtain rfl : k = M := by omega
          have hki : ¬ ((k : Nat) : Int) < k := by omega
          have hlen : (List.replicate k (L / ((k : Nat) : Int))).length = k := List.length_replicate
          have HF := Lib.hid (fun v (ho : wo.ownsRow WX.heap.size 3 1 v k (iv (List.replicate k (L / ((k : Nat) : Int))))) => HPP.out wo v (by rw [Int.toNat_natCast, hlen]; exact own_weaken ho gX.size) (gX.t HG.out))
          clear HPP hlen
          go_wp2_with fail
          first | exact HF.out _ HO.out | (go_ret; exact HF.out _ HO.out)
    · by_cases k3 : xk = 3
      · subst k3
        rw [if_neg k1, if_neg k2, if_pos rfl] at HPP
        clear hk
        have e1 : ((3 : Int) == 1) = false := by decide
        go_wp2_with fail
        have gz : G w (WX.alloc (.cells #[.int .i64 L] 3)) := gX.a _
        have ho := own_weaken (own_one (Blk.new WX 3 #[.int .i64 L])) gX.size
        first | exact HPP.out _ _ ho gz | (go_ret; exact HPP.out _ _ ho gz)
      · rw [if_neg k1, if_neg k2, if_neg k3] at hk
        cases hk
end Go.Proofs.YtnkmcoljijmgpaaGreat

set_option linter.unusedSimpArgs false
set_option linter.unusedVariables false
namespace Go.Proofs.YtnkmcoljijmgpaaGreat
open Go.RowKit Go.Shelf Go.Sort Go.Maps
attribute [local go_sem] Oper.semAt_some
/-- how many birds stand in the first j groups -/
def nxt (gs : List (List Int)) : Nat → Nat
  | 0 => 0
  | j + 1 => nxt gs j + (gs.getD j []).length
theorem drop_min {α : Type} (l : List α) (n : Nat) : l.drop (min n l.length) = l.drop n := by
  by_cases h : n ≤ l.length
  · rw [Nat.min_eq_left h]
  · rw [Nat.min_eq_right (by omega), List.drop_length, List.drop_eq_nil_of_le (by omega)]
theorem take_min {α : Type} (l : List α) (n : Nat) : l.take (min n l.length) = l.take n := by
  by_cases h : n ≤ l.length
  · rw [Nat.min_eq_left h]
  · rw [Nat.min_eq_right (by omega), List.take_length, List.take_of_length_le (by omega)]
theorem wst_drop (PL : List Int) (GS : List (List Int)) : ∀ j, (wst PL GS j).1 = PL.drop (nxt GS j)
  | 0 => by simp [wst, nxt]
  | j + 1 => by
    show (wst PL GS j).1.drop _ = _
    rw [drop_min, wst_drop PL GS j, List.drop_drop]
    rfl
/-- what the places from the t-th on give i birds -/
def sumP (PL : List Int) (t i : Nat) : Int := ((PL.drop t).take i).sum
theorem sumP_succ (PL : List Int) (t i : Nat) : sumP PL t (i + 1) = sumP PL t i + if t + i < PL.length then PL.getD (t + i) 0 else 0 := by
  unfold sumP
  by_cases h : t + i < PL.length
  · rw [if_pos h, List.take_add_one, List.sum_append, List.getElem?_drop, List.getElem?_eq_getElem h, List.getD_eq_getElem?_getD, List.getElem?_eq_getElem h]
    simp
  · rw [if_neg h, List.take_of_length_le (by rw [List.length_drop]; omega), List.take_of_length_le (by rw [List.length_drop]; omega)]
    omega
theorem sumP_zero (PL : List Int) (t : Nat) : sumP PL t 0 = 0 := by simp [sumP]
theorem gWon_sumP (PL : List Int) (GS : List (List Int)) (j : Nat) {i : Nat} (h : i < (GS.getD j []).length) : (gWon (wst PL GS j).1 (GS.getD j [])).take (i + 1) = (gWon (wst PL GS j).1 (GS.getD j [])).take i ++ [((GS.getD j []).getD i 0, shareI (sumP PL (nxt GS j) (GS.getD j []).length) (GS.getD j []).length i)] := by
  rw [gWon_take _ _ h, take_min, wst_drop]
  rfl
theorem wonAt_new {ps : List (Int × Int)} {b c : Int} (h : (ps.any fun p => p.1 == b) = false) : wonAt (ps ++ [(b, c)]) b = c := by
  unfold wonAt
  have e : ps.find? (fun p => p.1 == b) = none := by
    rw [List.find?_eq_none]
    intro x hx
    rw [List.any_eq_false] at h
    exact h x hx
  rw [List.find?_append, e]
  simp
/-- what was won behind j groups and the first i birds of the next one -/
def accP (PL : List Int) (GS : List (List Int)) (j i : Nat) : List (Int × Int) := (wst PL GS j).2 ++ (gWon (wst PL GS j).1 (GS.getD j [])).take i
theorem accP_zero (PL : List Int) (GS : List (List Int)) (j : Nat) : accP PL GS j 0 = (wst PL GS j).2 := by simp [accP]
theorem accP_all (PL : List Int) (GS : List (List Int)) (j : Nat) : accP PL GS j (GS.getD j []).length = (wst PL GS (j + 1)).2 := by
  unfold accP
  rw [List.take_of_length_le (by rw [gWon_len]; exact Nat.le_refl _)]
  rfl
theorem accP_succ (PL : List Int) (GS : List (List Int)) (j : Nat) {i : Nat} (h : i < (GS.getD j []).length) : accP PL GS j (i + 1) = accP PL GS j i ++ [((GS.getD j []).getD i 0, shareI (sumP PL (nxt GS j) (GS.getD j []).length) (GS.getD j []).length i)] := by
  unfold accP
  rw [gWon_sumP PL GS j h, List.append_assoc]
/-- the prizes of birds, the first k of them as in A, the others as in B -/
def olF (rs : List Rc) (A B : List (Int × Int)) (k : Nat) : List Pz := (List.range rs.length).map fun m => ⟨(rs.getD m default).bird, wonAt (if m < k then A else B) (rs.getD m default).bird, 0⟩
theorem olF_len (rs : List Rc) (A B : List (Int × Int)) (k : Nat) : (olF rs A B k).length = rs.length := by simp [olF]
theorem olF_get (rs : List Rc) (A B : List (Int × Int)) (k : Nat) {m : Nat} (h : m < rs.length) : (olF rs A B k).getD m default = ⟨(rs.getD m default).bird, wonAt (if m < k then A else B) (rs.getD m default).bird, 0⟩ := by
  unfold olF
  rw [List.getD_eq_getElem?_getD, List.getElem?_map, List.getElem?_range h]
  rfl
theorem olF_end (rs : List Rc) (A B : List (Int × Int)) : olF rs A B rs.length = olF rs A A 0 := by
  unfold olF
  refine List.map_congr_left fun m hm => ?_
  have := List.mem_range.1 hm
  rw [if_pos this, if_neg (by omega)]
theorem olF_any (rs : List Rc) (A B C : List (Int × Int)) : olF rs A B 0 = olF rs C B 0 := by
  unfold olF
  refine List.map_congr_left fun m hm => ?_
  rw [if_neg (by omega), if_neg (by omega)]
theorem olF_same {rs : List Rc} {B : List (Int × Int)} {b c : Int} {k : Nat} (hk : k < rs.length) (hb : (rs.getD k default).bird ≠ b) : olF rs (B ++ [(b, c)]) B (k + 1) = olF rs (B ++ [(b, c)]) B k := by
  unfold olF
  refine List.map_congr_left fun m hm => ?_
  by_cases h : m < k
  · rw [if_pos h, if_pos (by omega)]
  · by_cases h1 : m = k
    · subst h1
      rw [if_pos (by omega), if_neg h, wonAt_snoc hb]
    · rw [if_neg h, if_neg (by omega)]
theorem olF_set {rs : List Rc} {B : List (Int × Int)} {b c : Int} {k : Nat} (hk : k < rs.length) (hb : (rs.getD k default).bird = b) (hf : (B.any fun p => p.1 == b) = false) : olF rs (B ++ [(b, c)]) B (k + 1) = (olF rs (B ++ [(b, c)]) B k).set k ⟨b, c, 0⟩ := by
  apply List.ext_getElem?
  intro m
  by_cases hm : m < rs.length
  · rw [List.getElem?_set, olF_len]
    unfold olF
    rw [List.getElem?_map, List.getElem?_map, List.getElem?_range hm]
    by_cases h1 : k = m
    · subst h1
      rw [if_pos rfl, if_pos hm]
      simp only [Option.map_some]
      rw [if_pos (by omega), hb, wonAt_new hf]
    · rw [if_neg h1]
      simp only [Option.map_some]
      by_cases h : m < k
      · rw [if_pos h, if_pos (by omega)]
      · rw [if_neg h, if_neg (by omega)]
  · rw [List.getElem?_eq_none (by rw [olF_len]; omega), List.getElem?_eq_none (by rw [List.length_set, olF_len]; omega)]
/-- .. and what goes back to the first i of them -/
def blF (rs : List Rc) (ps : List (Int × Int)) (R : Int) (i : Nat) : List Pz := (List.range rs.length).map fun m => ⟨(rs.getD m default).bird, wonAt ps (rs.getD m default).bird, if m < i then shareI R rs.length m else 0⟩
theorem blF_len (rs : List Rc) (ps : List (Int × Int)) (R : Int) (k : Nat) : (blF rs ps R k).length = rs.length := by simp [blF]
theorem blF_zero (rs : List Rc) (ps : List (Int × Int)) (R : Int) : olF rs ps ps 0 = blF rs ps R 0 := by
  unfold olF blF
  refine List.map_congr_left fun m hm => ?_
  rw [if_neg (by omega), if_neg (by omega)]
theorem blF_get (rs : List Rc) (ps : List (Int × Int)) (R : Int) (k : Nat) {m : Nat} (h : m < rs.length) : (blF rs ps R k).getD m default = ⟨(rs.getD m default).bird, wonAt ps (rs.getD m default).bird, if m < k then shareI R rs.length m else 0⟩ := by
  unfold blF
  rw [List.getD_eq_getElem?_getD, List.getElem?_map, List.getElem?_range h]
  rfl
theorem blF_set (rs : List Rc) (ps : List (Int × Int)) (R : Int) {k : Nat} (hk : k < rs.length) : blF rs ps R (k + 1) = (blF rs ps R k).set k ⟨(rs.getD k default).bird, wonAt ps (rs.getD k default).bird, shareI R rs.length k⟩ := by
  apply List.ext_getElem?
  intro m
  by_cases hm : m < rs.length
  · rw [List.getElem?_set, blF_len]
    unfold blF
    rw [List.getElem?_map, List.getElem?_map, List.getElem?_range hm]
    by_cases h1 : k = m
    · subst h1
      rw [if_pos rfl, if_pos hm]
      simp only [Option.map_some]
      rw [if_pos (by omega)]
    · rw [if_neg h1]
      simp only [Option.map_some]
      by_cases h : m < k
      · rw [if_pos h, if_pos (by omega)]
      · rw [if_neg h, if_neg (by omega)]
  · rw [List.getElem?_eq_none (by rw [blF_len]; omega), List.getElem?_eq_none (by rw [List.length_set, blF_len]; omega)]
theorem blF_all (f : Fu) : blF f.rs (wonL f []) (resI f []) f.rs.length = prizesL f := by
  unfold blF prizesL
  refine List.map_congr_left fun m hm => ?_
  have := List.mem_range.1 hm
  rw [if_pos this]
/-- a store into one cell of a row of prizes of one's own -/
theorem pz_put1 {W : World} {B c i j g : Nat} {L : List Pz} {v : Value} {y : Pz} (h : W.ownsRow B 40 3 (.slice (some ⟨g, 0, none⟩) L.length c) L.length (cv Pz.v L)) (hi : i < L.length) (hj : j < 3) (hy : (Pz.v y).toList = (Pz.v (L.getD i default)).toList.set j v) :
    (W.setCell ⟨g, i * 3 + j, none⟩ v).ownsRow B 40 3 (.slice (some ⟨g, 0, none⟩) L.length c) L.length (cv Pz.v (L.set i y)) := by
  rcases h.2 with ⟨he, _⟩ | ⟨g', cap, cur, he, hb, hg, h1, h2, h3, h4⟩
  · cases he
  · injection he with e1 e2 e3
    injection e1 with e1
    injection e1 with e1 _ _
    subst e1 e3
    refine ⟨by rw [cv_len Pz.vs, List.length_set], .inr ⟨g, _, _, rfl, hb, Blk.set_ hg _ _, h1, h2, by rw [Array.size_setIfInBounds]; exact h3, ?_⟩⟩
    apply List.ext_getElem?
    intro t
    by_cases ht : t < L.length * 3
    · have e := cv_get Pz.vs (L.set i y) (i := t / 3) (r := t % 3) (by rw [List.length_set]; omega) (by omega)
      rw [show t / 3 * 3 + t % 3 = t by omega] at e
      rw [e, List.getElem?_take_of_lt ht, Array.toList_setIfInBounds, List.getElem?_set]
      have h4t : (cur.toList.take (L.length * 3))[t]? = (cv Pz.v L)[t]? := by rw [h4]
      rw [List.getElem?_take_of_lt ht] at h4t
      have e2 := cv_get Pz.vs L (i := t / 3) (r := t % 3) (by omega) (by omega)
      rw [show t / 3 * 3 + t % 3 = t by omega] at e2
      have hcs : t < cur.toList.length := by
        rw [Array.length_toList, h3]
        have : L.length * 3 ≤ c * 3 := Nat.mul_le_mul_right 3 h1
        omega
      by_cases h5 : i * 3 + j = t
      · rw [if_pos h5, if_pos (by omega)]
        have h6 : t / 3 = i := by omega
        have h7 : t % 3 = j := by omega
        rw [h6, h7]
        have h8 : (L.set i y).getD i default = y := by
          rw [List.getD_eq_getElem?_getD, List.getElem?_set_self (by omega)]
          rfl
        rw [h8, hy, List.getElem?_set_self (by show j < 3; exact hj)]
      · rw [if_neg h5, h4t, e2]
        by_cases h6 : t / 3 = i
        · rw [h6]
          have h8 : (L.set i y).getD i default = y := by
            rw [List.getD_eq_getElem?_getD, List.getElem?_set_self (by omega)]
            rfl
          rw [h8, hy, List.getElem?_set_ne (by omega)]
        · have h8 : (L.set i y).getD (t / 3) default = L.getD (t / 3) default := by
            rw [List.getD_eq_getElem?_getD, List.getElem?_set_ne (fun e => h6 e.symm), ← List.getD_eq_getElem?_getD]
          rw [h8]
    · rw [List.getElem?_eq_none (by rw [List.length_take]; omega), List.getElem?_eq_none (by rw [cv_len Pz.vs, List.length_set]; omega)]
/-- how a row of prizes of one's own is read -/
theorem pz_cell {W : World} {B g c i : Nat} {L : List Pz} (h : W.ownsRow B 40 3 (.slice (some ⟨g, 0, none⟩) L.length c) L.length (cv Pz.v L)) (hi : i < L.length) : W.cell? ⟨g, i * 3, none⟩ = some (.int .i64 (L.getD i default).bird) ∧ W.cell? ⟨g, i * 3 + 1, none⟩ = some (.int .i64 (L.getD i default).won) ∧ W.cell? ⟨g, i * 3 + 2, none⟩ = some (.int .i64 (L.getD i default).back) ∧ W.frozen? ⟨g, i * 3 + 1, none⟩ = false ∧ W.frozen? ⟨g, i * 3 + 2, none⟩ = false ∧ g < W.heap.size ∧ B ≤ g ∧ ∃ cur, Blk W g 40 cur := by
  rcases h.2 with ⟨he, _⟩ | ⟨g', cap, cur, he, hb, hg, h1, h2, h3, h4⟩
  · cases he
  · injection he with e1 e2 e3
    injection e1 with e1
    injection e1 with e1 _ _
    subst e1 e3
    have hB : Blk W g 40 cur := hg
    have a := fun r (hr : r < 3) => take_cell hB h4 (k := i * 3 + r) (by omega) (v := (Pz.v (L.getD i default)).toList.getD r undef) (by
      rw [cv_get Pz.vs L hi hr]
      generalize L.getD i default = y
      have : r < (Pz.v y).toList.length := hr
      rw [List.getElem?_eq_getElem this, List.getD_eq_getElem?_getD, List.getElem?_eq_getElem this]
      rfl)
    exact ⟨a 0 (by omega), a 1 (by omega), a 2 (by omega), hB.frozen _, hB.frozen _, hB.lt, hb, cur, hB⟩
end Go.Proofs.YtnkmcoljijmgpaaGreat

set_option linter.unusedSimpArgs false
set_option linter.unusedVariables false
namespace Go.Proofs.YtnkmcoljijmgpaaGreat
open Go.RowKit Go.Shelf Go.Sort Go.Maps
attribute [local go_sem] Oper.semAt_some
attribute [local go_sem] field33
theorem own_Fr40 {W W' : World} {b z N B n k : Nat} {e : TypeId} {v : Value} {xs ys : List Value} {oa : Option Addr} {oc : Nat} (h : W.ownsRow b e z v N xs) (ho : W.ownsRow B 40 3 (.slice oa n oc) k ys) (he : e ≠ 40) (hF : Fr (fun i => oa = some ⟨i, 0, none⟩) W W') : W'.ownsRow b e z v N xs := by
  refine own_Fr h hF (fun g hg hR => ?_)
  have hR' : oa = some ⟨g, 0, none⟩ := hR
  rcases own_own h ho he with a | a
  · rw [hg] at a; cases a
  · exact a (by rw [hg, hR']; rfl)
theorem grp_Fr2 {W : World} {Bo B n k m : Nat} {ys : List Value} {oa va : Option Addr} {oc vc : Nat} {gs : List (List Int)} {cs : List Value} (h : RowsAt W Bo (.slice va m vc) gs cs) (ho : W.ownsRow B 40 3 (.slice oa n oc) k ys) {j : Nat} (hj : j < gs.length) :
    ∃ go ga gc, va = some ⟨go, 0, none⟩ ∧ ∀ W', Fr (fun i => oa = some ⟨i, 0, none⟩) W W' → go < W'.heap.size ∧ W'.cell? ⟨go, j, none⟩ = some (.slice ga (gs.getD j []).length gc) ∧ IntsAt W' ga (gs.getD j []) := by
  obtain ⟨go, ocap, ocur, hov, hbv, hlv, htv⟩ := own_some h.out (by omega)
  injection hov with e1 _ _
  obtain ⟨ga, gc, hcs, hig⟩ := own_ints (h.inn j hj)
  refine ⟨go, ga, gc, e1, fun W' hF => ?_⟩
  obtain ⟨go', _, _, hov', hbv', hlv', htv'⟩ := own_some (own_Fr40 h.out ho (by decide) hF) (by omega)
  injection hov' with e1' _ _
  rw [e1] at e1'
  injection e1' with e1'
  injection e1' with e1' _ _
  subst e1'
  have hcl := h.len
  obtain ⟨a', c', e, hI⟩ := own_ints (own_Fr40 (h.inn j hj) ho (by decide) hF)
  rw [hcs] at e
  injection e with e2 _ _
  rw [← e2] at hI
  exact ⟨hlv', take_cell hbv' htv' (k := j) (by omega) (by rw [← hcs]; simp [List.getD_eq_getElem?_getD, show j < cs.length by omega]), hI⟩
theorem G_Fr {W2 W W' : World} {oa : Option Addr} (h : G W2 W) (hF : Fr (fun i => oa = some ⟨i, 0, none⟩) W W') (hb : ∀ g, oa = some ⟨g, 0, none⟩ → W2.heap.size ≤ g) : G W2 W' :=
  ((G.fr (R := fun _ => False) h).t2 hF (fun i hi e => by have := hb i e; omega)).toG (fun _ _ h => h)
theorem nxt_le {PL : List Int} {GS : List (List Int)} (h : WonOk PL GS) : ∀ j, nxt GS j ≤ 12 * j
  | 0 => by simp [nxt]
  | j + 1 => by
    have ih := nxt_le h j
    show nxt GS j + _ ≤ _
    have : (GS.getD j []).length ≤ 12 := by
      rw [List.getD_eq_getElem?_getD]
      by_cases hj : j < GS.length
      · rw [List.getElem?_eq_getElem hj]
        exact (h.gne _ (List.getElem_mem hj)).2
      · rw [List.getElem?_eq_none (by omega)]
        simp
    omega
theorem sndS_step {PL : List Int} {GS : List (List Int)} (h : WonOk PL GS) {j : Nat} (hj : j < GS.length) : sndS (wst PL GS (j + 1)).2 = sndS (wst PL GS j).2 + sumP PL (nxt GS j) (GS.getD j []).length := by
  have hm : GS.getD j [] ∈ GS := by
    rw [List.getD_eq_getElem?_getD, List.getElem?_eq_getElem hj]
    exact List.getElem_mem _
  show sndS ((wst PL GS j).2 ++ gWon (wst PL GS j).1 (GS.getD j [])) = _
  obtain ⟨k, hk⟩ := wst_sub PL GS j
  rw [sndS_append, gWon_sum (h.gne _ hm).1 (by rw [hk]; exact (h.sums k _).1), take_min, wst_drop]
  rfl
theorem sndS_bd {PL : List Int} {GS : List (List Int)} (h : WonOk PL GS) {j : Nat} (hj : j ≤ GS.length) : 0 ≤ sndS (wst PL GS j).2 ∧ sndS (wst PL GS j).2 ≤ 1000000000 := by
  have h1 := wst_sum h j hj
  have h2 := sndS_nonneg (wst_nonneg h j)
  have h3 := h.sums (nxt GS j) PL.length
  have h4 := h.sums 0 PL.length
  rw [wst_drop] at h1
  rw [List.take_of_length_le (by rw [List.length_drop]; omega)] at h3
  rw [List.drop_zero, List.take_length] at h4
  omega
theorem sumP_bd {PL : List Int} {GS : List (List Int)} (h : WonOk PL GS) (t i : Nat) : 0 ≤ sumP PL t i ∧ sumP PL t i ≤ 1000000000 := h.sums t i
theorem grp_bd {PL : List Int} {GS : List (List Int)} (h : WonOk PL GS) {j : Nat} (hj : j < GS.length) : 1 ≤ (GS.getD j []).length ∧ (GS.getD j []).length ≤ 12 := by
  have hm : GS.getD j [] ∈ GS := by
    rw [List.getD_eq_getElem?_getD, List.getElem?_eq_getElem hj]
    exact List.getElem_mem _
  have := h.gne _ hm
  exact ⟨List.length_pos_iff.2 this.1, this.2⟩
theorem olF_take (rs : List Rc) {k : Nat} (hk : k < rs.length) : (olF rs [] [] 0).take (k + 1) = (olF rs [] [] 0).take k ++ [⟨(rs.getD k default).bird, 0, 0⟩] := by
  have hl : k < (olF rs [] [] 0).length := by rw [olF_len]; exact hk
  rw [List.take_add_one, List.getElem?_eq_getElem hl]
  have e := olF_get rs [] [] 0 hk
  rw [List.getD_eq_getElem?_getD, List.getElem?_eq_getElem hl] at e
  have e2 : (olF rs [] [] 0)[k] = ⟨(rs.getD k default).bird, 0, 0⟩ := e
  rw [e2]
  rfl
theorem iv_share (A : Int) (n : Nat) : ∀ k, k < n → ((List.range n).map (shareI A n)).getD k 0 = shareI A n k := fun k hk => by
  rw [List.getD_eq_getElem?_getD, List.getElem?_map, List.getElem?_range hk]
  rfl
set_option maxRecDepth 100000 in
set_option maxHeartbeats 16000000 in
theorem prizes65_any (r : Ra) (p : Nat) (w : World) (h : r.At w) (hr : raceB r = true) (hp : p < r.pools.length) : Calls Tryz.prog 65 #[.agg r.v, .int .i64 (p : Nat)] w (PzPost w (prizesL (fuOf r p none 0))) := by
  have hrv : r.v = #[.slice r.ra r.racers.length r.rc, .slice r.pa r.pools.length r.pc, .slice r.ta r.protests.length r.tc] := rfl
  have h12 := (uniq_of (race_parts hr)).1
  have hrl := runners_len r p
  have hnl : (namedL r p).length = (runners r p).length := by unfold namedL; rw [List.length_map]
  have hf := fu_facts hr hp none 0 []
  have HOK := Lib.hid hf.ok
  have HPOS := Lib.hid (show sndS (wst (placesL (fuOf r p none 0)) (orderL (fuOf r p none 0) []) (orderL (fuOf r p none 0) []).length).2 ≤ lefI (fuOf r p none 0) from hf.le)
  have hLb := left_bd (fu_bounds hr (inB_pool hp) none 0)
  have HNA := Lib.hid (fun (W : World) (hW : G w W) => naQ0 r p (runners r p).length W (h.keep hW) hnl)
  have HPC : Hid (∀ W, G w W → Calls Tryz.prog 66 #[.agg r.v, .int .i64 (p : Nat)] W fun e w' => ∃ a c, e = .returned (.slice a (placesL (fuOf r p none 0)).length c) ∧ IntsAt w' a (placesL (fuOf r p none 0)) ∧ G W w') := fun W hW => by
    refine (places66_any r p W (h.keep hW) hr hp).mono ?_
    rintro e w' ⟨v, rfl, ho, hG⟩
    obtain ⟨a, c, rfl, hI⟩ := own_ints ho
    exact ⟨a, c, rfl, hI, hG⟩
  have HPOT := Lib.hid (fun (W : World) (hW : G w W) => pot64_any r p W (h.keep hW) hr hp)
  have HORD : Hid (∀ W, G w W → Calls Tryz.prog 67 #[.agg r.v, .int .i64 (p : Nat)] W fun e w' => ∃ a c cs, e = .returned (.slice a (orderL (fuOf r p none 0) []).length c) ∧ RowsAt w' W.heap.size (.slice a (orderL (fuOf r p none 0) []).length c) (orderL (fuOf r p none 0) []) cs ∧ G W w') := fun W hW => by
    refine (order67_any r p W (h.keep hW) hr hp).mono ?_
    rintro e w' ⟨v, cs, rfl, ho, hG⟩
    obtain ⟨a, c, rfl, hI⟩ := rows_read ho
    exact ⟨a, c, cs, rfl, ho, hG⟩
  have hfin := (blF_all (fuOf r p none 0)).symm
  have HPP : Hid (∀ w' v, w'.ownsRow w.heap.size 40 3 v (prizesL (fuOf r p none 0)).length (cv Pz.v (prizesL (fuOf r p none 0))) → G w w' → PzPost w (prizesL (fuOf r p none 0)) (.returned v) w') := fun w' v a b => ⟨v, rfl, a, b⟩
  generalize PzPost w (prizesL (fuOf r p none 0)) = PP at *
  rw [hfin] at HPP
  unfold resI wonL at HPP
  have hrs0 : (fuOf r p none 0).rs = runners r p := rfl
  rw [hrs0] at HPP
  have HNM : Hid (∀ i, i < (runners r p).length → (namedL r p).getD i 0 = ((runners r p).getD i default).bird) := fun i hi => by
    unfold namedL
    rw [List.getD_eq_getElem?_getD, List.getElem?_map, List.getElem?_eq_getElem hi, List.getD_eq_getElem?_getD, List.getElem?_eq_getElem hi]
    rfl
  obtain ⟨T, hT0⟩ : ∃ T, T = totI (fuOf r p none 0) := ⟨_, rfl⟩
  obtain ⟨C, hC0⟩ : ∃ C, C = kepI (fuOf r p none 0) := ⟨_, rfl⟩
  obtain ⟨L, hL0⟩ : ∃ L, L = lefI (fuOf r p none 0) := ⟨_, rfl⟩
  obtain ⟨PL, hPL0⟩ : ∃ PL, PL = placesL (fuOf r p none 0) := ⟨_, rfl⟩
  obtain ⟨GS, hGS0⟩ : ∃ GS, GS = orderL (fuOf r p none 0) [] := ⟨_, rfl⟩
  rw [← hT0, ← hC0, ← hL0] at HPOT
  rw [← hPL0] at HPC
  rw [← hGS0] at HORD
  rw [← hL0] at hLb
  rw [← hPL0, ← hGS0] at HOK
  rw [← hPL0, ← hGS0, ← hL0] at HPOS
  rw [← hPL0, ← hGS0, ← hL0] at HPP
  obtain ⟨rs, hrs⟩ : ∃ rs, rs = runners r p := ⟨_, rfl⟩
  obtain ⟨NL, hNL⟩ : ∃ NL, NL = namedL r p := ⟨_, rfl⟩
  rw [← hrs] at HNA HPP HNM hrl
  rw [← hNL] at HNA HNM
  have hr12 : rs.length ≤ 12 := by omega
  have hnl2 : NL.length = rs.length := by rw [hNL, hrs]; exact hnl
  have HNL := Lib.hid hnl2
  have hpl := HOK.out.pl
  have hgl := HOK.out.gl
  rw [hrv] at HNA HPC HPOT HORD ⊢
  obtain ⟨W1, hW1⟩ : ∃ W1, W1 = w.alloc (.cells #[.slice r.ra r.racers.length r.rc, .slice r.pa r.pools.length r.pc, .slice r.ta r.protests.length r.tc] 26) := ⟨_, rfl⟩
  have g1 : G w W1 := by rw [hW1]; exact (G.rf _).a _
  have B0 : Blk W1 w.heap.size 26 #[.slice r.ra r.racers.length r.rc, .slice r.pa r.pools.length r.pc, .slice r.ta r.protests.length r.tc] := by rw [hW1]; exact Blk.new _ _ _
  clear hT0 hC0 hL0 hPL0 hGS0 hrs hNL hnl hnl2 hrs0 hfin hf h hr hrv hrl h12 hp
  obtain ⟨i0, hi0, hz0, hz1, hz2⟩ := info_parts info40
  go_enter Tryz.func65, Tryz.ntmps65
  go_upto_region 1 with fail
  change Code.wp _ _ _ _ (w.alloc (.cells #[.slice r.ra r.racers.length r.rc, .slice r.pa r.pools.length r.pc, .slice r.ta r.protests.length r.tc] 26))
  rw [← hW1]
  clear hW1
  refine wp_region_Y (S := fun W' => G W1 W') 7 8 rfl (by kernel_rfl) (G.rf _).d (fun hS => ?_)
  have gd : G W1 W1.drew := (G.rf _).d
  generalize W1.drew = WD at *
  refine wpAnyY_take (i := 0) (v := ?_) rfl (by kernel_rfl) (by kernel_rfl) (by kernel_rfl) (by kernel_rfl) (fun _ _ _ h => h) (Or.inl ⟨by kernel_rfl, ?_⟩) hS ?_
  rotate_left
  · intro w' hSw; have s0 := (B0.keep hSw).cell 0; have s1 := (B0.keep hSw).cell 1; have s2 := (B0.keep hSw).cell 2; have s3 := (B0.keep hSw).lt; go_simp; with_reducible rfl
  try simp only [Act.put, List.getElem_toArray, List.getElem_cons_zero, List.getElem_cons_succ, List.setIfInBounds_toArray, List.set_cons_zero, List.set_cons_succ]
  refine wpAnyY_take (i := 1) (v := ?_) rfl (by kernel_rfl) (by kernel_rfl) (by kernel_rfl) (by kernel_rfl) (fun _ _ _ h => h) (Or.inl ⟨by kernel_rfl, ?_⟩) hS ?_
  rotate_left
  · intro w' hSw; go_simp; with_reducible rfl
  try simp only [Act.put, List.getElem_toArray, List.getElem_cons_zero, List.getElem_cons_succ, List.setIfInBounds_toArray, List.set_cons_zero, List.set_cons_succ]
  refine wpAnyY_take (i := 3) (v := ?_) rfl (by kernel_rfl) (by kernel_rfl) (by kernel_rfl) (by kernel_rfl) (fun _ _ _ h => h) (Or.inl ⟨by kernel_rfl, ?_⟩) hS ?_
  rotate_left
  · intro w' hSw; have s0 := (B0.keep hSw).cell 0; have s1 := (B0.keep hSw).cell 1; have s2 := (B0.keep hSw).cell 2; have s3 := (B0.keep hSw).lt; go_simp; with_reducible rfl
  try simp only [Act.put, List.getElem_toArray, List.getElem_cons_zero, List.getElem_cons_succ, List.setIfInBounds_toArray, List.set_cons_zero, List.set_cons_succ]
  refine wpAnyY_take (i := 4) (v := ?_) rfl (by kernel_rfl) (by kernel_rfl) (by kernel_rfl) (by kernel_rfl) (fun _ _ _ h => h) (Or.inl ⟨by kernel_rfl, ?_⟩) hS ?_
  rotate_left
  · intro w' hSw; go_simp; with_reducible rfl
  try simp only [Act.put, List.getElem_toArray, List.getElem_cons_zero, List.getElem_cons_succ, List.setIfInBounds_toArray, List.set_cons_zero, List.set_cons_succ]
  refine wpAnyY_oneSW (i := 2) (by kernel_rfl) rfl (by kernel_rfl) (fun K2 hK2 => ?_)
  go_simp
  refine (HNA.out _ (g1.t gd)).mono ?_
  rintro e w3 ⟨hG3, na, nc, rfl, hni⟩
  replace gd := gd.t hG3
  refine hK2.out _ _ gd (fun hS => ?_)
  clear hK2
  try simp only [Act.put, List.getElem_toArray, List.getElem_cons_zero, List.getElem_cons_succ, List.setIfInBounds_toArray, List.set_cons_zero, List.set_cons_succ]
  refine wpAnyY_oneSW (i := 5) (by kernel_rfl) rfl (by kernel_rfl) (fun K5 hK5 => ?_)
  go_simp
  refine (HPC.out _ (g1.t gd)).mono ?_
  rintro e w4 ⟨pa, pc, rfl, hpi, hG4⟩
  replace gd := gd.t hG4
  refine hK5.out _ _ gd (fun hS => ?_)
  clear hK5
  try simp only [Act.put, List.getElem_toArray, List.getElem_cons_zero, List.getElem_cons_succ, List.setIfInBounds_toArray, List.set_cons_zero, List.set_cons_succ]
  refine wpAnyY_take (i := 6) (v := ?_) rfl (by kernel_rfl) (by kernel_rfl) (by kernel_rfl) (by kernel_rfl) (fun _ _ _ h => h) (Or.inl ⟨by kernel_rfl, ?_⟩) hS ?_
  rotate_left
  · intro w' hSw; go_simp; with_reducible rfl
  try simp only [Act.put, List.getElem_toArray, List.getElem_cons_zero, List.getElem_cons_succ, List.setIfInBounds_toArray, List.set_cons_zero, List.set_cons_succ]
  refine wpAnyY_oneW (i := 7) (by kernel_rfl) rfl (by kernel_rfl) (by kernel_rfl) (fun K7 hK7 => ?_)
  go_simp
  refine hK7.out _ _ ?_
  clear hK7
  try simp only [Act.put, List.getElem_toArray, List.getElem_cons_zero, List.getElem_cons_succ, List.setIfInBounds_toArray, List.set_cons_zero, List.set_cons_succ]
  have hni4 := hni.below hG4
  have g4 := g1.t gd
  have HB4 := Lib.hid (B0.keep gd)
  have HNI := Lib.hid hni4
  have HPI := Lib.hid hpi
  clear hS gd hG3 hG4 hni hni4 hpi B0 HNA HPC
  refine wpAnyY_done (by kernel_rfl) ?_ _
  go_wp2_with fail
  go_loopw [7, 8] (fun v i wr => ∃ (k : Nat), k ≤ rs.length ∧ i = .int .i64 k ∧ Hid (wr.ownsRow w4.heap.size 40 3 v k (cv Pz.v ((olF rs [] [] 0).take k))) ∧ Hid (G w4 wr)) (fun _ i _ => rs.length - (intOf i).toNat)
  case atStart => exact ⟨0, Nat.zero_le _, rfl, World.ownsRow_nil _ _ _ _, G.rf _⟩
  case round =>
    obtain ⟨k, hk, rfl, HO, HG⟩ := hrel
    obtain ⟨wk, rfl⟩ : ∃ wk, wk = wr := ⟨_, rfl⟩
    obtain ⟨oa, oc, rfl⟩ := own_slice HO.out
    by_cases hkl : k < rs.length
    · have hki : (k : Int) < rs.length := by omega
      have hnm := HNM.out k hkl
      rcases HNI.out with hx | ⟨gn, ofn, rfl, hgn, hnc⟩
      · rw [hx] at HNL; have := HNL.out; simp at this; omega
      have n0 := ((bcellB HG.out).1 gn _ hgn).trans (hnc k (by rw [HNL.out]; exact hkl))
      rw [hnm] at n0
      have HT := Lib.hid (olF_take rs hkl)
      obtain ⟨b, hb⟩ : ∃ b, b = (rs.getD k default).bird := ⟨_, rfl⟩
      rw [← hb] at n0 HT
      have ln : gn < wk.heap.size := Nat.lt_of_lt_of_le hgn HG.out.size
      clear hb hnm hnc
      have HOA := Lib.hid (own_G HO.out ((G.rf wk).a (.cells #[.int .i64 b, .int .i64 0, .int .i64 0] 40)))
      go_wp2_with (at_builtin; refine wpList_append_own _ rfl _ _ 36 rfl w4.heap.size 40 i0 (.agg #[.int .i64 0, .int .i64 0, .int .i64 0]) 3 24 Tryz.underlying36 hi0 hz0 hz1 hz2 rfl (by decide) _ k (cv Pz.v ((olF rs [] [] 0).take k)) rfl HOA.out ⟨wk.heap.size, 0, none⟩ 1 1 [.int .i64 b, .int .i64 0, .int .i64 0] rfl rfl (cell_new5 _ _ _) (by simp [Value.oneCell']) (by unfold maxLen; omega) (by omega) (by have h1 := HG.out.size; simp only [World.alloc, Array.size_push]; omega) ?_; intro v9 w9 hown9 hg9 hnil9)
      have HG9 := Lib.hid (grow_own (HG.out.a (.cells #[.int .i64 b, .int .i64 0, .int .i64 0] 40)) HOA.out (Nat.le_refl _) hg9)
      have HN9 := Lib.hid hown9
      clear hown9 hg9 HOA
      go_wp2_with fail
      go_roundw
      case rel => exact ⟨k + 1, by omega, by go_num, by rw [HT.out, cv_snoc]; exact HN9.out, HG9.out⟩
      case measure => simp [intOf] <;> omega
    obtain rfl : k = rs.length := by omega
    have hki : ¬ ((rs.length : Nat) : Int) < rs.length := by omega
    have HO2 : Hid (wk.ownsRow w4.heap.size 40 3 (.slice oa rs.length oc) rs.length (cv Pz.v (olF rs [] [] 0))) := by
      have := HO.out
      have e : (olF rs [] [] 0).take rs.length = olF rs [] [] 0 := List.take_of_length_le (by rw [olF_len]; exact Nat.le_refl _)
      rw [e] at this
      exact this
    have gk := g4.t HG.out
    have m0 := (HB4.out.keep HG.out).cell 0
    have m1 := (HB4.out.keep HG.out).cell 1
    have m2 := (HB4.out.keep HG.out).cell 2
    have lm := (HB4.out.keep HG.out).lt
    go_upto_region 8 with (go_at_call 64; refine (HPOT.out _ gk).mono ?_; rintro e w5 ⟨rfl, hG5⟩)
    clear m0 m1 m2 lm HPOT
    have g5 := gk.t hG5
    have g45 := HG.out.t hG5
    have m0 := (HB4.out.keep g45).cell 0
    have m1 := (HB4.out.keep g45).cell 1
    have m2 := (HB4.out.keep g45).cell 2
    have lm := (HB4.out.keep g45).lt
    go_upto_region 9 with (go_at_call 67; refine (HORD.out _ g5).mono ?_; rintro e w6 ⟨va, vc, cs, rfl, hrw, hG6⟩)
    clear m0 m1 m2 lm HORD
    have g46 := g45.t hG6
    have HO6 := Lib.hid (own_G HO2.out (hG5.t hG6))
    have HG46 := Lib.hid g46
    have HRW := Lib.hid hrw
    clear HO HO2 HG gk hG5 hG6 g5 g45 g46 hrw hki
    have HBS : Hid (∀ g, oa = some ⟨g, 0, none⟩ → w4.heap.size ≤ g) := fun g e => own_base HO6.out (by rw [e]; rfl)
    have HGR : Hid (∀ j, j < GS.length → ∃ go ga gc, va = some ⟨go, 0, none⟩ ∧ ∀ W', Fr (fun i => oa = some ⟨i, 0, none⟩) w6 W' → go < W'.heap.size ∧ W'.cell? ⟨go, j, none⟩ = some (.slice ga (GS.getD j []).length gc) ∧ IntsAt W' ga (GS.getD j [])) := fun j hj => grp_Fr2 HRW.out HO6.out hj
    have HGW : Hid (∀ W, Fr (fun i => oa = some ⟨i, 0, none⟩) w6 W → G w4 W) := fun W hF => G_Fr HG46.out hF HBS.out
    clear HRW HG46
    go_wp2_with fail
    go_loopw [9, 10, 12] (fun a b c wr => ∃ (j nx : Nat) (rest : Int), j ≤ GS.length ∧ a = .int .i64 nx ∧ b = .int .i64 rest ∧ c = .int .i64 j ∧ Hid (nx = nxt GS j) ∧ Hid (rest = L - sndS (wst PL GS j).2) ∧ Hid (wr.ownsRow w4.heap.size 40 3 (.slice oa rs.length oc) rs.length (cv Pz.v (olF rs (wst PL GS j).2 (wst PL GS j).2 0))) ∧ Hid (Fr (fun i => oa = some ⟨i, 0, none⟩) w6 wr)) (fun _ _ c _ => GS.length - (intOf c).toNat)
    case atStart => exact ⟨0, 0, L, Nat.zero_le _, rfl, rfl, rfl, rfl, by show _ = _; simp [wst, sndS], HO6.out, Fr.rf _ _⟩
    case round =>
      obtain ⟨j, nx, rest, hj, rfl, rfl, rfl, HNX, HRS, HOR, HF⟩ := hrel
      obtain ⟨wg, rfl⟩ : ∃ wg, wg = wr := ⟨_, rfl⟩
      by_cases hjl : j < GS.length
      rotate_left
      · obtain rfl : j = GS.length := by omega
        have hji : ¬ ((GS.length : Nat) : Int) < GS.length := by omega
        have hsb := sndS_bd HOK.out (Nat.le_refl GS.length)
        have hrb : -1000000000 ≤ rest ∧ rest ≤ 1200000 := by have := HRS.out; omega
        obtain ⟨PS, hPS⟩ : ∃ PS, PS = (wst PL GS GS.length).2 := ⟨_, rfl⟩
        have HLE := HPOS
        rw [← hPS] at HOR HRS HPP HLE
        have hr0 : 0 ≤ rest := by have := HRS.out; have := HLE.out; omega
        rw [← HRS.out] at HPP
        rw [blF_zero rs PS rest] at HOR
        clear HRS HLE HPOS hsb hPS
        have gk := HGW.out _ HF.out
        obtain ⟨nn, hnn⟩ : ∃ nn, nn = rs.length := ⟨_, rfl⟩
        go_upto_region 30 with (go_at_call 88; refine (shared_any8 rest rs.length _ ⟨hr0, by omega⟩ (by omega)).mono ?_; rintro e w7 ⟨sv, rfl, hso, hG7⟩)
        obtain ⟨sa, sc, rfl⟩ := own_slice hso
        have HSO := Lib.hid hso
        have HOR7 := Lib.hid (own_G HOR.out hG7)
        have HF7 := Lib.hid (gk.t hG7)
        clear hso hG7 HOR hnn gk nn
        have HSI : Hid (∀ W, Fr (fun i => oa = some ⟨i, 0, none⟩) w7 W → ∃ c, IntsAt W sa ((List.range rs.length).map (shareI rest rs.length))) := fun W hF => by
          have h1 := own_Fr40 HSO.out HOR7.out (by decide) hF
          have hl : ((List.range rs.length).map (shareI rest rs.length)).length = rs.length := by simp
          rw [← hl] at h1
          obtain ⟨a, c, e, hI⟩ := own_ints (by rw [hl] at h1 ⊢; exact h1)
          injection e with e1 _ _
          rw [e1]
          exact ⟨0, hI⟩
        clear HSO
        go_wp2_with fail
        go_loopw [19] (fun i wr => ∃ (k : Nat), k ≤ rs.length ∧ i = .int .i64 k ∧ Hid (wr.ownsRow w4.heap.size 40 3 (.slice oa rs.length oc) rs.length (cv Pz.v (blF rs PS rest k))) ∧ Hid (Fr (fun i => oa = some ⟨i, 0, none⟩) w7 wr)) (fun i _ => rs.length - (intOf i).toNat)
        case atStart => exact ⟨0, Nat.zero_le _, rfl, HOR7.out, Fr.rf _ _⟩
        case round =>
          obtain ⟨k, hk, rfl, HO, HFK⟩ := hrel
          obtain ⟨wk, rfl⟩ : ∃ wk, wk = wr := ⟨_, rfl⟩
          by_cases hkl : k < rs.length
          · have hki : (k : Int) < rs.length := by omega
            obtain ⟨og, ocap, ocur, hov, hob, hol, hot⟩ := own_some HO.out (by omega)
            injection hov with e1 _ e3
            subst e1 e3
            have HOB := HO
            have hlen := blF_len rs PS rest k
            have hO2 : wk.ownsRow w4.heap.size 40 3 (.slice (some ⟨og, 0, none⟩) (blF rs PS rest k).length oc) (blF rs PS rest k).length (cv Pz.v (blF rs PS rest k)) := by rw [hlen]; exact HO.out
            obtain ⟨c0, c1, c2, z1, z2, lo, lb, _⟩ := pz_cell hO2 (i := k) (by rw [hlen]; exact hkl)
            have hget := blF_get rs PS rest k hkl
            have hp1 := pz_put1 (i := k) (j := 2) (v := .int .i64 (shareI rest rs.length k)) (y := ⟨(rs.getD k default).bird, wonAt PS (rs.getD k default).bird, shareI rest rs.length k⟩) hO2 (by rw [hlen]; exact hkl) (by decide) (by rw [hget]; rfl)
            rw [hlen, ← blF_set rs PS rest hkl] at hp1
            obtain ⟨bk, hbk⟩ : ∃ bk, bk = ((blF rs PS rest k).getD k default).back := ⟨_, rfl⟩
            rw [← hbk] at c2
            obtain ⟨_, hsi⟩ := HSI.out _ HFK.out
            rcases hsi with hx | ⟨gs, ofs, rfl, hgs, hsc⟩
            · have e := congrArg List.length hx; rw [List.length_map, List.length_range] at e; have e2 : rs.length = 0 := e; omega
            have s0 := hsc k (by simpa using hkl)
            rw [iv_share rest rs.length k hkl] at s0
            obtain ⟨sk, hsk⟩ : ∃ sk, sk = shareI rest rs.length k := ⟨_, rfl⟩
            rw [← hsk] at s0 hp1
            have HP1 := Lib.hid hp1
            have HFS := Lib.hid (HFK.out.s (p := ⟨og, k * 3 + 2, none⟩) (.inl rfl) (.int .i64 sk))
            clear hob hot HO HOB hO2 c0 c1 z1 lb hget hbk hsc hsk hp1 HFK hlen
            go_wp2_with fail
            go_roundw
            case rel => exact ⟨k + 1, by omega, by go_num, HP1.out, HFS.out⟩
            case measure => simp [intOf] <;> omega
          · obtain rfl : k = rs.length := by omega
            have hki : ¬ ((rs.length : Nat) : Int) < rs.length := by omega
            have HFF := Lib.hid (HPP.out wk (.slice oa rs.length oc) (by rw [blF_len]; exact own_weaken HO.out g4.size) (g4.t (G_Fr HF7.out HFK.out HBS.out)))
            clear HPP HO HFK HSI
            go_wp2_with fail
            first | exact HFF.out | (go_ret; exact HFF.out)
      have hji : (j : Int) < GS.length := by omega
      have hgb := grp_bd HOK.out hjl
      have hnb := nxt_le HOK.out j
      have hnx : nx ≤ 144 := by have := HNX.out; omega
      obtain ⟨go, ga, gc, hve, hgall⟩ := HGR.out j hjl
      have HVE := Lib.hid hve
      have HGA := Lib.hid hgall
      clear hgall hve
      obtain ⟨hgo, hgc, hgi⟩ := HGA.out _ HF.out
      have hve := HVE.out
      subst hve
      obtain ⟨gr, hgr⟩ : ∃ gr, gr = GS.getD j [] := ⟨_, rfl⟩
      have HGE := Lib.hid hgr
      rw [← hgr] at hgb hgc hgi HGA
      clear hgr hgi HVE
      have hgcj : wg.cell? ⟨go, j, none⟩ = some (.slice ga gr.length gc) := hgc
      have gk := HGW.out _ HF.out
      have HSB := Lib.hid (fun i => sumP_bd HOK.out nx i)
      clear hgc
      go_wp2_with fail
      go_loopw [9, 13, 14] (fun a b c wr => ∃ (i m : Nat) (s : Int), i ≤ gr.length ∧ m ≤ nx + i ∧ nx + i ≤ m ∧ a = .int .i64 m ∧ b = .int .i64 s ∧ c = .int .i64 i ∧ Hid (s = sumP PL nx i) ∧ wr = wg) (fun _ _ c _ => gr.length - (intOf c).toNat)
      case atStart => exact ⟨0, nx, 0, Nat.zero_le _, by omega, by omega, rfl, rfl, rfl, (sumP_zero PL nx).symm, rfl⟩
      case round =>
        obtain ⟨i, m, s, hi, hm1, hm2, rfl, rfl, rfl, HS, rfl⟩ := hrel
        have hsb := HSB.out i
        rw [← HS.out] at hsb
        by_cases hil : i < gr.length
        rotate_left
        · obtain rfl : i = gr.length := by omega
          have hii : ¬ ((gr.length : Nat) : Int) < gr.length := by omega
          obtain ⟨wg, rfl⟩ : ∃ wg, wg = wr := ⟨_, rfl⟩
          go_upto_region 20 with (go_at_call 88; refine (shared_any8 s gr.length _ ⟨hsb.1, by omega⟩ (by omega)).mono ?_; rintro e w7 ⟨sv, rfl, hso, hG7⟩)
          obtain ⟨sa, sc, rfl⟩ := own_slice hso
          have HSO := Lib.hid hso
          have HOR7 := Lib.hid (own_G HOR.out hG7)
          have HF7 := Lib.hid (HF.out.g hG7)
          have HSI : Hid (∀ W, Fr (fun i => oa = some ⟨i, 0, none⟩) w7 W → IntsAt W sa ((List.range gr.length).map (shareI s gr.length))) := fun W hF => by
            have h1 := own_Fr40 HSO.out HOR7.out (by decide) hF
            have hl : ((List.range gr.length).map (shareI s gr.length)).length = gr.length := by simp
            obtain ⟨a, c, e, hI⟩ := own_ints (by rw [hl]; exact h1)
            injection e with e1 _ _
            rw [e1]
            exact hI
          have HA0 := Lib.hid (accP_zero PL GS j)
          have HAS : Hid (∀ i, i < gr.length → accP PL GS j (i + 1) = accP PL GS j i ++ [(gr.getD i 0, shareI s gr.length i)]) := fun i hi => by
            have := accP_succ PL GS j (i := i) (by rw [← HGE.out]; exact hi)
            rw [← HGE.out, ← HNX.out, ← HS.out] at this
            exact this
          have HAE : Hid (accP PL GS j gr.length = (wst PL GS (j + 1)).2) := by
            have := accP_all PL GS j
            rw [← HGE.out] at this
            exact this
          have HFR : Hid (∀ i, i < gr.length → ((accP PL GS j i).any fun p => p.1 == gr.getD i 0) = false) := fun i hi => by
            have := fresh HOK.out.keys hjl (i := i) (by rw [← HGE.out]; exact hi) PL
            rw [← HGE.out] at this
            unfold accP
            rw [← HGE.out]
            exact this
          have HST : Hid (sndS (wst PL GS (j + 1)).2 = sndS (wst PL GS j).2 + s) := by
            have := sndS_step HOK.out hjl
            rw [← HGE.out, ← HNX.out, ← HS.out] at this
            exact this
          have HNE : Hid (nxt GS (j + 1) = nx + gr.length) := by
            show nxt GS j + (GS.getD j []).length = _
            rw [← HGE.out, ← HNX.out]
          have hbj := sndS_bd HOK.out hj
          have hrb : -2000000000 ≤ rest ∧ rest ≤ 1200000 := by have := HRS.out; omega
          have HGW7 : Hid (∀ W, Fr (fun i => oa = some ⟨i, 0, none⟩) w7 W → go < W.heap.size ∧ W.cell? ⟨go, j, none⟩ = some (.slice ga gr.length gc) ∧ IntsAt W ga gr) := fun W hF => HGA.out W (HF7.out.t hF)
          have x1 : IntKind.i64.wrap (rest - s) = rest - s := IntWalk.i64_in _ (by omega)
          clear hso hG7 HSO HOR HF HSB HGA hgcj hgo gk
          go_wp2_with fail
          go_loopw [16] (fun i wr => ∃ (k : Nat), k ≤ gr.length ∧ i = .int .i64 k ∧ Hid (wr.ownsRow w4.heap.size 40 3 (.slice oa rs.length oc) rs.length (cv Pz.v (olF rs (accP PL GS j k) (accP PL GS j k) 0))) ∧ Hid (Fr (fun i => oa = some ⟨i, 0, none⟩) w7 wr)) (fun i _ => gr.length - (intOf i).toNat)
          case atStart => exact ⟨0, Nat.zero_le _, rfl, by rw [HA0.out]; exact HOR7.out, Fr.rf _ _⟩
          case round =>
            obtain ⟨i2, hi2, rfl, HOI, HFI⟩ := hrel
            obtain ⟨wi, rfl⟩ : ∃ wi, wi = wr := ⟨_, rfl⟩
            obtain ⟨lgo, hgcj, hgi⟩ := HGW7.out _ HFI.out
            by_cases hi2l : i2 < gr.length
            rotate_left
            · obtain rfl : i2 = gr.length := by omega
              have hii2 : ¬ ((gr.length : Nat) : Int) < gr.length := by omega
              rw [HAE.out] at HOI
              clear hgi
              go_wp2_with fail
              go_roundw
              case rel => exact ⟨j + 1, m, rest - s, by omega, rfl, rfl, by go_num, by show _ = _; rw [HNE.out]; omega, by show _ = _; rw [HST.out, HRS.out]; omega, HOI.out, HF7.out.t HFI.out⟩
              case measure => simp [intOf] <;> omega
            have hii2 : (i2 : Int) < gr.length := by omega
            rcases hgi with hx | ⟨gg, ofg, rfl, hgg, hgcell⟩
            · rw [hx] at hi2l; simp at hi2l
            have HGG : Hid (∀ W, Fr (fun i => oa = some ⟨i, 0, none⟩) w7 W → gg < W.heap.size ∧ W.cell? ⟨gg, ofg + i2, none⟩ = some (.int .i64 (gr.getD i2 0))) := fun W hF => by
              obtain ⟨_, _, h3⟩ := HGW7.out W hF
              rcases h3 with hx | ⟨g', o', e, l', c'⟩
              · rw [hx] at hi2l; simp at hi2l
              · injection e with e
                injection e with e1 e2 _
                subst e1 e2
                exact ⟨l', c' i2 hi2l⟩
            have HA1 := Lib.hid (HAS.out i2 hi2l)
            have HFU := Lib.hid (HFR.out i2 hi2l)
            obtain ⟨gb, hgbE⟩ : ∃ gb, gb = gr.getD i2 0 := ⟨_, rfl⟩
            rw [← hgbE] at HGG HA1 HFU
            obtain ⟨AC, hAC⟩ : ∃ AC, AC = accP PL GS j i2 := ⟨_, rfl⟩
            rw [← hAC] at HOI HA1 HFU
            clear hgbE hAC hgcell hgg
            go_wp2_with fail
            go_loopw [17] (fun i wr => ∃ (k : Nat), k ≤ rs.length ∧ i = .int .i64 k ∧ Hid (wr.ownsRow w4.heap.size 40 3 (.slice oa rs.length oc) rs.length (cv Pz.v (olF rs (AC ++ [(gb, shareI s gr.length i2)]) AC k))) ∧ Hid (Fr (fun i => oa = some ⟨i, 0, none⟩) w7 wr)) (fun i _ => rs.length - (intOf i).toNat)
            case atStart => exact ⟨0, Nat.zero_le _, rfl, by rw [olF_any rs _ AC AC]; exact HOI.out, HFI.out⟩
            case round =>
              obtain ⟨k, hk, rfl, HO, HFK⟩ := hrel
              obtain ⟨wk, rfl⟩ : ∃ wk, wk = wr := ⟨_, rfl⟩
              by_cases hkl : k < rs.length
              rotate_left
              · obtain rfl : k = rs.length := by omega
                have hki : ¬ ((rs.length : Nat) : Int) < rs.length := by omega
                rw [olF_end, ← HA1.out] at HO
                go_wp2_with fail
                go_roundw
                case rel => exact ⟨i2 + 1, by omega, by go_num, HO.out, HFK.out⟩
                case measure => simp [intOf] <;> omega
              have hki : (k : Int) < rs.length := by omega
              obtain ⟨og, ocap, ocur, hov, hob, hol, hot⟩ := own_some HO.out (by omega)
              injection hov with e1 _ e3
              have HOV := Lib.hid e1
              clear e3 hob hot hol lgo hgcj
              subst e1
              have hlen := olF_len rs (AC ++ [(gb, shareI s gr.length i2)]) AC k
              have hO2 : wk.ownsRow w4.heap.size 40 3 (.slice (some ⟨og, 0, none⟩) (olF rs (AC ++ [(gb, shareI s gr.length i2)]) AC k).length oc) (olF rs (AC ++ [(gb, shareI s gr.length i2)]) AC k).length (cv Pz.v (olF rs (AC ++ [(gb, shareI s gr.length i2)]) AC k)) := by rw [hlen]; exact HO.out
              obtain ⟨c0, c1, c2, z1, z2, lo, lb, _⟩ := pz_cell hO2 (i := k) (by rw [hlen]; exact hkl)
              have hget := olF_get rs (AC ++ [(gb, shareI s gr.length i2)]) AC k hkl
              have hget0 : ((olF rs (AC ++ [(gb, shareI s gr.length i2)]) AC k).getD k default).bird = (rs.getD k default).bird := by rw [hget]
              have HGV : Hid ((rs.getD k default).bird = gb → (Pz.v ⟨gb, shareI s gr.length i2, 0⟩).toList = (Pz.v ((olF rs (AC ++ [(gb, shareI s gr.length i2)]) AC k).getD k default)).toList.set 1 (.int .i64 (shareI s gr.length i2))) := fun e => by rw [hget, ← e]; rfl
              have HSE : Hid ((rs.getD k default).bird = gb → (olF rs (AC ++ [(gb, shareI s gr.length i2)]) AC k).set k ⟨gb, shareI s gr.length i2, 0⟩ = olF rs (AC ++ [(gb, shareI s gr.length i2)]) AC (k + 1)) := fun e => (olF_set hkl e HFU.out).symm
              have HSAME : Hid ((rs.getD k default).bird ≠ gb → olF rs (AC ++ [(gb, shareI s gr.length i2)]) AC (k + 1) = olF rs (AC ++ [(gb, shareI s gr.length i2)]) AC k) := fun e => olF_same hkl e
              rw [hget0] at c0
              obtain ⟨zb, hzb⟩ : ∃ zb, zb = (rs.getD k default).bird := ⟨_, rfl⟩
              obtain ⟨zw, hzw⟩ : ∃ zw, zw = ((olF rs (AC ++ [(gb, shareI s gr.length i2)]) AC k).getD k default).won := ⟨_, rfl⟩
              rw [← hzb] at c0 HSE HGV HSAME
              rw [← hzw] at c1
              obtain ⟨lgo, hgcj, _⟩ := HGW7.out _ HFK.out
              obtain ⟨lgg, hgb0⟩ := HGG.out _ HFK.out
              clear hlen hO2 c2 z2 lb hget hget0 hzb hzw
              go_upto_region 26 with fail
              refine wp_region_Y (S := fun W' => G wk W') 12 13 rfl (by kernel_rfl) (G.rf _).d (fun hS => ?_)
              have gd : G wk wk.drew := (G.rf _).d
              generalize wk.drew = WD at *
              refine wpAnyY_take (i := 0) (v := ?_) rfl (by kernel_rfl) (by kernel_rfl) (by kernel_rfl) (by kernel_rfl) (fun _ _ _ h => h) (Or.inl ⟨by kernel_rfl, ?_⟩) hS ?_
              rotate_left
              · intro w' hSw; go_simp; with_reducible rfl
              try simp only [Act.put, List.getElem_toArray, List.getElem_cons_zero, List.getElem_cons_succ, List.setIfInBounds_toArray, List.set_cons_zero, List.set_cons_succ]
              refine wpAnyY_take (i := 1) (v := ?_) rfl (by kernel_rfl) (by kernel_rfl) (by kernel_rfl) (by kernel_rfl) (fun _ _ _ h => h) (Or.inl ⟨by kernel_rfl, ?_⟩) hS ?_
              rotate_left
              · intro w' hSw; go_simp; with_reducible rfl
              try simp only [Act.put, List.getElem_toArray, List.getElem_cons_zero, List.getElem_cons_succ, List.setIfInBounds_toArray, List.set_cons_zero, List.set_cons_succ]
              refine wpAnyY_take (i := 2) (v := ?_) rfl (by kernel_rfl) (by kernel_rfl) (by kernel_rfl) (by kernel_rfl) (fun _ _ _ h => h) (Or.inl ⟨by kernel_rfl, ?_⟩) hS ?_
              rotate_left
              · intro w' hSw; go_simp; with_reducible rfl
              try simp only [Act.put, List.getElem_toArray, List.getElem_cons_zero, List.getElem_cons_succ, List.setIfInBounds_toArray, List.set_cons_zero, List.set_cons_succ]
              refine wpAnyY_take (i := 3) (v := ?_) rfl (by kernel_rfl) (by kernel_rfl) (by kernel_rfl) (by kernel_rfl) (fun _ _ _ h => h) (Or.inl ⟨by kernel_rfl, ?_⟩) hS ?_
              rotate_left
              · intro w' hSw; go_simp; with_reducible rfl
              try simp only [Act.put, List.getElem_toArray, List.getElem_cons_zero, List.getElem_cons_succ, List.setIfInBounds_toArray, List.set_cons_zero, List.set_cons_succ]
              refine wpAnyY_take (i := 4) (v := ?_) rfl (by kernel_rfl) (by kernel_rfl) (by kernel_rfl) (by kernel_rfl) (fun _ _ _ h => h) (Or.inl ⟨by kernel_rfl, ?_⟩) hS ?_
              rotate_left
              · intro w' hSw; have s0 := ((bcellB hSw).1 og _ lo).trans c0; have s1 : og < w'.heap.size := Nat.lt_of_lt_of_le lo hSw.size; go_simp; with_reducible rfl
              try simp only [Act.put, List.getElem_toArray, List.getElem_cons_zero, List.getElem_cons_succ, List.setIfInBounds_toArray, List.set_cons_zero, List.set_cons_succ]
              refine wpAnyY_take (i := 5) (v := ?_) rfl (by kernel_rfl) (by kernel_rfl) (by kernel_rfl) (by kernel_rfl) (fun _ _ _ h => h) (Or.inl ⟨by kernel_rfl, ?_⟩) hS ?_
              rotate_left
              · intro w' hSw; go_simp; with_reducible rfl
              try simp only [Act.put, List.getElem_toArray, List.getElem_cons_zero, List.getElem_cons_succ, List.setIfInBounds_toArray, List.set_cons_zero, List.set_cons_succ]
              refine wpAnyY_take (i := 6) (v := ?_) rfl (by kernel_rfl) (by kernel_rfl) (by kernel_rfl) (by kernel_rfl) (fun _ _ _ h => h) (Or.inl ⟨by kernel_rfl, ?_⟩) hS ?_
              rotate_left
              · intro w' hSw; go_simp; with_reducible rfl
              try simp only [Act.put, List.getElem_toArray, List.getElem_cons_zero, List.getElem_cons_succ, List.setIfInBounds_toArray, List.set_cons_zero, List.set_cons_succ]
              refine wpAnyY_take (i := 7) (v := ?_) rfl (by kernel_rfl) (by kernel_rfl) (by kernel_rfl) (by kernel_rfl) (fun _ _ _ h => h) (Or.inl ⟨by kernel_rfl, ?_⟩) hS ?_
              rotate_left
              · intro w' hSw; go_simp; with_reducible rfl
              try simp only [Act.put, List.getElem_toArray, List.getElem_cons_zero, List.getElem_cons_succ, List.setIfInBounds_toArray, List.set_cons_zero, List.set_cons_succ]
              refine wpAnyY_take (i := 8) (v := ?_) rfl (by kernel_rfl) (by kernel_rfl) (by kernel_rfl) (by kernel_rfl) (fun _ _ _ h => h) (Or.inl ⟨by kernel_rfl, ?_⟩) hS ?_
              rotate_left
              · intro w' hSw; have s0 := ((bcellB hSw).1 go _ lgo).trans hgcj; have s1 : go < w'.heap.size := Nat.lt_of_lt_of_le lgo hSw.size; go_simp; with_reducible rfl
              try simp only [Act.put, List.getElem_toArray, List.getElem_cons_zero, List.getElem_cons_succ, List.setIfInBounds_toArray, List.set_cons_zero, List.set_cons_succ]
              refine wpAnyY_take (i := 9) (v := ?_) rfl (by kernel_rfl) (by kernel_rfl) (by kernel_rfl) (by kernel_rfl) (fun _ _ _ h => h) (Or.inl ⟨by kernel_rfl, ?_⟩) hS ?_
              rotate_left
              · intro w' hSw; go_simp; with_reducible rfl
              try simp only [Act.put, List.getElem_toArray, List.getElem_cons_zero, List.getElem_cons_succ, List.setIfInBounds_toArray, List.set_cons_zero, List.set_cons_succ]
              refine wpAnyY_take (i := 10) (v := ?_) rfl (by kernel_rfl) (by kernel_rfl) (by kernel_rfl) (by kernel_rfl) (fun _ _ _ h => h) (Or.inl ⟨by kernel_rfl, ?_⟩) hS ?_
              rotate_left
              · intro w' hSw; go_simp; with_reducible rfl
              try simp only [Act.put, List.getElem_toArray, List.getElem_cons_zero, List.getElem_cons_succ, List.setIfInBounds_toArray, List.set_cons_zero, List.set_cons_succ]
              refine wpAnyY_take (i := 11) (v := ?_) rfl (by kernel_rfl) (by kernel_rfl) (by kernel_rfl) (by kernel_rfl) (fun _ _ _ h => h) (Or.inl ⟨by kernel_rfl, ?_⟩) hS ?_
              rotate_left
              · intro w' hSw; have s0 := ((bcellB hSw).1 gg _ lgg).trans hgb0; have s1 : gg < w'.heap.size := Nat.lt_of_lt_of_le lgg hSw.size; go_simp; with_reducible rfl
              try simp only [Act.put, List.getElem_toArray, List.getElem_cons_zero, List.getElem_cons_succ, List.setIfInBounds_toArray, List.set_cons_zero, List.set_cons_succ]
              refine wpAnyY_oneW (i := 12) (by kernel_rfl) rfl (by kernel_rfl) (by kernel_rfl) (fun K12 hK12 => ?_)
              go_simp
              refine hK12.out _ _ ?_
              clear hK12
              try simp only [Act.put, List.getElem_toArray, List.getElem_cons_zero, List.getElem_cons_succ, List.setIfInBounds_toArray, List.set_cons_zero, List.set_cons_succ]
              refine wpAnyY_done (by kernel_rfl) ?_ _
              have HFD := Lib.hid (HFK.out.g gd)
              have HOD := Lib.hid (own_G HO.out gd)
              by_cases he : zb = gb
              · have hb : (zb == gb) = true := by simpa using he
                have c1d := ((bcellB gd).1 og _ lo).trans c1
                have z1d := ((bcellB gd).2 og _ lo).trans z1
                have lod : og < WD.heap.size := Nat.lt_of_lt_of_le lo gd.size
                have HFS := Lib.hid (HFD.out.s (p := ⟨og, k * 3 + 1, none⟩) (.inl rfl) (.int .i64 (shareI s gr.length i2)))
                have hOD := own_G HO.out gd
                have hlen := olF_len rs (AC ++ [(gb, shareI s gr.length i2)]) AC k
                have hp1 := pz_put1 (i := k) (j := 1) (v := .int .i64 (shareI s gr.length i2)) (y := ⟨gb, shareI s gr.length i2, 0⟩) (B := w4.heap.size) (c := oc) (g := og) (L := olF rs (AC ++ [(gb, shareI s gr.length i2)]) AC k) (W := WD) (by rw [hlen]; exact hOD) (by rw [hlen]; exact hkl) (by decide) (HGV.out he)
                rw [hlen, HSE.out he] at hp1
                have HP1 := Lib.hid hp1
                rcases (HSI.out _ HFD.out) with hx | ⟨gs, ofs, hse, hgs, hsc⟩
                · have e := congrArg List.length hx; rw [List.length_map, List.length_range] at e; have e2 : gr.length = 0 := e; omega
                have s0 := hsc i2 (by simpa using hi2l)
                rw [iv_share s gr.length i2 hi2l] at s0
                subst hse
                obtain ⟨sk, hsk⟩ : ∃ sk, sk = shareI s gr.length i2 := ⟨_, rfl⟩
                rw [← hsk] at s0 HP1 HFS
                have HSK := Lib.hid hsk
                clear hsk
                clear hsc hOD hlen hp1 c0 c1 z1 lo HSAME lgo hgcj lgg hgb0 he HSE HGV
                go_wp2_with fail
                go_roundw
                case rel => exact ⟨k + 1, by omega, by go_num, by rw [← HSK.out]; exact HP1.out, HFS.out⟩
                case measure => simp [intOf] <;> omega
              · have hb : (zb == gb) = false := by simpa using he
                have HS1 := Lib.hid (HSAME.out he)
                clear c0 c1 z1 lo HSE HGV HSAME lgo hgcj lgg hgb0 he
                go_wp2_with fail
                go_roundw
                case rel => exact ⟨k + 1, by omega, by go_num, by rw [HS1.out]; exact HOD.out, HFD.out⟩
                case measure => simp [intOf] <;> omega
        have hii : (i : Int) < gr.length := by omega
        have hss := sumP_succ PL nx i
        have hsb2 := HSB.out (i + 1)
        by_cases hml : m < PL.length
        · have hmi : (m : Int) < PL.length := by omega
          rw [if_pos (by omega), ← HS.out, show nx + i = m by omega] at hss
          rcases HPI.out with hx | ⟨gp, ofp, rfl, hgp, hpc⟩
          · rw [hx] at hml; simp at hml
          have p0 := ((bcellB gk).1 gp _ hgp).trans (hpc m hml)
          have lp : gp < wr.heap.size := Nat.lt_of_lt_of_le hgp gk.size
          obtain ⟨y, hy⟩ : ∃ y, y = PL.getD m 0 := ⟨_, rfl⟩
          rw [← hy] at p0 hss
          rw [hss] at hsb2
          have x1 : IntKind.i64.wrap (s + y) = s + y := IntWalk.i64_in _ (by omega)
          have HSS := Lib.hid hss
          clear hy hpc hss
          go_wp2_with fail
          go_roundw
          case rel => exact ⟨i + 1, m + 1, s + y, by omega, by omega, by omega, by go_num, rfl, by go_num, HSS.out.symm, by first | trivial | rfl⟩
          case measure => simp [intOf] <;> omega
        · have hmi : ¬ (m : Int) < PL.length := by omega
          rw [if_neg (by omega), ← HS.out] at hss
          have HSS : Hid (s = sumP PL nx (i + 1)) := by show _ = _; omega
          clear hss
          go_wp2_with fail
          go_roundw
          case rel => exact ⟨i + 1, m + 1, s, by omega, by omega, by omega, by go_num, rfl, by go_num, HSS.out, by first | trivial | rfl⟩
          case measure => simp [intOf] <;> omega
end Go.Proofs.YtnkmcoljijmgpaaGreat

set_option linter.unusedSimpArgs false
set_option linter.unusedVariables false
namespace Go.Proofs.YtnkmcoljijmgpaaGreat
open Go.RowKit Go.Shelf Go.Sort Go.Maps
attribute [local go_sem] Oper.semAt_some
theorem q_in {r : Ra} {p : Int} (h : qE r p [] = 0) : raceB r = true ∧ ∃ n : Nat, p = (n : Int) ∧ n < r.pools.length := by
  obtain ⟨h1, h2⟩ := qE_parts h
  unfold isInB at h2
  simp only [Bool.and_eq_true, decide_eq_true_eq] at h2
  exact ⟨h1, p.toNat, by omega, by omega⟩
def OrPostR (r : Ra) (p : Int) (w : World) (e : Ending) (w' : World) : Prop := G w w' ∧ ((qE r p [] ≠ 0 ∧ e = .returned (.tuple #[.slice none 0 0, .int .i64 (qE r p [])])) ∨ (qE r p [] = 0 ∧ ∃ v cs, e = .returned (.tuple #[v, .int .i64 0]) ∧ RowsAt w' w.heap.size v (orderL (fuOf r p none 0) []) cs))
set_option maxRecDepth 100000 in
set_option maxHeartbeats 4000000 in
theorem rPlaces_any (r : Ra) (p : Int) (w : World) (h : r.At w) : Calls Tryz.prog 32 #[.agg r.v, .int .i64 p] w (PlPost r p w) := by
  have hrv : r.v = #[.slice r.ra r.racers.length r.rc, .slice r.pa r.pools.length r.pc, .slice r.ta r.protests.length r.tc] := rfl
  have HCK := Lib.hid (fun (W : World) (hW : G w W) => refc_any r p W (h.keep hW))
  have HE : Hid (qE r p [] ≠ 0 → ∀ W', G w W' → PlPost r p w (.returned (.tuple #[.slice none 0 0, .int .i64 (qE r p [])])) W') := fun a W' b => ⟨b, .inl ⟨a, rfl⟩⟩
  have HCL : Hid (qE r p [] = 0 → ∀ W, G w W → Calls Tryz.prog 66 #[.agg r.v, .int .i64 p] W fun e w' => ∃ v, e = .returned v ∧ w'.ownsRow W.heap.size 3 1 v (placesL (fuOf r p none 0)).length (iv (placesL (fuOf r p none 0))) ∧ G W w') := fun hq W hW => by
    obtain ⟨hr, n, rfl, hn⟩ := q_in hq
    exact places66_any r n W (h.keep hW) hr hn
  have HS : Hid (qE r p [] = 0 → ∀ W' v, G w W' → W'.ownsRow w.heap.size 3 1 v (placesL (fuOf r p none 0)).length (iv (placesL (fuOf r p none 0))) → PlPost r p w (.returned (.tuple #[v, .int .i64 0])) W') := fun a W' v b c => ⟨b, .inr ⟨a, v, rfl, c⟩⟩
  obtain ⟨PL, hPL⟩ : ∃ PL, PL = placesL (fuOf r p none 0) := ⟨_, rfl⟩
  rw [← hPL] at HS HCL
  clear hPL
  generalize PlPost r p w = PP at *
  clear h
  rw [hrv] at HCK HCL ⊢
  clear hrv
  obtain ⟨W1, hW1⟩ : ∃ W1, W1 = w.alloc (.cells #[.slice r.ra r.racers.length r.rc, .slice r.pa r.pools.length r.pc, .slice r.ta r.protests.length r.tc] 26) := ⟨_, rfl⟩
  have g1 : G w W1 := by rw [hW1]; exact (G.rf _).a _
  have b0 : Blk W1 w.heap.size 26 #[.slice r.ra r.racers.length r.rc, .slice r.pa r.pools.length r.pc, .slice r.ta r.protests.length r.tc] := by rw [hW1]; exact Blk.new _ _ _
  have m0 := b0.cell 0
  have m1 := b0.cell 1
  have m2 := b0.cell 2
  have l0 := b0.lt
  generalize hQE : qE r p [] = QE at *
  clear hQE
  go_enter Tryz.func32, Tryz.ntmps32
  go_upto_region 1 with fail
  change Code.wp _ _ _ _ (w.alloc (.cells #[.slice r.ra r.racers.length r.rc, .slice r.pa r.pools.length r.pc, .slice r.ta r.protests.length r.tc] 26))
  rw [← hW1]
  clear hW1
  by_cases hq : QE = 0
  · have HC2 := Lib.hid (HCL.out hq)
    have HS2 := Lib.hid (HS.out hq)
    clear HCL HS HE
    subst hq
    go_wp2_with (first | (go_at_call 63; refine (HCK.out _ g1).mono ?_; rintro e w2 ⟨rfl, hG2⟩; clear m0 m1 m2 l0; have m0 := (b0.keep hG2).cell 0; have m1 := (b0.keep hG2).cell 1; have m2 := (b0.keep hG2).cell 2; have l0 := (b0.keep hG2).lt) | (go_at_call 66; refine (HC2.out _ (g1.t hG2)).mono ?_; rintro e w3 ⟨v, rfl, ho3, hG3⟩))
    have gz := (g1.t hG2).t hG3
    have HF := HS2.out _ v gz (own_weaken ho3 (g1.t hG2).size)
    first | exact HF | (go_ret; exact HF) | (go_ret2; exact HF)
  · have e0 : (QE == 0) = false := by simpa using hq
    have e1 : (QE != 0) = true := by simpa using hq
    have HE2 := Lib.hid (HE.out hq)
    clear HCL HS HE
    go_wp2_with (go_at_call 63; refine (HCK.out _ g1).mono ?_; rintro e w2 ⟨rfl, hG2⟩)
    have HF := HE2.out _ (g1.t hG2)
    first | exact HF | (go_ret; exact HF) | (go_ret2; exact HF)
set_option maxRecDepth 100000 in
set_option maxHeartbeats 4000000 in
theorem rOrder_any (r : Ra) (p : Int) (w : World) (h : r.At w) : Calls Tryz.prog 33 #[.agg r.v, .int .i64 p] w (OrPostR r p w) := by
  have hrv : r.v = #[.slice r.ra r.racers.length r.rc, .slice r.pa r.pools.length r.pc, .slice r.ta r.protests.length r.tc] := rfl
  have HCK := Lib.hid (fun (W : World) (hW : G w W) => refc_any r p W (h.keep hW))
  have HE : Hid (qE r p [] ≠ 0 → ∀ W', G w W' → OrPostR r p w (.returned (.tuple #[.slice none 0 0, .int .i64 (qE r p [])])) W') := fun a W' b => ⟨b, .inl ⟨a, rfl⟩⟩
  have HCL : Hid (qE r p [] = 0 → ∀ W, G w W → Calls Tryz.prog 67 #[.agg r.v, .int .i64 p] W fun e w' => ∃ v cs, e = .returned v ∧ RowsAt w' W.heap.size v (orderL (fuOf r p none 0) []) cs ∧ G W w') := fun hq W hW => by
    obtain ⟨hr, n, rfl, hn⟩ := q_in hq
    exact order67_any r n W (h.keep hW) hr hn
  have HS : Hid (qE r p [] = 0 → ∀ W' v cs, G w W' → RowsAt W' w.heap.size v (orderL (fuOf r p none 0) []) cs → OrPostR r p w (.returned (.tuple #[v, .int .i64 0])) W') := fun a W' v cs b c => ⟨b, .inr ⟨a, v, cs, rfl, c⟩⟩
  obtain ⟨GS, hGS⟩ : ∃ GS, GS = orderL (fuOf r p none 0) [] := ⟨_, rfl⟩
  rw [← hGS] at HS HCL
  clear hGS
  generalize OrPostR r p w = PP at *
  clear h
  rw [hrv] at HCK HCL ⊢
  clear hrv
  obtain ⟨W1, hW1⟩ : ∃ W1, W1 = w.alloc (.cells #[.slice r.ra r.racers.length r.rc, .slice r.pa r.pools.length r.pc, .slice r.ta r.protests.length r.tc] 26) := ⟨_, rfl⟩
  have g1 : G w W1 := by rw [hW1]; exact (G.rf _).a _
  have b0 : Blk W1 w.heap.size 26 #[.slice r.ra r.racers.length r.rc, .slice r.pa r.pools.length r.pc, .slice r.ta r.protests.length r.tc] := by rw [hW1]; exact Blk.new _ _ _
  have m0 := b0.cell 0
  have m1 := b0.cell 1
  have m2 := b0.cell 2
  have l0 := b0.lt
  generalize hQE : qE r p [] = QE at *
  clear hQE
  go_enter Tryz.func33, Tryz.ntmps33
  go_upto_region 1 with fail
  change Code.wp _ _ _ _ (w.alloc (.cells #[.slice r.ra r.racers.length r.rc, .slice r.pa r.pools.length r.pc, .slice r.ta r.protests.length r.tc] 26))
  rw [← hW1]
  clear hW1
  by_cases hq : QE = 0
  · have HC2 := Lib.hid (HCL.out hq)
    have HS2 := Lib.hid (HS.out hq)
    clear HCL HS HE
    subst hq
    go_wp2_with (first | (go_at_call 63; refine (HCK.out _ g1).mono ?_; rintro e w2 ⟨rfl, hG2⟩; clear m0 m1 m2 l0; have m0 := (b0.keep hG2).cell 0; have m1 := (b0.keep hG2).cell 1; have m2 := (b0.keep hG2).cell 2; have l0 := (b0.keep hG2).lt) | (go_at_call 67; refine (HC2.out _ (g1.t hG2)).mono ?_; rintro e w3 ⟨v, cs, rfl, ho3, hG3⟩))
    have gz := (g1.t hG2).t hG3
    have HF := HS2.out _ v cs gz ⟨own_weaken ho3.out (g1.t hG2).size, fun i hi => own_weaken (ho3.inn i hi) (g1.t hG2).size⟩
    first | exact HF | (go_ret; exact HF) | (go_ret2; exact HF)
  · have e0 : (QE == 0) = false := by simpa using hq
    have e1 : (QE != 0) = true := by simpa using hq
    have HE2 := Lib.hid (HE.out hq)
    clear HCL HS HE
    go_wp2_with (go_at_call 63; refine (HCK.out _ g1).mono ?_; rintro e w2 ⟨rfl, hG2⟩)
    have HF := HE2.out _ (g1.t hG2)
    first | exact HF | (go_ret; exact HF) | (go_ret2; exact HF)
end Go.Proofs.YtnkmcoljijmgpaaGreat

