import Derived.Test.YtnkmcoljijmgpaaGreatAh
import Derived.Test.YtnkmcoljijmgpaaGreatAi
set_option linter.unusedSimpArgs false
set_option linter.unusedVariables false
namespace Go.Proofs.YtnkmcoljijmgpaaGreat
open Go.RowKit Go.Shelf
attribute [local go_sem] Oper.semAt_some
/-- the racers that are nominated, by ring -/
def runs (r : Ra) (p : Int) (k : Nat) : List Rc := (r.racers.take k).filter fun x => inL x.pools p
def runners (r : Ra) (p : Int) : List Rc := srt (r.racers.filter fun x => inL x.pools p)
def poolAt (r : Ra) (p : Int) : Po := r.pools.getD p.toNat default
def OpenPost (r : Ra) (p : Int) (w : World) (e : Ending) (w' : World) : Prop := ∃ fa fc, e = .returned (.agg (Fu.v ⟨poolAt r p, fa, fc, runners r p, r.ta, r.tc, r.protests⟩)) ∧ w'.ownsRow w.heap.size 60 5 (.slice fa (runners r p).length fc) (runners r p).length (rcV (runners r p)) ∧ G w w'
theorem runs_succ (r : Ra) (p : Int) {k : Nat} (h : k < r.racers.length) : runs r p (k + 1) = if inL (r.racers.getD k default).pools p = true then runs r p k ++ [r.racers.getD k default] else runs r p k := by
  unfold runs
  rw [List.take_add_one, List.filter_append, List.getElem?_eq_getElem h]
  have e : r.racers.getD k default = r.racers[k] := by simp [List.getD_eq_getElem?_getD, h]
  rw [e]
  cases hv : inL (r.racers[k]).pools p <;> simp [hv]
theorem runs_len (r : Ra) (p : Int) (k : Nat) : (runs r p k).length ≤ r.racers.length := by
  unfold runs
  exact Nat.le_trans (List.length_filter_le _ _) (by rw [List.length_take]; omega)
theorem uniq_filter {l : List Rc} (h : Uniq l) (f : Rc → Bool) : Uniq (l.filter f) := List.Pairwise.filter _ h
theorem own_away {X Y : World} {b N z g : Nat} {e : TypeId} {v : Value} {xs : List Value} (h : X.ownsRow b e z v N xs) (hF : ∀ b, b ≠ g → Y.heap[b]? = X.heap[b]?) (hne : some g ≠ v.ownBlock) : Y.ownsRow b e z v N xs := by
  refine ⟨h.1, ?_⟩
  rcases h.2 with hn | ⟨g', cap, cur, rfl, hb, hg, rest⟩
  · exact .inl hn
  · refine .inr ⟨g', cap, cur, rfl, hb, ?_, rest⟩
    rw [hF g' (fun e => hne (by rw [e]; rfl))]
    exact hg
theorem info60 : (Tryz.prog.info? 60).map (fun i => (i.zero, i.size, i.bytes)) = some (some (.agg #[.int .i64 0, .int .i64 0, .int .i64 0, .int .i64 0, .slice none 0 0]), 5, 56) := by kernel_rfl
theorem cell_new5 (w : World) (t : TypeId) (cs : Array Value) : ∀ j u, cs.toList[j]? = some u → (w.alloc (.cells cs t)).cell? ((⟨w.heap.size, 0, none⟩ : Addr).add j) = some u :=
  World.news_of_block (cs := cs) (t := t) (fr := (0, 0)) (heap_alloc_new w _)
set_option maxRecDepth 100000 in
set_option maxHeartbeats 8000000 in
theorem open_any (r : Ra) (p : Nat) (w : World) (h : r.At w) (hp : p < r.pools.length) (hu : Uniq r.racers) (h12 : r.racers.length ≤ 12) : Calls Tryz.prog 53 #[.agg r.v, .int .i64 (p : Nat)] w (OpenPost r p w) := by
  have HI := Lib.hid (fun (i : Nat) (hi : i < r.racers.length) (W : World) (hW : G w W) => contains_any (r.racers.getD i default).pools (r.racers.getD i default).pa (r.racers.getD i default).pc p W ((h.rs.below hW).pools i hi) (h.nq i hi))
  have hrow := h.rs.row
  have hcr := h.cr
  have hpb := h.ps.row
  have HSU := Lib.hid (fun (k : Nat) (hk : k < r.racers.length) => runs_succ r p hk)
  have HLE := Lib.hid (fun (k : Nat) => runs_len r p k)
  have HSO := Lib.hid (fun (W : World) (B : Nat) (v : Value) (ho : W.ownsRow B 60 5 v (runs r p r.racers.length).length (rcV (runs r p r.racers.length))) => sort_own (runs r p r.racers.length) (uniq_filter (by rw [List.take_length]; exact hu) _) (Nat.le_trans (runs_len r p _) (by omega)) W B v ho)
  have HR0 : Hid (runs r p 0 = []) := by simp [runs, Hid]
  have HPP : Hid (∀ w' fa fc, w'.ownsRow w.heap.size 60 5 (.slice fa (runs r p r.racers.length).length fc) (runs r p r.racers.length).length (rcV (srt (runs r p r.racers.length))) → G w w' → OpenPost r p w (.returned (.agg (Fu.v ⟨r.pools.getD p default, fa, fc, srt (runs r p r.racers.length), r.ta, r.tc, r.protests⟩))) w') := fun w' fa fc a b => by
    have e : srt (runs r p r.racers.length) = runners r p := by unfold runs runners; rw [List.take_length]
    have e2 : (runs r p r.racers.length).length = (runners r p).length := by rw [← e, srt_len]
    rw [e, e2] at a
    rw [e]
    exact ⟨fa, fc, rfl, a, b⟩
  generalize OpenPost r p w = PP at *
  clear h
  obtain ⟨RS, hRS⟩ : ∃ RS : Nat → List Rc, RS = runs r p := ⟨_, rfl⟩
  rw [← hRS] at HSU HLE HSO HR0 HPP
  clear hRS
  obtain ⟨ra, rc, racers, pa, pc, pools, ta, tc, protests⟩ := r
  unfold Ra.v at *
  dsimp only at *
  rcases hpb with hpb | ⟨g, off, rfl, hg, hpc⟩
  · omega
  have hpc := hpc p hp
  obtain ⟨y, hy⟩ : ∃ y, y = pools.getD p default := ⟨_, rfl⟩
  rw [← hy] at hpc HPP
  clear hy
  obtain ⟨ystake, ycut, ykind, yta, ytc, ytable, yquota, yfirst⟩ := y
  unfold Po.v at hpc
  have HQ : Hid (∀ r, r < 6 → w.cell? ⟨g, off + p * 6 + r, none⟩ = (#[.int .i64 ystake, .int .i64 ycut, .int .i64 ykind, .slice yta ytable.length ytc, .int .i64 yquota, .bool yfirst] : Array Value)[r]?) := hpc
  clear hpc
  have hpi : (p : Int) < pools.length := by omega
  have g0 : G w ((w.alloc (.cells #[.slice ra racers.length rc, .slice (some ⟨g, off, none⟩) pools.length pc, .slice ta protests.length tc] 26)).alloc (.cells #[.int .i64 0, .int .i64 0, .int .i64 0, .slice none 0 0, .int .i64 0, .bool false, .slice none 0 0, .slice none 0 0] 85)) := ((G.rf _).a _).a _
  have b0 : Blk ((w.alloc (.cells #[.slice ra racers.length rc, .slice (some ⟨g, off, none⟩) pools.length pc, .slice ta protests.length tc] 26)).alloc (.cells #[.int .i64 0, .int .i64 0, .int .i64 0, .slice none 0 0, .int .i64 0, .bool false, .slice none 0 0, .slice none 0 0] 85)) w.heap.size 26 #[.slice ra racers.length rc, .slice (some ⟨g, off, none⟩) pools.length pc, .slice ta protests.length tc] := (Blk.new _ _ _).alloc _
  have b1 : Blk ((w.alloc (.cells #[.slice ra racers.length rc, .slice (some ⟨g, off, none⟩) pools.length pc, .slice ta protests.length tc] 26)).alloc (.cells #[.int .i64 0, .int .i64 0, .int .i64 0, .slice none 0 0, .int .i64 0, .bool false, .slice none 0 0, .slice none 0 0] 85)) (w.heap.size + 1) 85 #[.int .i64 0, .int .i64 0, .int .i64 0, .slice none 0 0, .int .i64 0, .bool false, .slice none 0 0, .slice none 0 0] := Blk.new1 _ _ _ _
  have hs1 : ((w.alloc (.cells #[.slice ra racers.length rc, .slice (some ⟨g, off, none⟩) pools.length pc, .slice ta protests.length tc] 26)).alloc (.cells #[.int .i64 0, .int .i64 0, .int .i64 0, .slice none 0 0, .int .i64 0, .bool false, .slice none 0 0, .slice none 0 0] 85)).heap.size = w.heap.size + 1 + 1 := (Array.size_push ..).trans (congrArg (· + 1) (Array.size_push ..))
  go_enter Tryz.func53, Tryz.ntmps53
  go_upto_region 1 with fail
  change Code.wp _ _ _ _ ((w.alloc (.cells #[.slice ra racers.length rc, .slice (some ⟨g, off, none⟩) pools.length pc, .slice ta protests.length tc] 26)).alloc (.cells #[.int .i64 0, .int .i64 0, .int .i64 0, .slice none 0 0, .int .i64 0, .bool false, .slice none 0 0, .slice none 0 0] 85))
  generalize ((w.alloc (.cells #[.slice ra racers.length rc, .slice (some ⟨g, off, none⟩) pools.length pc, .slice ta protests.length tc] 26)).alloc (.cells #[.int .i64 0, .int .i64 0, .int .i64 0, .slice none 0 0, .int .i64 0, .bool false, .slice none 0 0, .slice none 0 0] 85)) = W1 at *
  have hSk : ∀ W', G W1 W' → w.heap.size < W'.heap.size ∧ g < W'.heap.size ∧ W'.cell? ⟨w.heap.size, 0, none⟩ = some (.slice ra racers.length rc) ∧ W'.cell? ⟨w.heap.size, 1, none⟩ = some (.slice (some ⟨g, off, none⟩) pools.length pc) ∧ W'.cell? ⟨w.heap.size, 2, none⟩ = some (.slice ta protests.length tc) ∧ W'.cell? ⟨g, off + p * 6, none⟩ = some (.int .i64 ystake) ∧ W'.cell? ⟨g, off + p * 6 + 1, none⟩ = some (.int .i64 ycut) ∧ W'.cell? ⟨g, off + p * 6 + 2, none⟩ = some (.int .i64 ykind) ∧ W'.cell? ⟨g, off + p * 6 + 3, none⟩ = some (.slice yta ytable.length ytc) ∧ W'.cell? ⟨g, off + p * 6 + 4, none⟩ = some (.int .i64 yquota) ∧ W'.cell? ⟨g, off + p * 6 + 5, none⟩ = some (.bool yfirst) := fun W' hW =>
    ⟨(b0.keep hW).lt, Nat.lt_of_lt_of_le hg (g0.t hW).size, (b0.keep hW).cell 0, (b0.keep hW).cell 1, (b0.keep hW).cell 2, ((bcellB (g0.t hW)).1 g _ hg).trans (HQ.out 0 (by omega)), ((bcellB (g0.t hW)).1 g _ hg).trans (HQ.out 1 (by omega)), ((bcellB (g0.t hW)).1 g _ hg).trans (HQ.out 2 (by omega)), ((bcellB (g0.t hW)).1 g _ hg).trans (HQ.out 3 (by omega)), ((bcellB (g0.t hW)).1 g _ hg).trans (HQ.out 4 (by omega)), ((bcellB (g0.t hW)).1 g _ hg).trans (HQ.out 5 (by omega))⟩
  have ga := (G.rf W1).d
  refine wp_region_Y (S := fun W' => w.heap.size < W'.heap.size ∧ g < W'.heap.size ∧ W'.cell? ⟨w.heap.size, 0, none⟩ = some (.slice ra racers.length rc) ∧ W'.cell? ⟨w.heap.size, 1, none⟩ = some (.slice (some ⟨g, off, none⟩) pools.length pc) ∧ W'.cell? ⟨w.heap.size, 2, none⟩ = some (.slice ta protests.length tc) ∧ W'.cell? ⟨g, off + p * 6, none⟩ = some (.int .i64 ystake) ∧ W'.cell? ⟨g, off + p * 6 + 1, none⟩ = some (.int .i64 ycut) ∧ W'.cell? ⟨g, off + p * 6 + 2, none⟩ = some (.int .i64 ykind) ∧ W'.cell? ⟨g, off + p * 6 + 3, none⟩ = some (.slice yta ytable.length ytc) ∧ W'.cell? ⟨g, off + p * 6 + 4, none⟩ = some (.int .i64 yquota) ∧ W'.cell? ⟨g, off + p * 6 + 5, none⟩ = some (.bool yfirst)) 9 10 rfl (by kernel_rfl) (hSk _ ga) (fun hS => ?_)
  refine wpAnyY_take (i := 0) (v := ?_) rfl (by kernel_rfl) (by kernel_rfl) (by kernel_rfl) (by kernel_rfl) (fun _ _ _ h => h) (Or.inl ⟨by kernel_rfl, ?_⟩) hS ?_
  rotate_left
  · intro w' hSw; go_simp; with_reducible rfl
  try simp only [Act.put, List.getElem_toArray, List.getElem_cons_zero, List.getElem_cons_succ, List.setIfInBounds_toArray, List.set_cons_zero, List.set_cons_succ]
  refine wpAnyY_take (i := 1) (v := ?_) rfl (by kernel_rfl) (by kernel_rfl) (by kernel_rfl) (by kernel_rfl) (fun _ _ _ h => h) (Or.inl ⟨by kernel_rfl, ?_⟩) hS ?_
  rotate_left
  · intro w' hSw; obtain ⟨s0, s1, r0, r1, r2, y0, y1, y2, y3, y4, y5⟩ := hSw; go_simp; with_reducible rfl
  try simp only [Act.put, List.getElem_toArray, List.getElem_cons_zero, List.getElem_cons_succ, List.setIfInBounds_toArray, List.set_cons_zero, List.set_cons_succ]
  refine wpAnyY_take (i := 2) (v := ?_) rfl (by kernel_rfl) (by kernel_rfl) (by kernel_rfl) (by kernel_rfl) (fun _ _ _ h => h) (Or.inl ⟨by kernel_rfl, ?_⟩) hS ?_
  rotate_left
  · intro w' hSw; go_simp; with_reducible rfl
  try simp only [Act.put, List.getElem_toArray, List.getElem_cons_zero, List.getElem_cons_succ, List.setIfInBounds_toArray, List.set_cons_zero, List.set_cons_succ]
  refine wpAnyY_take (i := 3) (v := ?_) rfl (by kernel_rfl) (by kernel_rfl) (by kernel_rfl) (by kernel_rfl) (fun _ _ _ h => h) (Or.inl ⟨by kernel_rfl, ?_⟩) hS ?_
  rotate_left
  · intro w' hSw; go_simp; with_reducible rfl
  try simp only [Act.put, List.getElem_toArray, List.getElem_cons_zero, List.getElem_cons_succ, List.setIfInBounds_toArray, List.set_cons_zero, List.set_cons_succ]
  refine wpAnyY_take (i := 4) (v := ?_) rfl (by kernel_rfl) (by kernel_rfl) (by kernel_rfl) (by kernel_rfl) (fun _ _ _ h => h) (Or.inl ⟨by kernel_rfl, ?_⟩) hS ?_
  rotate_left
  · intro w' hSw; obtain ⟨s0, s1, r0, r1, r2, y0, y1, y2, y3, y4, y5⟩ := hSw; go_simp; with_reducible rfl
  try simp only [Act.put, List.getElem_toArray, List.getElem_cons_zero, List.getElem_cons_succ, List.setIfInBounds_toArray, List.set_cons_zero, List.set_cons_succ]
  refine wpAnyY_take (i := 5) (v := ?_) rfl (by kernel_rfl) (by kernel_rfl) (by kernel_rfl) (by kernel_rfl) (fun _ _ _ h => h) (Or.inl ⟨by kernel_rfl, ?_⟩) hS ?_
  rotate_left
  · intro w' hSw; go_simp; with_reducible rfl
  try simp only [Act.put, List.getElem_toArray, List.getElem_cons_zero, List.getElem_cons_succ, List.setIfInBounds_toArray, List.set_cons_zero, List.set_cons_succ]
  refine wpAnyY_take (i := 6) (v := ?_) rfl (by kernel_rfl) (by kernel_rfl) (by kernel_rfl) (by kernel_rfl) (fun _ _ _ h => h) (Or.inl ⟨by kernel_rfl, ?_⟩) hS ?_
  rotate_left
  · intro w' hSw; obtain ⟨s0, s1, r0, r1, r2, y0, y1, y2, y3, y4, y5⟩ := hSw; go_simp; with_reducible rfl
  try simp only [Act.put, List.getElem_toArray, List.getElem_cons_zero, List.getElem_cons_succ, List.setIfInBounds_toArray, List.set_cons_zero, List.set_cons_succ]
  refine wpAnyY_take (i := 7) (v := ?_) rfl (by kernel_rfl) (by kernel_rfl) (by kernel_rfl) (by kernel_rfl) (fun _ _ _ h => h) (Or.inl ⟨by kernel_rfl, ?_⟩) hS ?_
  rotate_left
  · intro w' hSw; go_simp; with_reducible rfl
  try simp only [Act.put, List.getElem_toArray, List.getElem_cons_zero, List.getElem_cons_succ, List.setIfInBounds_toArray, List.set_cons_zero, List.set_cons_succ]
  refine wpAnyY_oneSW (i := 8) (by kernel_rfl) rfl (by kernel_rfl) (fun K8 hK8 => ?_)
  go_simp
  refine hK8.out _ _ (hSk _ (ga.a _)) (fun hS => ?_)
  clear hK8
  try simp only [Act.put, List.getElem_toArray, List.getElem_cons_zero, List.getElem_cons_succ, List.setIfInBounds_toArray, List.set_cons_zero, List.set_cons_succ]
  have bz : Blk (W1.alloc (.cells #[.int .i64 0, .int .i64 0, .int .i64 0, .slice none 0 0, .int .i64 0, .bool false, .slice none 0 0, .slice none 0 0] 85)) (w.heap.size + 1 + 1) 85 #[.int .i64 0, .int .i64 0, .int .i64 0, .slice none 0 0, .int .i64 0, .bool false, .slice none 0 0, .slice none 0 0] := by
    have := Blk.new W1 85 #[.int .i64 0, .int .i64 0, .int .i64 0, .slice none 0 0, .int .i64 0, .bool false, .slice none 0 0, .slice none 0 0]
    rw [hs1] at this
    exact this
  have gz : G W1 (W1.alloc (.cells #[.int .i64 0, .int .i64 0, .int .i64 0, .slice none 0 0, .int .i64 0, .bool false, .slice none 0 0, .slice none 0 0] 85)).drew := ((G.rf W1).a _).d
  refine wpAnyY_oneW (i := 9) (by kernel_rfl) rfl (by kernel_rfl) (by kernel_rfl) (fun K9 hK9 => ?_)
  refine wp_store85 (w.heap.size + 1 + 1) (.tmp 5) (.tmp 15) (OLD := #[.int .i64 0, .int .i64 0, .int .i64 0, .slice none 0 0, .int .i64 0, .bool false, .slice none 0 0, .slice none 0 0]) (NEW := #[.int .i64 ystake, .int .i64 ycut, .int .i64 ykind, .slice yta ytable.length ytc, .int .i64 yquota, .bool yfirst, .slice none 0 0, .slice ta protests.length tc]) ⟨_, _, _, _, _, _, _, _, _, _, _, _, _, _, rfl⟩ ⟨_, _, _, _, _, _, _, _, _, _, _, _, _, _, rfl⟩ rfl rfl rfl bz (fun W2 hb2 hF2 hG2 => ?_)
  refine hK9.out _ _ ?_
  clear hK9
  try simp only [Act.put, List.getElem_toArray, List.getElem_cons_zero, List.getElem_cons_succ, List.setIfInBounds_toArray, List.set_cons_zero, List.set_cons_succ]
  refine wpAnyY_done (by kernel_rfl) ?_ _
  have g2 : G W1 W2 := hG2 W1 (by omega) gz
  clear hF2 hG2 gz bz ga hS hSk
  have m0 := (b0.keep g2).cell 0
  have l0 := (b0.keep g2).lt
  have hs2 : w.heap.size + 1 + 1 < W2.heap.size := hb2.lt
  go_wp2_with fail
  clear m0 l0
  go_loopw [19] (fun i wr => ∃ (k : Nat) (v : Value), k ≤ racers.length ∧ i = .int .i64 k ∧ Hid (Blk wr (w.heap.size + 1 + 1) 85 #[.int .i64 ystake, .int .i64 ycut, .int .i64 ykind, .slice yta ytable.length ytc, .int .i64 yquota, .bool yfirst, v, .slice ta protests.length tc] ∧ wr.ownsRow (w.heap.size + 1 + 1 + 1) 60 5 v (RS k).length (rcV (RS k))) ∧ G W1 wr) (fun i _ => racers.length - (intOf i).toNat)
  case atStart => exact ⟨0, .slice none 0 0, Nat.zero_le _, rfl, ⟨hb2, by rw [HR0.out]; exact World.ownsRow_nil _ _ _ _⟩, g2⟩
  case round =>
    clear hb2 g2 hs2
    obtain ⟨k, v, hk, rfl, HB, hG⟩ := hrel
    obtain ⟨wo, rfl⟩ : ∃ wo, wo = wr := ⟨_, rfl⟩
    by_cases hlt : k < racers.length
    · have hki : (k : Int) < racers.length := by omega
      rcases hrow with h | ⟨gr, ofr, rfl, hgr, hcell⟩
      · omega
      have lg := Nat.lt_of_lt_of_le hgr (g0.t hG).size
      have hcl := fun r hr => ((bcellB (g0.t hG)).1 gr _ hgr).trans (hcell k hlt r hr)
      have HI3 := Lib.hid (HI.out k hlt)
      have HSU3 := Lib.hid (HSU.out k hlt)
      have HL3 := Lib.hid (HLE.out k)
      obtain ⟨y, hy⟩ : ∃ y, y = racers.getD k default := ⟨_, rfl⟩
      rw [← hy] at hcl HI3 HSU3
      clear hy hcell
      obtain ⟨zbird, zowner, zrank, zday, zpa, zpc, zpools⟩ := y
      unfold Rc.v at hcl
      dsimp only at HI3 HSU3
      have q0 : wo.cell? ⟨gr, ofr + k * 5, none⟩ = some (.int .i64 zbird) := hcl 0 (by omega)
      have q1 : wo.cell? ⟨gr, ofr + k * 5 + 1, none⟩ = some (.int .i64 zowner) := hcl 1 (by omega)
      have q2 : wo.cell? ⟨gr, ofr + k * 5 + 2, none⟩ = some (.int .i64 zrank) := hcl 2 (by omega)
      have q3 : wo.cell? ⟨gr, ofr + k * 5 + 3, none⟩ = some (.int .i64 zday) := hcl 3 (by omega)
      have q4 : wo.cell? ⟨gr, ofr + k * 5 + 4, none⟩ = some (.slice zpa zpools.length zpc) := hcl 4 (by omega)
      clear hcl
      go_upto_region 5 with fail
      have bf := HB.out.1.alloc (.cells #[.int .i64 zbird, .int .i64 zowner, .int .i64 zrank, .int .i64 zday, .slice zpa zpools.length zpc] 60)
      have bx : Blk (wo.alloc (.cells #[.int .i64 zbird, .int .i64 zowner, .int .i64 zrank, .int .i64 zday, .slice zpa zpools.length zpc] 60)) wo.heap.size 60 #[.int .i64 zbird, .int .i64 zowner, .int .i64 zrank, .int .i64 zday, .slice zpa zpools.length zpc] := Blk.new _ _ _
      have ow := own_G HB.out.2 ((G.rf wo).a (.cells #[.int .i64 zbird, .int .i64 zowner, .int .i64 zrank, .int .i64 zday, .slice zpa zpools.length zpc] 60))
      have gw := hG.a (.cells #[.int .i64 zbird, .int .i64 zowner, .int .i64 zrank, .int .i64 zday, .slice zpa zpools.length zpc] 60)
      clear q0 q1 q2 q3 q4 lg HB hG
      change Code.wp _ _ _ _ (wo.alloc (.cells #[.int .i64 zbird, .int .i64 zowner, .int .i64 zrank, .int .i64 zday, .slice zpa zpools.length zpc] 60))
      obtain ⟨gx, hgx⟩ : ∃ gx, gx = wo.heap.size := ⟨_, rfl⟩
      rw [← hgx] at bx ⊢
      clear hgx
      generalize wo.alloc (.cells #[.int .i64 zbird, .int .i64 zowner, .int .i64 zrank, .int .i64 zday, .slice zpa zpools.length zpc] 60) = w2 at *
      have HO := Lib.hid ow
      clear ow
      have n4 := bx.cell 4
      have ln := bx.lt
      cases hv : inL zpools p
      · have hin := hv
        rw [hv] at HI3
        have HS4 := Lib.hid (show RS (k + 1) = RS k by have := HSU3.out; rw [hv] at this; simpa using this)
        clear hv hin HSU3
        go_wp2_with (go_at_call 76; refine (HI3.out _ (g0.t gw)).mono ?_; rintro e w3 ⟨rfl, hG3⟩)
        go_roundw
        case rel => exact ⟨k + 1, v, by omega, by go_num, ⟨bf.keep hG3, by rw [HS4.out]; exact own_G HO.out hG3⟩, gw.t hG3⟩
        case measure => simp [intOf] <;> omega
      · rw [hv] at HI3
        have HS4 := Lib.hid (show RS (k + 1) = RS k ++ [⟨zbird, zowner, zrank, zday, zpa, zpc, zpools⟩] by have := HSU3.out; rw [hv] at this; simpa using this)
        clear hv HSU3
        obtain ⟨T, hT⟩ : ∃ T, T = RS k := ⟨_, rfl⟩
        rw [← hT] at HO HS4 HL3
        clear hT
        have hTl : T.length ≤ 12 := Nat.le_trans HL3.out h12
        obtain ⟨i0, hi0, hz0, hz1, hz2⟩ := info_parts info60
        go_wp2_with (first | (go_at_call 76; refine (HI3.out _ (g0.t gw)).mono ?_; rintro e w3 ⟨rfl, hG3⟩; clear n4 ln; replace bf := bf.keep hG3; replace bx := bx.keep hG3; replace gw := gw.t hG3; have HO3 := Lib.hid (own_G HO.out hG3); have n0 := bx.cell 0; have n1 := bx.cell 1; have n2 := bx.cell 2; have n3 := bx.cell 3; have n4 := bx.cell 4; have ln := bx.lt; have f6 := bf.cell 6; have lf := bf.lt; have HLF := Lib.hid lf) | (at_builtin; refine wpList_append_own _ rfl _ _ 22 rfl (w.heap.size + 1 + 1 + 1) 60 i0 (.agg #[.int .i64 0, .int .i64 0, .int .i64 0, .int .i64 0, .slice none 0 0]) 5 56 Tryz.underlying22 hi0 hz0 hz1 hz2 rfl (by decide) _ T.length (rcV T) rfl ?hown ⟨_, 0, none⟩ 1 1 [.int .i64 zbird, .int .i64 zowner, .int .i64 zrank, .int .i64 zday, .slice zpa zpools.length zpc] rfl rfl (cell_new5 _ _ _) (by simp [Value.oneCell']) (by unfold maxLen; omega) (by omega) ?hbase ?hrest))
        case hown => exact own_G HO3.out ((G.rf _).a _)
        case hbase => have := HLF.out; simp only [World.alloc, Array.size_push]; omega
        case hrest =>
          intro v9 w9 hown9 hg9 _
          obtain ⟨va, vc, rfl⟩ := own_slice hown9
          have ho3 := own_G HO3.out ((G.rf w3).a (.cells #[.int .i64 zbird, .int .i64 zowner, .int .i64 zrank, .int .i64 zday, .slice zpa zpools.length zpc] 60))
          have bf3 := bf.alloc (.cells #[.int .i64 zbird, .int .i64 zowner, .int .i64 zrank, .int .i64 zday, .slice zpa zpools.length zpc] 60)
          have bf9 := bf3.grown hg9 (own_ne ho3 bf3 (by decide))
          have g9 : G W1 w9 := grow_own (gw.a _) ho3 (by omega) hg9
          clear ho3 bf3
          have HN := Lib.hid hown9
          have HB9 := Lib.hid bf9
          clear hown9 hg9 n0 n1 n2 n3 n4 ln f6 lf
          have f6 := bf9.cell 6
          have lf := bf9.lt
          have fz := bf9.frozen 6
          clear bf9
          go_wp2
          go_roundw
          case rel => exact ⟨k + 1, .slice va (T.length + 1) vc, by omega, by go_num, ⟨by
            have b := HB9.out.set_ 6 (.slice va (T.length + 1) vc)
            simp only [List.setIfInBounds_toArray, List.set_cons_zero, List.set_cons_succ] at b
            exact b, by
            rw [HS4.out, List.length_append, rcV_snoc]
            exact HN.out.kept (grownBy_set _ _ _) (.inr (own_ne HN.out HB9.out (by decide)).symm)⟩, g9.s (p := ⟨w.heap.size + 1 + 1, 6, none⟩) (Nat.le_of_eq hs1) _⟩
          case measure => simp [intOf] <;> omega
    · obtain rfl : k = racers.length := by omega
      have hki : ¬ ((racers.length : Nat) : Int) < racers.length := by omega
      obtain ⟨va, vc, rfl⟩ := own_slice HB.out.2
      have f6 := HB.out.1.cell 6
      have lf := HB.out.1.lt
      go_upto_region 9 with (go_at_call 77; refine (HSO.out _ _ _ HB.out.2).mono ?_; rintro e w3 ⟨rfl, hown3, hg3⟩)
      have b3 := HB.out.1.grown hg3 (own_ne HB.out.2 HB.out.1 (by decide))
      have g3 : G W1 w3 := grow_own hG HB.out.2 (by omega) hg3
      have br := b1.keep g3
      clear f6 lf HB hg3
      refine wp_region_lit ?_
      refine wpList_load85 (w.heap.size + 1 + 1) (.tmp 5) (REL := #[.int .i64 ystake, .int .i64 ycut, .int .i64 ykind, .slice yta ytable.length ytc, .int .i64 yquota, .bool yfirst, .slice va (RS racers.length).length vc, .slice ta protests.length tc]) ⟨_, _, _, _, _, _, _, _, _, _, _, _, _, _, rfl⟩ rfl rfl rfl b3 ?_
      try simp only [Act.put, List.getElem_toArray, List.getElem_cons_zero, List.getElem_cons_succ, List.setIfInBounds_toArray, List.set_cons_zero, List.set_cons_succ]
      refine wpList_store85 (w.heap.size + 1) (.tmp 4) (.tmp 37) (OLD := #[.int .i64 0, .int .i64 0, .int .i64 0, .slice none 0 0, .int .i64 0, .bool false, .slice none 0 0, .slice none 0 0]) (NEW := #[.int .i64 ystake, .int .i64 ycut, .int .i64 ykind, .slice yta ytable.length ytc, .int .i64 yquota, .bool yfirst, .slice va (RS racers.length).length vc, .slice ta protests.length tc]) ⟨_, _, _, _, _, _, _, _, _, _, _, _, _, _, rfl⟩ ⟨_, _, _, _, _, _, _, _, _, _, _, _, _, _, rfl⟩ rfl rfl rfl rfl br (fun W4 hb4 hF4 hG4 => ?_)
      try simp only [Act.put, List.getElem_toArray, List.getElem_cons_zero, List.getElem_cons_succ, List.setIfInBounds_toArray, List.set_cons_zero, List.set_cons_succ]
      have g4 : G w W4 := hG4 w (by omega) (g0.t g3)
      have h4 := own_away hown3 hF4 (own_ne hown3 br (by decide))
      have HF := Lib.hid (HPP.out W4 va vc (own_weaken h4 (by omega)) g4)
      have HE := Lib.hid (show (Fu.v ⟨⟨ystake, ycut, ykind, yta, ytc, ytable, yquota, yfirst⟩, va, vc, srt (RS racers.length), ta, tc, protests⟩) = #[.int .i64 ystake, .int .i64 ycut, .int .i64 ykind, .slice yta ytable.length ytc, .int .i64 yquota, .bool yfirst, .slice va (RS racers.length).length vc, .slice ta protests.length tc] by unfold Fu.v; rw [srt_len])
      clear hF4 hG4 hown3 h4 g4 b3 br hki
      go_wp2_with fail
      try simp only [Exit.inBlock, Exit.then]
      refine bodyPost_ret (res53 _ _ (w.heap.size + 1) (REL := #[.int .i64 ystake, .int .i64 ycut, .int .i64 ykind, .slice yta ytable.length ytc, .int .i64 yquota, .bool yfirst, .slice va (RS racers.length).length vc, .slice ta protests.length tc]) ⟨_, _, _, _, _, _, _, _, _, _, _, _, _, _, rfl⟩ rfl hb4) rfl ?_
      rw [← HE.out]
      exact HF.out
end Go.Proofs.YtnkmcoljijmgpaaGreat
