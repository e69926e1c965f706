import Derived.Test.YtnkmcoljijmgpaaGreatAe
import Derived.Lib.SliceRun
set_option linter.unusedSimpArgs false
set_option linter.unusedVariables false
namespace Go.Proofs.YtnkmcoljijmgpaaGreat
open Go.RowKit Go.Shelf
attribute [local go_sem] Oper.semAt_some
/-- the racers that are nominated, by ring -/
def runs (r : Ra) (p : Int) (k : Nat) : List Rc := (r.racers.take k).filter fun x => inL x.pools p
def runners (r : Ra) (p : Int) : List Rc := srt (r.racers.filter fun x => inL x.pools p)
def poolAt (r : Ra) (p : Int) : Po := r.pools.getD p.toNat default
def OpenPost (r : Ra) (p : Int) (w : World) (e : Ending) (w' : World) : Prop := ∃ fa fc, e = .returned (.agg (Fu.v ⟨poolAt r p, fa, fc, runners r p, r.ta, r.tc, r.protests⟩)) ∧ w'.ownsRow w.heap.size 60 5 (.slice fa (runners r p).length fc) (runners r p).length (rcV (runners r p)) ∧ G w w'
theorem runs_succ (r : Ra) (p : Int) {k : Nat} (h : k < r.racers.length) : runs r p (k + 1) = if inL (r.racers.getD k default).pools p = true then runs r p k ++ [r.racers.getD k default] else runs r p k := by
  unfold runs
  rw [List.take_add_one, List.filter_append, List.getElem?_eq_getElem h]
  have e : r.racers.getD k default = r.racers[k] := by simp [List.getD_eq_getElem?_getD, h]
  rw [e]
  cases hv : inL (r.racers[k]).pools p <;> simp [hv]
theorem runs_len (r : Ra) (p : Int) (k : Nat) : (runs r p k).length ≤ r.racers.length := by
  unfold runs
  exact Nat.le_trans (List.length_filter_le _ _) (by rw [List.length_take]; omega)
theorem uniq_filter {l : List Rc} (h : Uniq l) (f : Rc → Bool) : Uniq (l.filter f) := List.Pairwise.filter _ h
theorem own_away {X Y : World} {b N z g : Nat} {e : TypeId} {v : Value} {xs : List Value} (h : X.ownsRow b e z v N xs) (hF : ∀ b, b ≠ g → Y.heap[b]? = X.heap[b]?) (hne : some g ≠ v.ownBlock) : Y.ownsRow b e z v N xs := by
  refine ⟨h.1, ?_⟩
  rcases h.2 with hn | ⟨g', cap, cur, rfl, hb, hg, rest⟩
  · exact .inl hn
  · refine .inr ⟨g', cap, cur, rfl, hb, ?_, rest⟩
    rw [hF g' (fun e => hne (by rw [e]; rfl))]
    exact hg
theorem info60 : (Tryz.prog.info? 60).map (fun i => (i.zero, i.size, i.bytes)) = some (some (.agg #[.int .i64 0, .int .i64 0, .int .i64 0, .int .i64 0, .slice none 0 0]), 5, 56) := by kernel_rfl
theorem cell_new5 (w : World) (t : TypeId) (cs : Array Value) : ∀ j u, cs.toList[j]? = some u → (w.alloc (.cells cs t)).cell? ((⟨w.heap.size, 0, none⟩ : Addr).add j) = some u :=
  World.news_of_block (cs := cs) (t := t) (fr := (0, 0)) (heap_alloc_new w _)
set_option maxRecDepth 100000 in
set_option maxHeartbeats 8000000 in
theorem open_any (r : Ra) (p : Nat) (w : World) (h : r.At w) (hp : p < r.pools.length) (hu : Uniq r.racers) (h12 : r.racers.length ≤ 12) : Calls Tryz.prog 53 #[.agg r.v, .int .i64 (p : Nat)] w (OpenPost r p w) := by
  have HI := Lib.hid (fun (i : Nat) (hi : i < r.racers.length) (W : World) (hW : G w W) => contains_any (r.racers.getD i default).pools (r.racers.getD i default).pa (r.racers.getD i default).pc p W ((h.rs.below hW).pools i hi) (h.nq i hi))
  have hrow := h.rs.row
  have hcr := h.cr
  have hpb := h.ps.row
  have HSU := Lib.hid (fun (k : Nat) (hk : k < r.racers.length) => runs_succ r p hk)
  have HLE := Lib.hid (fun (k : Nat) => runs_len r p k)
  have HSO := Lib.hid (fun (W : World) (B : Nat) (v : Value) (ho : W.ownsRow B 60 5 v (runs r p r.racers.length).length (rcV (runs r p r.racers.length))) => sort_own (runs r p r.racers.length) (uniq_filter (by rw [List.take_length]; exact hu) _) (Nat.le_trans (runs_len r p _) (by omega)) W B v ho)
  have HR0 : Hid (runs r p 0 = []) := by simp [runs, Hid]
  have HPP : Hid (∀ w' fa fc, w'.ownsRow w.heap.size 60 5 (.slice fa (runs r p r.racers.length).length fc) (runs r p r.racers.length).length (rcV (srt (runs r p r.racers.length))) → G w w' → OpenPost r p w (.returned (.agg (Fu.v ⟨r.pools.getD p default, fa, fc, srt (runs r p r.racers.length), r.ta, r.tc, r.protests⟩))) w') := fun w' fa fc a b => by
    have e : srt (runs r p r.racers.length) = runners r p := by unfold runs runners; rw [List.take_length]
    have e2 : (runs r p r.racers.length).length = (runners r p).length := by rw [← e, srt_len]
    rw [e, e2] at a
    rw [e]
    exact ⟨fa, fc, rfl, a, b⟩
  generalize OpenPost r p w = PP at *
  clear h
  obtain ⟨RS, hRS⟩ : ∃ RS : Nat → List Rc, RS = runs r p := ⟨_, rfl⟩
  rw [← hRS] at HSU HLE HSO HR0 HPP
  clear hRS
  obtain ⟨ra, rc, racers, pa, pc, pools, ta, tc, protests⟩ := r
  unfold Ra.v at *
  dsimp only at *
  rcases hpb with hpb | ⟨g, off, rfl, hg, hpc⟩
  · omega
  have hpc := hpc p hp
  obtain ⟨y, hy⟩ : ∃ y, y = pools.getD p default := ⟨_, rfl⟩
  rw [← hy] at hpc HPP
  clear hy
  obtain ⟨ystake, ycut, ykind, yta, ytc, ytable, yquota, yfirst⟩ := y
  unfold Po.v at hpc
  have HQ : Hid (∀ r, r < 6 → w.cell? ⟨g, off + p * 6 + r, none⟩ = (#[.int .i64 ystake, .int .i64 ycut, .int .i64 ykind, .slice yta ytable.length ytc, .int .i64 yquota, .bool yfirst] : Array Value)[r]?) := hpc
  clear hpc
  have hpi : (p : Int) < pools.length := by omega
  have g0 : G w ((w.alloc (.cells #[.slice ra racers.length rc, .slice (some ⟨g, off, none⟩) pools.length pc, .slice ta protests.length tc] 26)).alloc (.cells #[.int .i64 0, .int .i64 0, .int .i64 0, .slice none 0 0, .int .i64 0, .bool false, .slice none 0 0, .slice none 0 0] 85)) := ((G.rf _).a _).a _
  have b0 : Blk ((w.alloc (.cells #[.slice ra racers.length rc, .slice (some ⟨g, off, none⟩) pools.length pc, .slice ta protests.length tc] 26)).alloc (.cells #[.int .i64 0, .int .i64 0, .int .i64 0, .slice none 0 0, .int .i64 0, .bool false, .slice none 0 0, .slice none 0 0] 85)) w.heap.size 26 #[.slice ra racers.length rc, .slice (some ⟨g, off, none⟩) pools.length pc, .slice ta protests.length tc] := (Blk.new _ _ _).alloc _
  have b1 : Blk ((w.alloc (.cells #[.slice ra racers.length rc, .slice (some ⟨g, off, none⟩) pools.length pc, .slice ta protests.length tc] 26)).alloc (.cells #[.int .i64 0, .int .i64 0, .int .i64 0, .slice none 0 0, .int .i64 0, .bool false, .slice none 0 0, .slice none 0 0] 85)) (w.heap.size + 1) 85 #[.int .i64 0, .int .i64 0, .int .i64 0, .slice none 0 0, .int .i64 0, .bool false, .slice none 0 0, .slice none 0 0] := Blk.new1 _ _ _ _
  have hs1 : ((w.alloc (.cells #[.slice ra racers.length rc, .slice (some ⟨g, off, none⟩) pools.length pc, .slice ta protests.length tc] 26)).alloc (.cells #[.int .i64 0, .int .i64 0, .int .i64 0, .slice none 0 0, .int .i64 0, .bool false, .slice none 0 0, .slice none 0 0] 85)).heap.size = w.heap.size + 1 + 1 := (Array.size_push ..).trans (congrArg (· + 1) (Array.size_push ..))
  go_enter Tryz.func53, Tryz.ntmps53
  go_upto_region 1 with fail
  change Code.wp _ _ _ _ ((w.alloc (.cells #[.slice ra racers.length rc, .slice (some ⟨g, off, none⟩) pools.length pc, .slice ta protests.length tc] 26)).alloc (.cells #[.int .i64 0, .int .i64 0, .int .i64 0, .slice none 0 0, .int .i64 0, .bool false, .slice none 0 0, .slice none 0 0] 85))
  generalize ((w.alloc (.cells #[.slice ra racers.length rc, .slice (some ⟨g, off, none⟩) pools.length pc, .slice ta protests.length tc] 26)).alloc (.cells #[.int .i64 0, .int .i64 0, .int .i64 0, .slice none 0 0, .int .i64 0, .bool false, .slice none 0 0, .slice none 0 0] 85)) = W1 at *
  have hSk : ∀ W', G W1 W' → w.heap.size < W'.heap.size ∧ g < W'.heap.size ∧ W'.cell? ⟨w.heap.size, 0, none⟩ = some (.slice ra racers.length rc) ∧ W'.cell? ⟨w.heap.size, 1, none⟩ = some (.slice (some ⟨g, off, none⟩) pools.length pc) ∧ W'.cell? ⟨w.heap.size, 2, none⟩ = some (.slice ta protests.length tc) ∧ W'.cell? ⟨g, off + p * 6, none⟩ = some (.int .i64 ystake) ∧ W'.cell? ⟨g, off + p * 6 + 1, none⟩ = some (.int .i64 ycut) ∧ W'.cell? ⟨g, off + p * 6 + 2, none⟩ = some (.int .i64 ykind) ∧ W'.cell? ⟨g, off + p * 6 + 3, none⟩ = some (.slice yta ytable.length ytc) ∧ W'.cell? ⟨g, off + p * 6 + 4, none⟩ = some (.int .i64 yquota) ∧ W'.cell? ⟨g, off + p * 6 + 5, none⟩ = some (.bool yfirst) := fun W' hW =>
    ⟨(b0.keep hW).lt, Nat.lt_of_lt_of_le hg (g0.t hW).size, (b0.keep hW).cell 0, (b0.keep hW).cell 1, (b0.keep hW).cell 2, ((bcellB (g0.t hW)).1 g _ hg).trans (HQ.out 0 (by omega)), ((bcellB (g0.t hW)).1 g _ hg).trans (HQ.out 1 (by omega)), ((bcellB (g0.t hW)).1 g _ hg).trans (HQ.out 2 (by omega)), ((bcellB (g0.t hW)).1 g _ hg).trans (HQ.out 3 (by omega)), ((bcellB (g0.t hW)).1 g _ hg).trans (HQ.out 4 (by omega)), ((bcellB (g0.t hW)).1 g _ hg).trans (HQ.out 5 (by omega))⟩
  have ga := (G.rf W1).d
  refine wp_region_Y (S := fun W' => w.heap.size < W'.heap.size ∧ g < W'.heap.size ∧ W'.cell? ⟨w.heap.size, 0, none⟩ = some (.slice ra racers.length rc) ∧ W'.cell? ⟨w.heap.size, 1, none⟩ = some (.slice (some ⟨g, off, none⟩) pools.length pc) ∧ W'.cell? ⟨w.heap.size, 2, none⟩ = some (.slice ta protests.length tc) ∧ W'.cell? ⟨g, off + p * 6, none⟩ = some (.int .i64 ystake) ∧ W'.cell? ⟨g, off + p * 6 + 1, none⟩ = some (.int .i64 ycut) ∧ W'.cell? ⟨g, off + p * 6 + 2, none⟩ = some (.int .i64 ykind) ∧ W'.cell? ⟨g, off + p * 6 + 3, none⟩ = some (.slice yta ytable.length ytc) ∧ W'.cell? ⟨g, off + p * 6 + 4, none⟩ = some (.int .i64 yquota) ∧ W'.cell? ⟨g, off + p * 6 + 5, none⟩ = some (.bool yfirst)) 9 10 rfl (by kernel_rfl) (hSk _ ga) (fun hS => ?_)
  refine wpAnyY_take (i := 0) (v := ?_) rfl (by kernel_rfl) (by kernel_rfl) (by kernel_rfl) (by kernel_rfl) (fun _ _ _ h => h) (Or.inl ⟨by kernel_rfl, ?_⟩) hS ?_
  rotate_left
  · intro w' hSw; go_simp; with_reducible rfl
  try simp only [Act.put, List.getElem_toArray, List.getElem_cons_zero, List.getElem_cons_succ, List.setIfInBounds_toArray, List.set_cons_zero, List.set_cons_succ]
  refine wpAnyY_take (i := 1) (v := ?_) rfl (by kernel_rfl) (by kernel_rfl) (by kernel_rfl) (by kernel_rfl) (fun _ _ _ h => h) (Or.inl ⟨by kernel_rfl, ?_⟩) hS ?_
  rotate_left
  · intro w' hSw; obtain ⟨s0, s1, r0, r1, r2, y0, y1, y2, y3, y4, y5⟩ := hSw; go_simp; with_reducible rfl
  try simp only [Act.put, List.getElem_toArray, List.getElem_cons_zero, List.getElem_cons_succ, List.setIfInBounds_toArray, List.set_cons_zero, List.set_cons_succ]
  refine wpAnyY_take (i := 2) (v := ?_) rfl (by kernel_rfl) (by kernel_rfl) (by kernel_rfl) (by kernel_rfl) (fun _ _ _ h => h) (Or.inl ⟨by kernel_rfl, ?_⟩) hS ?_
  rotate_left
  · intro w' hSw; go_simp; with_reducible rfl
  try simp only [Act.put, List.getElem_toArray, List.getElem_cons_zero, List.getElem_cons_succ, List.setIfInBounds_toArray, List.set_cons_zero, List.set_cons_succ]
  refine wpAnyY_take (i := 3) (v := ?_) rfl (by kernel_rfl) (by kernel_rfl) (by kernel_rfl) (by kernel_rfl) (fun _ _ _ h => h) (Or.inl ⟨by kernel_rfl, ?_⟩) hS ?_
  rotate_left
  · intro w' hSw; go_simp; with_reducible rfl
  try simp only [Act.put, List.getElem_toArray, List.getElem_cons_zero, List.getElem_cons_succ, List.setIfInBounds_toArray, List.set_cons_zero, List.set_cons_succ]
  refine wpAnyY_take (i := 4) (v := ?_) rfl (by kernel_rfl) (by kernel_rfl) (by kernel_rfl) (by kernel_rfl) (fun _ _ _ h => h) (Or.inl ⟨by kernel_rfl, ?_⟩) hS ?_
  rotate_left
  · intro w' hSw; obtain ⟨s0, s1, r0, r1, r2, y0, y1, y2, y3, y4, y5⟩ := hSw; go_simp; with_reducible rfl
  try simp only [Act.put, List.getElem_toArray, List.getElem_cons_zero, List.getElem_cons_succ, List.setIfInBounds_toArray, List.set_cons_zero, List.set_cons_succ]
  refine wpAnyY_take (i := 5) (v := ?_) rfl (by kernel_rfl) (by kernel_rfl) (by kernel_rfl) (by kernel_rfl) (fun _ _ _ h => h) (Or.inl ⟨by kernel_rfl, ?_⟩) hS ?_
  rotate_left
  · intro w' hSw; go_simp; with_reducible rfl
  try simp only [Act.put, List.getElem_toArray, List.getElem_cons_zero, List.getElem_cons_succ, List.setIfInBounds_toArray, List.set_cons_zero, List.set_cons_succ]
  refine wpAnyY_take (i := 6) (v := ?_) rfl (by kernel_rfl) (by kernel_rfl) (by kernel_rfl) (by kernel_rfl) (fun _ _ _ h => h) (Or.inl ⟨by kernel_rfl, ?_⟩) hS ?_
  rotate_left
  · intro w' hSw; obtain ⟨s0, s1, r0, r1, r2, y0, y1, y2, y3, y4, y5⟩ := hSw; go_simp; with_reducible rfl
  try simp only [Act.put, List.getElem_toArray, List.getElem_cons_zero, List.getElem_cons_succ, List.setIfInBounds_toArray, List.set_cons_zero, List.set_cons_succ]
  refine wpAnyY_take (i := 7) (v := ?_) rfl (by kernel_rfl) (by kernel_rfl) (by kernel_rfl) (by kernel_rfl) (fun _ _ _ h => h) (Or.inl ⟨by kernel_rfl, ?_⟩) hS ?_
  rotate_left
  · intro w' hSw; go_simp; with_reducible rfl
  try simp only [Act.put, List.getElem_toArray, List.getElem_cons_zero, List.getElem_cons_succ, List.setIfInBounds_toArray, List.set_cons_zero, List.set_cons_succ]
  refine wpAnyY_oneSW (i := 8) (by kernel_rfl) rfl (by kernel_rfl) (fun K8 hK8 => ?_)
  go_simp
  refine hK8.out _ _ (hSk _ (ga.a _)) (fun hS => ?_)
  clear hK8
  try simp only [Act.put, List.getElem_toArray, List.getElem_cons_zero, List.getElem_cons_succ, List.setIfInBounds_toArray, List.set_cons_zero, List.set_cons_succ]
  have bz : Blk (W1.alloc (.cells #[.int .i64 0, .int .i64 0, .int .i64 0, .slice none 0 0, .int .i64 0, .bool false, .slice none 0 0, .slice none 0 0] 85)) (w.heap.size + 1 + 1) 85 #[.int .i64 0, .int .i64 0, .int .i64 0, .slice none 0 0, .int .i64 0, .bool false, .slice none 0 0, .slice none 0 0] := by
    have := Blk.new W1 85 #[.int .i64 0, .int .i64 0, .int .i64 0, .slice none 0 0, .int .i64 0, .bool false, .slice none 0 0, .slice none 0 0]
    rw [hs1] at this
    exact this
  have gz : G W1 (W1.alloc (.cells #[.int .i64 0, .int .i64 0, .int .i64 0, .slice none 0 0, .int .i64 0, .bool false, .slice none 0 0, .slice none 0 0] 85)).drew := ((G.rf W1).a _).d
  refine wpAnyY_oneW (i := 9) (by kernel_rfl) rfl (by kernel_rfl) (by kernel_rfl) (fun K9 hK9 => ?_)
  refine wp_store85 (w.heap.size + 1 + 1) (.tmp 5) (.tmp 15) (OLD := #[.int .i64 0, .int .i64 0, .int .i64 0, .slice none 0 0, .int .i64 0, .bool false, .slice none 0 0, .slice none 0 0]) (NEW := #[.int .i64 ystake, .int .i64 ycut, .int .i64 ykind, .slice yta ytable.length ytc, .int .i64 yquota, .bool yfirst, .slice none 0 0, .slice ta protests.length tc]) ⟨_, _, _, _, _, _, _, _, _, _, _, _, _, _, rfl⟩ ⟨_, _, _, _, _, _, _, _, _, _, _, _, _, _, rfl⟩ rfl rfl rfl bz (fun W2 hb2 hF2 hG2 => ?_)
  refine hK9.out _ _ ?_
  clear hK9
  try simp only [Act.put, List.getElem_toArray, List.getElem_cons_zero, List.getElem_cons_succ, List.setIfInBounds_toArray, List.set_cons_zero, List.set_cons_succ]
  refine wpAnyY_done (by kernel_rfl) ?_ _
  have g2 : G W1 W2 := hG2 W1 (by omega) gz
  clear hF2 hG2 gz bz ga hS hSk
  have m0 := (b0.keep g2).cell 0
  have l0 := (b0.keep g2).lt
  have hs2 : w.heap.size + 1 + 1 < W2.heap.size := hb2.lt
  go_wp2_with fail
  clear m0 l0
  go_loopw [19] (fun i wr => ∃ (k : Nat) (v : Value), k ≤ racers.length ∧ i = .int .i64 k ∧ Hid (Blk wr (w.heap.size + 1 + 1) 85 #[.int .i64 ystake, .int .i64 ycut, .int .i64 ykind, .slice yta ytable.length ytc, .int .i64 yquota, .bool yfirst, v, .slice ta protests.length tc] ∧ wr.ownsRow (w.heap.size + 1 + 1 + 1) 60 5 v (RS k).length (rcV (RS k))) ∧ G W1 wr) (fun i _ => racers.length - (intOf i).toNat)
  case atStart => exact ⟨0, .slice none 0 0, Nat.zero_le _, rfl, ⟨hb2, by rw [HR0.out]; exact World.ownsRow_nil _ _ _ _⟩, g2⟩
  case round =>
    clear hb2 g2 hs2
    obtain ⟨k, v, hk, rfl, HB, hG⟩ := hrel
    obtain ⟨wo, rfl⟩ : ∃ wo, wo = wr := ⟨_, rfl⟩
    by_cases hlt : k < racers.length
    · have hki : (k : Int) < racers.length := by omega
      rcases hrow with h | ⟨gr, ofr, rfl, hgr, hcell⟩
      · omega
      have lg := Nat.lt_of_lt_of_le hgr (g0.t hG).size
      have hcl := fun r hr => ((bcellB (g0.t hG)).1 gr _ hgr).trans (hcell k hlt r hr)
      have HI3 := Lib.hid (HI.out k hlt)
      have HSU3 := Lib.hid (HSU.out k hlt)
      have HL3 := Lib.hid (HLE.out k)
      obtain ⟨y, hy⟩ : ∃ y, y = racers.getD k default := ⟨_, rfl⟩
      rw [← hy] at hcl HI3 HSU3
      clear hy hcell
      obtain ⟨zbird, zowner, zrank, zday, zpa, zpc, zpools⟩ := y
      unfold Rc.v at hcl
      dsimp only at HI3 HSU3
      have q0 : wo.cell? ⟨gr, ofr + k * 5, none⟩ = some (.int .i64 zbird) := hcl 0 (by omega)
      have q1 : wo.cell? ⟨gr, ofr + k * 5 + 1, none⟩ = some (.int .i64 zowner) := hcl 1 (by omega)
      have q2 : wo.cell? ⟨gr, ofr + k * 5 + 2, none⟩ = some (.int .i64 zrank) := hcl 2 (by omega)
      have q3 : wo.cell? ⟨gr, ofr + k * 5 + 3, none⟩ = some (.int .i64 zday) := hcl 3 (by omega)
      have q4 : wo.cell? ⟨gr, ofr + k * 5 + 4, none⟩ = some (.slice zpa zpools.length zpc) := hcl 4 (by omega)
      clear hcl
      go_upto_region 5 with fail
      have bf := HB.out.1.alloc (.cells #[.int .i64 zbird, .int .i64 zowner, .int .i64 zrank, .int .i64 zday, .slice zpa zpools.length zpc] 60)
      have bx : Blk (wo.alloc (.cells #[.int .i64 zbird, .int .i64 zowner, .int .i64 zrank, .int .i64 zday, .slice zpa zpools.length zpc] 60)) wo.heap.size 60 #[.int .i64 zbird, .int .i64 zowner, .int .i64 zrank, .int .i64 zday, .slice zpa zpools.length zpc] := Blk.new _ _ _
      have ow := own_G HB.out.2 ((G.rf wo).a (.cells #[.int .i64 zbird, .int .i64 zowner, .int .i64 zrank, .int .i64 zday, .slice zpa zpools.length zpc] 60))
      have gw := hG.a (.cells #[.int .i64 zbird, .int .i64 zowner, .int .i64 zrank, .int .i64 zday, .slice zpa zpools.length zpc] 60)
      clear q0 q1 q2 q3 q4 lg HB hG
      change Code.wp _ _ _ _ (wo.alloc (.cells #[.int .i64 zbird, .int .i64 zowner, .int .i64 zrank, .int .i64 zday, .slice zpa zpools.length zpc] 60))
      obtain ⟨gx, hgx⟩ : ∃ gx, gx = wo.heap.size := ⟨_, rfl⟩
      rw [← hgx] at bx ⊢
      clear hgx
      generalize wo.alloc (.cells #[.int .i64 zbird, .int .i64 zowner, .int .i64 zrank, .int .i64 zday, .slice zpa zpools.length zpc] 60) = w2 at *
      have HO := Lib.hid ow
      clear ow
      have n4 := bx.cell 4
      have ln := bx.lt
      cases hv : inL zpools p
      · have hin := hv
        rw [hv] at HI3
        have HS4 := Lib.hid (show RS (k + 1) = RS k by have := HSU3.out; rw [hv] at this; simpa using this)
        clear hv hin HSU3
        go_wp2_with (go_at_call 76; refine (HI3.out _ (g0.t gw)).mono ?_; rintro e w3 ⟨rfl, hG3⟩)
        go_roundw
        case rel => exact ⟨k + 1, v, by omega, by go_num, ⟨bf.keep hG3, by rw [HS4.out]; exact own_G HO.out hG3⟩, gw.t hG3⟩
        case measure => simp [intOf] <;> omega
      · rw [hv] at HI3
        have HS4 := Lib.hid (show RS (k + 1) = RS k ++ [⟨zbird, zowner, zrank, zday, zpa, zpc, zpools⟩] by have := HSU3.out; rw [hv] at this; simpa using this)
        clear hv HSU3
        obtain ⟨T, hT⟩ : ∃ T, T = RS k := ⟨_, rfl⟩
        rw [← hT] at HO HS4 HL3
        clear hT
        have hTl : T.length ≤ 12 := Nat.le_trans HL3.out h12
        obtain ⟨i0, hi0, hz0, hz1, hz2⟩ := info_parts info60
        go_wp2_with (first | (go_at_call 76; refine (HI3.out _ (g0.t gw)).mono ?_; rintro e w3 ⟨rfl, hG3⟩; clear n4 ln; replace bf := bf.keep hG3; replace bx := bx.keep hG3; replace gw := gw.t hG3; have HO3 := Lib.hid (own_G HO.out hG3); have n0 := bx.cell 0; have n1 := bx.cell 1; have n2 := bx.cell 2; have n3 := bx.cell 3; have n4 := bx.cell 4; have ln := bx.lt; have f6 := bf.cell 6; have lf := bf.lt; have HLF := Lib.hid lf) | (at_builtin; refine wpList_append_own _ rfl _ _ 22 rfl (w.heap.size + 1 + 1 + 1) 60 i0 (.agg #[.int .i64 0, .int .i64 0, .int .i64 0, .int .i64 0, .slice none 0 0]) 5 56 Tryz.underlying22 hi0 hz0 hz1 hz2 rfl (by decide) _ T.length (rcV T) rfl ?hown ⟨_, 0, none⟩ 1 1 [.int .i64 zbird, .int .i64 zowner, .int .i64 zrank, .int .i64 zday, .slice zpa zpools.length zpc] rfl rfl (cell_new5 _ _ _) (by simp [Value.oneCell']) (by unfold maxLen; omega) (by omega) ?hbase ?hrest))
        case hown => exact own_G HO3.out ((G.rf _).a _)
        case hbase => have := HLF.out; simp only [World.alloc, Array.size_push]; omega
        case hrest =>
          intro v9 w9 hown9 hg9 _
          obtain ⟨va, vc, rfl⟩ := own_slice hown9
          have ho3 := own_G HO3.out ((G.rf w3).a (.cells #[.int .i64 zbird, .int .i64 zowner, .int .i64 zrank, .int .i64 zday, .slice zpa zpools.length zpc] 60))
          have bf3 := bf.alloc (.cells #[.int .i64 zbird, .int .i64 zowner, .int .i64 zrank, .int .i64 zday, .slice zpa zpools.length zpc] 60)
          have bf9 := bf3.grown hg9 (own_ne ho3 bf3 (by decide))
          have g9 : G W1 w9 := grow_own (gw.a _) ho3 (by omega) hg9
          clear ho3 bf3
          have HN := Lib.hid hown9
          have HB9 := Lib.hid bf9
          clear hown9 hg9 n0 n1 n2 n3 n4 ln f6 lf
          have f6 := bf9.cell 6
          have lf := bf9.lt
          have fz := bf9.frozen 6
          clear bf9
          go_wp2
          go_roundw
          case rel => exact ⟨k + 1, .slice va (T.length + 1) vc, by omega, by go_num, ⟨by
            have b := HB9.out.set_ 6 (.slice va (T.length + 1) vc)
            simp only [List.setIfInBounds_toArray, List.set_cons_zero, List.set_cons_succ] at b
            exact b, by
            rw [HS4.out, List.length_append, rcV_snoc]
            exact HN.out.kept (grownBy_set _ _ _) (.inr (own_ne HN.out HB9.out (by decide)).symm)⟩, g9.s (p := ⟨w.heap.size + 1 + 1, 6, none⟩) (Nat.le_of_eq hs1) _⟩
          case measure => simp [intOf] <;> omega
    · obtain rfl : k = racers.length := by omega
      have hki : ¬ ((racers.length : Nat) : Int) < racers.length := by omega
      obtain ⟨va, vc, rfl⟩ := own_slice HB.out.2
      have f6 := HB.out.1.cell 6
      have lf := HB.out.1.lt
      go_upto_region 9 with (go_at_call 77; refine (HSO.out _ _ _ HB.out.2).mono ?_; rintro e w3 ⟨rfl, hown3, hg3⟩)
      have b3 := HB.out.1.grown hg3 (own_ne HB.out.2 HB.out.1 (by decide))
      have g3 : G W1 w3 := grow_own hG HB.out.2 (by omega) hg3
      have br := b1.keep g3
      clear f6 lf HB hg3
      refine wp_region_lit ?_
      refine wpList_load85 (w.heap.size + 1 + 1) (.tmp 5) (REL := #[.int .i64 ystake, .int .i64 ycut, .int .i64 ykind, .slice yta ytable.length ytc, .int .i64 yquota, .bool yfirst, .slice va (RS racers.length).length vc, .slice ta protests.length tc]) ⟨_, _, _, _, _, _, _, _, _, _, _, _, _, _, rfl⟩ rfl rfl rfl b3 ?_
      try simp only [Act.put, List.getElem_toArray, List.getElem_cons_zero, List.getElem_cons_succ, List.setIfInBounds_toArray, List.set_cons_zero, List.set_cons_succ]
      refine wpList_store85 (w.heap.size + 1) (.tmp 4) (.tmp 37) (OLD := #[.int .i64 0, .int .i64 0, .int .i64 0, .slice none 0 0, .int .i64 0, .bool false, .slice none 0 0, .slice none 0 0]) (NEW := #[.int .i64 ystake, .int .i64 ycut, .int .i64 ykind, .slice yta ytable.length ytc, .int .i64 yquota, .bool yfirst, .slice va (RS racers.length).length vc, .slice ta protests.length tc]) ⟨_, _, _, _, _, _, _, _, _, _, _, _, _, _, rfl⟩ ⟨_, _, _, _, _, _, _, _, _, _, _, _, _, _, rfl⟩ rfl rfl rfl rfl br (fun W4 hb4 hF4 hG4 => ?_)
      try simp only [Act.put, List.getElem_toArray, List.getElem_cons_zero, List.getElem_cons_succ, List.setIfInBounds_toArray, List.set_cons_zero, List.set_cons_succ]
      have g4 : G w W4 := hG4 w (by omega) (g0.t g3)
      have h4 := own_away hown3 hF4 (own_ne hown3 br (by decide))
      have HF := Lib.hid (HPP.out W4 va vc (own_weaken h4 (by omega)) g4)
      have HE := Lib.hid (show (Fu.v ⟨⟨ystake, ycut, ykind, yta, ytc, ytable, yquota, yfirst⟩, va, vc, srt (RS racers.length), ta, tc, protests⟩) = #[.int .i64 ystake, .int .i64 ycut, .int .i64 ykind, .slice yta ytable.length ytc, .int .i64 yquota, .bool yfirst, .slice va (RS racers.length).length vc, .slice ta protests.length tc] by unfold Fu.v; rw [srt_len])
      clear hF4 hG4 hown3 h4 g4 b3 br hki
      go_wp2_with fail
      try simp only [Exit.inBlock, Exit.then]
      refine bodyPost_ret (res53 _ _ (w.heap.size + 1) (REL := #[.int .i64 ystake, .int .i64 ycut, .int .i64 ykind, .slice yta ytable.length ytc, .int .i64 yquota, .bool yfirst, .slice va (RS racers.length).length vc, .slice ta protests.length tc]) ⟨_, _, _, _, _, _, _, _, _, _, _, _, _, _, rfl⟩ rfl hb4) rfl ?_
      rw [← HE.out]
      exact HF.out
end Go.Proofs.YtnkmcoljijmgpaaGreat
set_option linter.unusedSimpArgs false
set_option linter.unusedVariables false
namespace Go.Proofs.YtnkmcoljijmgpaaGreat
open Go.RowKit Go.Shelf
attribute [local go_sem] Oper.semAt_some
theorem eql22 (w : World) (a : Option Addr) (n c n' c' : Nat) : (binOp .eql 22 (.slice a n c) (.slice none n' c')).run Tryz.prog w = .ok (.bool a.isNone) w := Lib.run_eql_slice_nil w 22 60 a n c n' c' Tryz.underlying22
attribute [local go_sem] eql22
theorem add_off (g off j : Nat) : (⟨g, off, none⟩ : Addr).add j = ⟨g, off + j, none⟩ := by
  unfold Addr.add
  by_cases h : j = 0
  · subst h; simp
  · simp [h]
theorem rcV_one (l : List Rc) : ∀ u ∈ rcV l, u.oneCell' = true := by
  intro u hu
  simp only [rcV, List.mem_flatMap] at hu
  obtain ⟨x, _, hx⟩ := hu
  simp [rcE, Rc.v] at hx
  rcases hx with rfl | rfl | rfl | rfl | rfl <;> rfl
theorem row_cells {W : World} {g off : Nat} {l : List Rc} (h : ∀ i, i < l.length → ∀ r, r < 5 → W.cell? ⟨g, off + i * 5 + r, none⟩ = (Rc.v (l.getD i default))[r]?) : ∀ j u, (rcV l)[j]? = some u → W.cell? ((⟨g, off, none⟩ : Addr).add j) = some u := by
  intro j u hu
  rw [add_off]
  have hj : j < l.length * 5 := by
    have := (List.getElem?_eq_some_iff.1 hu).1
    rw [rcV_len] at this
    exact this
  have e := rcV_get l (i := j / 5) (r := j % 5) (by omega) (by omega)
  rw [show j / 5 * 5 + j % 5 = j by omega, hu] at e
  have h2 := h (j / 5) (by omega) (j % 5) (by omega)
  rw [show off + j / 5 * 5 + j % 5 = off + j by omega] at h2
  rw [h2, e]
  simp [rcE]
theorem own_row {W : World} {B : Nat} {v : Value} {l : List Rc} (h : W.ownsRow B 60 5 v l.length (rcV l)) : ∃ a c, v = .slice a l.length c ∧ RowE Rc.v 5 W a l := by
  rcases h.2 with ⟨rfl, h0⟩ | ⟨g, cap, cur, rfl, hb, hg, h1, h2, h3, h4⟩
  · exact ⟨none, 0, by rw [h0], .inl h0⟩
  · refine ⟨_, _, rfl, .inr ⟨g, 0, rfl, (Array.getElem?_eq_some_iff.1 hg).1, fun i hi r hr => ?_⟩⟩
    have e := rcV_get l hi hr
    have hB : Blk W g 60 cur := hg
    have hlt : i * 5 + r < l.length * 5 := by omega
    rw [show 0 + i * 5 + r = i * 5 + r by omega, hB.cell, ← Array.getElem?_toList]
    have h5 : (cur.toList.take (l.length * 5))[i * 5 + r]? = (rcV l)[i * 5 + r]? := by rw [h4]
    rw [List.getElem?_take_of_lt hlt] at h5
    rw [h5, e]
    simp [rcE]
def RcPost (w : World) (l : List Rc) (e : Ending) (w' : World) : Prop := ∃ v, e = .returned v ∧ w'.ownsRow w.heap.size 60 5 v l.length (rcV l) ∧ G w w'
set_option maxRecDepth 100000 in
set_option maxHeartbeats 4000000 in
/-- slices.Clone -/
theorem clone_any (l : List Rc) (a : Option Addr) (cap : Nat) (w : World) (h : RowE Rc.v 5 w a l) (hl : l.length ≤ 1000) (hn : a ≠ none ∨ l = []) : Calls Tryz.prog 106 #[.slice a l.length cap] w (RcPost w l) := by
  have HP : Hid (∀ w' v, w'.ownsRow w.heap.size 60 5 v l.length (rcV l) → G w w' → RcPost w l (.returned v) w') := fun w' v a b => ⟨v, rfl, a, b⟩
  generalize RcPost w l = PP at *
  cases a with
  | none =>
    have hl0 : l = [] := hn.resolve_left (fun h => h rfl)
    subst hl0
    have HF := Lib.hid (HP.out w (.slice none 0 0) (World.ownsRow_nil _ _ _ _) (G.rf _))
    clear HP
    change Calls Tryz.prog 106 #[.slice none 0 cap] w PP
    go_enter Tryz.func106, Tryz.ntmps106
    go_wp2_with fail
    exact HF.out
  | some ad =>
    have hc : l = [] ∨ (∀ j u, (rcV l)[j]? = some u → w.cell? (ad.add j) = some u) := by
      rcases h with h | ⟨g, off, he, hg, hcell⟩
      · exact .inl (List.length_eq_zero_iff.1 h)
      · obtain rfl : ad = ⟨g, off, none⟩ := by simpa using he
        exact .inr (row_cells hcell)
    have hcell : ∀ j u, (rcV l)[j]? = some u → w.cell? (ad.add j) = some u := by
      rcases hc with rfl | hc
      · intro j u hu; simp [rcV] at hu
      · exact hc
    have HC := Lib.hid hcell
    have HO := Lib.hid (rcV_one l)
    have HL := Lib.hid (rcV_len l)
    clear hc h hn hcell
    obtain ⟨i0, hi0, hz0, hz1, hz2⟩ := info_parts info60
    go_enter Tryz.func106, Tryz.ntmps106
    go_wp2_with (at_builtin; refine wpList_append_own _ rfl _ _ 22 rfl w.heap.size 60 i0 (.agg #[.int .i64 0, .int .i64 0, .int .i64 0, .int .i64 0, .slice none 0 0]) 5 56 Tryz.underlying22 hi0 hz0 hz1 hz2 rfl (by decide) _ 0 [] rfl ?hown ad l.length cap (rcV l) rfl HL.out ?hnew HO.out (by unfold maxLen; omega) (by omega) ?hbase ?hrest)
    case hown => exact own_empty (Blk.new w 60 #[]) 5
    case hnew => exact fun j u hj => Lib.cell?_alloc_some _ (HC.out j u hj)
    case hbase => have := ((G.rf w).a (.cells #[] 60)).size; exact this
    case hrest =>
      intro v9 w9 hown9 hg9 _
      have gz : G w w9 := grow_own ((G.rf w).a (.cells #[] 60)) (own_empty (Blk.new w 60 #[]) 5) (Nat.le_refl _) hg9
      try rw [Nat.zero_add, List.nil_append] at hown9
      have HF := Lib.hid (HP.out w9 v9 hown9 gz)
      clear hown9 hg9 gz HP
      go_wp2
      exact HF.out
end Go.Proofs.YtnkmcoljijmgpaaGreat
set_option linter.unusedSimpArgs false
set_option linter.unusedVariables false
namespace Go.Proofs.YtnkmcoljijmgpaaGreat
open Go.RowKit Go.Shelf Go.Sort
attribute [local go_sem] Oper.semAt_some
set_option maxRecDepth 100000 in
set_option maxHeartbeats 4000000 in
theorem IdxRc_ex (C : FuncId) (eg : ∀ args w, (callFunc C args).run Tryz.prog w = .ok (.enter C args) w) (lb : Array Value) (W : World) (a : Option Addr) (cap : Nat) (l : List Rc) (p : Nat → Bool) (hn : l.length ≤ 1000) (ha : RowE Rc.v 5 W a l)
    (hc : ∀ W', G W W' → ∀ i, i < l.length → Calls Tryz.prog C (#[.agg (l.getD i default).v] ++ lb) W' fun e w' => e = .returned (.bool (p i)) ∧ G W' w') :
    Calls Tryz.prog 118 #[.slice a l.length cap, .func (.func C) #[] lb] W fun e w' => ∃ r : Int, e = .returned (.int .i64 r) ∧ ((r = -1 ∧ ∀ j, j < l.length → p j = false) ∨ ∃ k : Nat, r = (k : Int) ∧ k < l.length ∧ p k = true ∧ ∀ j, j < k → p j = false) ∧ G W w' := by
  have HC := Lib.hid hc
  clear hc
  go_enter Tryz.func118, Tryz.ntmps118
  go_wp2
  go_loopw [8] (fun i wr => ∃ k : Nat, k ≤ l.length ∧ i = .int .i64 k ∧ Hid (∀ j, j < k → p j = false) ∧ G W wr) (fun i _ => l.length - (intOf i).toNat)
  case atStart => exact ⟨0, Nat.zero_le _, rfl, fun j hj => by omega, G.rf _⟩
  case round =>
    obtain ⟨k, hk, rfl, hno, hG⟩ := hrel
    by_cases hlt : k < l.length
    · have hki : (k : Int) < l.length := by omega
      rcases ha with h | ⟨g, off, rfl, hg, hcell⟩
      · omega
      have lg := Nat.lt_of_lt_of_le hg hG.size
      have hcl := fun r hr => ((bcellB hG).1 g _ hg).trans (hcell k hlt r hr)
      have HC2 := Lib.hid (HC.out wr hG k hlt)
      obtain ⟨y, hy⟩ : ∃ y, y = l.getD k default := ⟨_, rfl⟩
      rw [← hy] at hcl HC2
      clear hy
      obtain ⟨ybird, yowner, yrank, yday, ypa, ypc, ypools⟩ := y
      unfold Rc.v at HC2 hcl
      have q0 : wr.cell? ⟨g, off + k * 5, none⟩ = some (.int .i64 ybird) := hcl 0 (by omega)
      have q1 : wr.cell? ⟨g, off + k * 5 + 1, none⟩ = some (.int .i64 yowner) := hcl 1 (by omega)
      have q2 : wr.cell? ⟨g, off + k * 5 + 2, none⟩ = some (.int .i64 yrank) := hcl 2 (by omega)
      have q3 : wr.cell? ⟨g, off + k * 5 + 3, none⟩ = some (.int .i64 yday) := hcl 3 (by omega)
      have q4 : wr.cell? ⟨g, off + k * 5 + 4, none⟩ = some (.slice ypa ypools.length ypc) := hcl 4 (by omega)
      clear hcl
      clear hcell HC
      cases hp : p k
      · rw [hp] at HC2
        have HP := Lib.hid hp
        clear hp
        go_wp2_with (go_at_fn C; refine (HC2.out).mono ?_; rintro e w1 ⟨rfl, hG1⟩)
        go_roundw
        case rel => exact ⟨k + 1, by omega, by go_num, fun j hj => by
          rcases Nat.lt_or_ge j k with h | h
          · exact hno.out j h
          · obtain rfl : j = k := by omega
            exact HP.out, hG.t hG1⟩
        case measure => simp [intOf] <;> omega
      · rw [hp] at HC2
        have HP := Lib.hid hp
        clear hp
        go_wp2_with (go_at_fn C; refine (HC2.out).mono ?_; rintro e w1 ⟨rfl, hG1⟩)
        go_ret
        exact ⟨k, rfl, .inr ⟨k, rfl, hlt, HP.out, hno.out⟩, hG.t hG1⟩
    · have hki : ¬ (k : Int) < l.length := by omega
      obtain rfl : k = l.length := by omega
      go_wp2
      go_ret
      exact ⟨-1, rfl, .inl ⟨rfl, hno.out⟩, hG⟩
theorem Blk.setMany {g : Nat} {t : TypeId} : ∀ (vs : List Value) (o : Nat) (W : World) (cs : Array Value), Blk W g t cs → Blk (W.setCells g o vs) g t (setMany cs o vs)
  | [], _, _, _, h => h
  | v :: r, o, W, cs, h => Blk.setMany r (o + 1) _ _ (h.set_ o v)
theorem G_setCells {w0 : World} {g : Nat} (hg : w0.heap.size ≤ g) : ∀ (vs : List Value) (o : Nat) (W : World), G w0 W → G w0 (W.setCells g o vs)
  | [], _, _, h => h
  | v :: r, o, W, h => G_setCells hg r (o + 1) _ (h.s (p := ⟨g, o, none⟩) hg v)
theorem many_get {cs : Array Value} {o : Nat} {vs : List Value} {t : Nat} (h : t < cs.size) : (setMany cs o vs)[t]? = if o ≤ t ∧ t < o + vs.length then vs[t - o]? else cs[t]? := by
  have e := get_setMany vs o cs t h
  have h2 : t < (setMany cs o vs).size := by rw [size_setMany]; exact h
  rw [getElem!_pos _ t h2] at e
  rw [Array.getElem?_eq_getElem h2, e]
  by_cases hc : o ≤ t ∧ t < o + vs.length
  · rw [if_pos hc, if_pos hc]
    have h3 : t - o < vs.length := by omega
    rw [getElem!_pos vs _ h3, List.getElem?_eq_getElem h3]
  · rw [if_neg hc, if_neg hc, getElem!_pos cs t h, Array.getElem?_eq_getElem h]
theorem blk_has {W : World} {g : Nat} {t : TypeId} {cs : Array Value} (h : Blk W g t cs) {i : Nat} (hi : i < cs.size) : (W.cell? ⟨g, i, none⟩).isSome = true := by
  rw [h.cell i, Array.getElem?_eq_getElem hi]
  rfl
/-- a whole store at a place of a row of one's own -/
theorem wpList_storeC {w : World} {ops : Array Oper} {rest : List Oper} {o : Oper} {a : Act} {Q : Exit → Act → World → Prop} (g off T : Nat) (d s : Operand) (vs : List Value) {cs : Array Value} {t : TypeId} (hgd : o.guard = none) (ho : o.op = .store T d s) (hv : a.eval d = .pointer (some ⟨g, off, none⟩)) (hs : a.eval s = .agg vs.toArray) (hsz : ∀ w, (Go.sizeOf T).run Tryz.prog w = .ok vs.length w) (hB : Blk w g t cs) (hin : off + vs.length ≤ cs.size) (h1 : ∀ v ∈ vs, v.oneCell' = true)
    (h : wpList Tryz.prog ops Q rest (a.put o.dst undef) (w.setCells g off vs)) : wpList Tryz.prog ops Q (o :: rest) a w := by
  refine wpList_plain hgd fun K hK => ?_
  have hst := run_storeCells_cells (P := Tryz.prog) g off vs 0 w (fun j hj => by rw [Nat.add_zero]; exact blk_has hB (by omega)) (fun j hj => hB.frozen _) h1
  rw [Nat.add_zero] at hst
  unfold Oper.wp
  have he : (execOp a.eval o).run Tryz.prog w = .ok .skip (w.setCells g off vs) := by
    unfold execOp
    simp only [ho, hv, hs]
    have hz := hsz w
    go_simp
  rw [he]
  exact hK _ _ h
/-- what is kept of the first j -/
def keep (p : Rc → Bool) (l : List Rc) (j : Nat) : List Rc := (l.take j).filter fun x => !p x
theorem keep_succ (p : Rc → Bool) (l : List Rc) {j : Nat} (h : j < l.length) : keep p l (j + 1) = if p (l.getD j default) = true then keep p l j else keep p l j ++ [l.getD j default] := by
  unfold keep
  rw [List.take_add_one, List.filter_append, List.getElem?_eq_getElem h]
  have e : l.getD j default = l[j] := by simp [List.getD_eq_getElem?_getD, h]
  rw [e]
  cases hv : p l[j] <;> simp [hv]
theorem keep_len (p : Rc → Bool) (l : List Rc) (j : Nat) : (keep p l j).length ≤ j := by
  unfold keep
  exact Nat.le_trans (List.length_filter_le _ _) (by rw [List.length_take]; omega)
theorem keep_all (p : Rc → Bool) (l : List Rc) (j : Nat) (h : ∀ i, i < j → p (l.getD i default) = false) (hj : j ≤ l.length) : keep p l j = l.take j := by
  unfold keep
  apply List.filter_eq_self.2
  intro x hx
  obtain ⟨i, hi, rfl⟩ := List.mem_iff_getElem.1 hx
  rw [List.length_take] at hi
  have := h i (by omega)
  rw [List.getElem_take]
  simp [List.getD_eq_getElem?_getD, show i < l.length by omega] at this
  simp [this]
theorem keep_full (p : Rc → Bool) (l : List Rc) : keep p l l.length = l.filter fun x => !p x := by unfold keep; rw [List.take_length]
/-- the row while DeleteFunc works: the first ones are those kept, from j on it is as it was -/
structure DelAt (W : World) (g cap : Nat) (p : Rc → Bool) (l : List Rc) (j : Nat) (cur : Array Value) : Prop where
  blk : Blk W g 60 cur
  sz : cur.size = cap * 5
  done : ∀ t, t < (keep p l j).length → ∀ r, r < 5 → cur[t * 5 + r]? = (rcE ((keep p l j).getD t default))[r]?
  rest : ∀ t, j ≤ t → t < l.length → ∀ r, r < 5 → cur[t * 5 + r]? = (rcE (l.getD t default))[r]?
theorem DelAt.keepG {W W' : World} {g cap j : Nat} {p : Rc → Bool} {l : List Rc} {cur : Array Value} (h : DelAt W g cap p l j cur) (hG : G W W') : DelAt W' g cap p l j cur := ⟨h.blk.keep hG, h.sz, h.done, h.rest⟩
theorem DelAt.skip {W : World} {g cap j : Nat} {p : Rc → Bool} {l : List Rc} {cur : Array Value} (h : DelAt W g cap p l j cur) (hj : j < l.length) (hp : p (l.getD j default) = true) : DelAt W g cap p l (j + 1) cur :=
  ⟨h.blk, h.sz, by rw [keep_succ p l hj, if_pos hp]; exact h.done, fun t a b => h.rest t (by omega) b⟩
theorem DelAt.put {W : World} {g cap j : Nat} {p : Rc → Bool} {l : List Rc} {cur : Array Value} (h : DelAt W g cap p l j cur) (hj : j < l.length) (hc : l.length ≤ cap) (hp : p (l.getD j default) = false) :
    DelAt (W.setCells g ((keep p l j).length * 5) (rcE (l.getD j default))) g cap p l (j + 1) (setMany cur ((keep p l j).length * 5) (rcE (l.getD j default))) := by
  have hk := keep_len p l j
  have hs := h.sz
  refine ⟨Blk.setMany _ _ _ _ h.blk, by rw [size_setMany]; exact hs, ?_, ?_⟩
  · rw [keep_succ p l hj, if_neg (by rw [hp]; simp)]
    intro t ht r hr
    rw [List.length_append, List.length_singleton] at ht
    rw [many_get (by omega), rcE_len]
    by_cases h1 : t < (keep p l j).length
    · rw [if_neg (by omega), h.done t h1 r hr]
      simp [List.getD_eq_getElem?_getD, List.getElem?_append_left h1]
    · obtain rfl : t = (keep p l j).length := by omega
      rw [if_pos (by omega), show (keep p l j).length * 5 + r - (keep p l j).length * 5 = r by omega]
      simp [List.getD_eq_getElem?_getD]
  · intro t ht1 ht2 r hr
    rw [many_get (by omega), rcE_len, if_neg (by omega)]
    exact h.rest t (by omega) ht2 r hr
theorem DelAt.start {W : World} {g cap k : Nat} {p : Rc → Bool} {l : List Rc} {cur : Array Value} (hB : Blk W g 60 cur) (hs : cur.size = cap * 5) (ht : cur.toList.take (l.length * 5) = rcV l) (hk : k < l.length) (hp : p (l.getD k default) = true) (hn : ∀ i, i < k → p (l.getD i default) = false) :
    (keep p l (k + 1)).length = k ∧ DelAt W g cap p l (k + 1) cur := by
  have hget : ∀ t, t < l.length → ∀ r, r < 5 → cur[t * 5 + r]? = (rcE (l.getD t default))[r]? := fun t ht1 r hr => by
    have e := rcV_get l ht1 hr
    have h5 : (cur.toList.take (l.length * 5))[t * 5 + r]? = (rcV l)[t * 5 + r]? := by rw [ht]
    rw [List.getElem?_take_of_lt (by omega)] at h5
    rw [← Array.getElem?_toList, h5, e]
  have hk1 : keep p l (k + 1) = l.take k := by rw [keep_succ p l hk, if_pos hp, keep_all p l k hn (by omega)]
  have hkl : (l.take k).length = k := by rw [List.length_take]; omega
  refine ⟨by rw [hk1, hkl], ⟨hB, hs, ?_, fun t _ b => hget t b⟩⟩
  rw [hk1]
  intro t ht1 r hr
  rw [hkl] at ht1
  rw [hget t (by omega) r hr]
  simp [List.getD_eq_getElem?_getD, List.getElem?_take_of_lt ht1]
/-- the end: the kept ones' row -/
theorem DelAt.fin {W W' : World} {g cap B c : Nat} {p : Rc → Bool} {l : List Rc} {cur : Array Value} (h : DelAt W g cap p l l.length cur) (hg : B ≤ g) (h1 : l.length ≤ cap) (h2 : cap ≤ maxLen) (vs : List Value) (hW : W' = W.setCells g ((keep p l l.length).length * 5) vs) :
    W'.ownsRow B 60 5 (.slice (some ⟨g, 0, none⟩) (keep p l l.length).length cap) (keep p l l.length).length (rcV (keep p l l.length)) := by
  subst hW
  have hk := keep_len p l l.length
  have hs := h.sz
  refine ⟨rcV_len _, .inr ⟨g, cap, _, rfl, hg, Blk.setMany vs _ _ _ h.blk, by omega, h2, by rw [size_setMany]; exact hs, ?_⟩⟩
  apply List.ext_getElem?
  intro t
  by_cases ht : t < (keep p l l.length).length * 5
  · rw [List.getElem?_take_of_lt ht, Array.getElem?_toList, many_get (by omega), if_neg (by omega)]
    have e := h.done (t / 5) (by omega) (t % 5) (by omega)
    have e2 := rcV_get (keep p l l.length) (i := t / 5) (r := t % 5) (by omega) (by omega)
    rw [show t / 5 * 5 + t % 5 = t by omega] at e e2
    rw [e, e2]
  · rw [List.getElem?_take_eq_none (by omega), List.getElem?_eq_none (by rw [rcV_len]; omega)]
end Go.Proofs.YtnkmcoljijmgpaaGreat
set_option linter.unusedSimpArgs false
set_option linter.unusedVariables false
namespace Go.Proofs.YtnkmcoljijmgpaaGreat
open Go.RowKit Go.Shelf Go.Sort
attribute [local go_sem] Oper.semAt_some
theorem clear60 (w : World) (g o n c : Nat) {cur : Array Value} (hB : Blk w g 60 cur) (hin : o + n * 5 ≤ cur.size) : ∃ vs, ∀ ty, (Builtin.clear_ #[22] ty #[.slice (some ⟨g, o, none⟩) n c]).run Tryz.prog w = .ok (.tuple #[]) (w.setCells g o vs) := by
  cases n with
  | zero => exact ⟨[], fun ty => by simp [Builtin.clear_, run_underlying Tryz.underlying22, World.setCells]⟩
  | succ m =>
    refine ⟨(Builtin.zeroCells (Value.cells (.agg #[.int .i64 0, .int .i64 0, .int .i64 0, .int .i64 0, .slice none 0 0])) (m + 1)).toList, fun ty => ?_⟩
    have hl : (Builtin.zeroCells (Value.cells (.agg #[.int .i64 0, .int .i64 0, .int .i64 0, .int .i64 0, .slice none 0 0])) (m + 1)).toList.length = (m + 1) * 5 := by simp [Builtin.zeroCells, Value.cells]
    have h1 : ∀ v ∈ (Builtin.zeroCells (Value.cells (.agg #[.int .i64 0, .int .i64 0, .int .i64 0, .int .i64 0, .slice none 0 0])) (m + 1)).toList, v.oneCell' = true := by
      intro v hv
      simp only [Builtin.zeroCells, Array.toList_map, List.mem_map] at hv
      obtain ⟨i, hi, rfl⟩ := hv
      show (#[Value.int .i64 0, Value.int .i64 0, Value.int .i64 0, Value.int .i64 0, Value.slice none 0 0][i % 5]!).oneCell' = true
      have h5 : i % 5 = 0 ∨ i % 5 = 1 ∨ i % 5 = 2 ∨ i % 5 = 3 ∨ i % 5 = 4 := by omega
      rcases h5 with h5 | h5 | h5 | h5 | h5 <;> rw [h5] <;> rfl
    have hst := run_storeCells_cells (P := Tryz.prog) g o _ 0 w (fun j hj => by rw [Nat.add_zero]; exact blk_has hB (by omega)) (fun j hj => hB.frozen _) h1
    rw [Nat.add_zero] at hst
    have hz := Tryz.zeroValue60 w
    simp [Builtin.clear_, run_underlying Tryz.underlying22, hz, hst]
def DelPost (w0 : World) (B : Nat) (f : List Rc) (e : Ending) (w' : World) : Prop := ∃ v', e = .returned v' ∧ w'.ownsRow B 60 5 v' f.length (rcV f) ∧ G w0 w'
set_option maxRecDepth 100000 in
set_option maxHeartbeats 8000000 in
/-- slices.DeleteFunc at a row of one's own -/
theorem delete_any (C : FuncId) (eg : ∀ args w, (callFunc C args).run Tryz.prog w = .ok (.enter C args) w) (lb : Array Value) (p : Rc → Bool) (l : List Rc) (B : Nat) (v : Value) (w0 W : World) (hB : w0.heap.size ≤ B) (hG0 : G w0 W) (h : W.ownsRow B 60 5 v l.length (rcV l)) (hl : l.length ≤ 1000)
    (hc : ∀ W', G w0 W' → ∀ i, i < l.length → Calls Tryz.prog C (#[.agg (l.getD i default).v] ++ lb) W' fun e w' => e = .returned (.bool (p (l.getD i default))) ∧ G W' w') :
    Calls Tryz.prog 105 #[v, .func (.func C) #[] lb] W (DelPost w0 B (l.filter fun x => !p x)) := by
  obtain ⟨a0, c0, hv0, hrow⟩ := own_row h
  have hi := IdxRc_ex C eg lb W a0 c0 l (fun i => p (l.getD i default)) hl hrow (fun W' hW i hi => hc W' (hG0.t hW) i hi)
  rw [← hv0] at hi
  have HI := Lib.hid hi
  clear hi
  have HPK : Hid (∀ w' v', w'.ownsRow B 60 5 v' (keep p l l.length).length (rcV (keep p l l.length)) → G w0 w' → DelPost w0 B (l.filter fun x => !p x) (.returned v') w') := fun w' v' a b => ⟨v', rfl, by rw [keep_full] at a; exact a, b⟩
  generalize DelPost w0 B (l.filter fun x => !p x) = PP at *
  have HC := Lib.hid hc
  have HW := Lib.hid h
  clear hc hrow hv0 h
  go_enter Tryz.func105, Tryz.ntmps105
  go_upto_region 2 with (go_at_call 118; refine (HI.out).mono ?_; rintro e w1 ⟨r, rfl, hr, hG1⟩)
  have HO := Lib.hid (own_G HW.out hG1)
  replace hG0 := hG0.t hG1
  clear hG1
  rcases hr with ⟨rfl, hn⟩ | ⟨k, rfl, hk, hpk, hn⟩
  · have hf := keep_all p l l.length hn (Nat.le_refl _)
    rw [List.take_length] at hf
    have HF := Lib.hid (HPK.out w1 v (by rw [hf]; exact HO.out) hG0)
    clear hn hf
    go_wp2_with fail
    exact HF.out
  · have hne : ((k : Int) == -1) = false := by simp
    rcases HO.out.2 with ⟨_, h0⟩ | ⟨g, cap, cur0, rfl, hbg, hg, h1, h2, h3, h4⟩
    · omega
    have hst := DelAt.start (p := p) (W := w1) (g := g) (cap := cap) (cur := cur0) hg h3 h4 hk hpk hn
    obtain ⟨hkl, hst⟩ := hst
    have HST := Lib.hid hst
    clear hst hn h4 h3 hg hpk HO HW HI
    have hgB : w0.heap.size ≤ g := Nat.le_trans hB hbg
    go_upto_region 4 with fail
    have hk1 : (k : Int) + 1 ≤ l.length := by omega
    go_wp2_with fail
    go_loopw [5, 6] (fun vi vj wr => ∃ (j : Nat) (cur : Array Value), j ≤ l.length ∧ vj = .int .i64 j ∧ vi = .int .i64 (keep p l j).length ∧ Hid (DelAt wr g cap p l j cur) ∧ G w0 wr) (fun _ vj _ => l.length - (intOf vj).toNat)
    case atStart => exact ⟨k + 1, cur0, hk, by go_num, by rw [hkl], HST.out, hG0⟩
    case round =>
      clear HST hG0 hkl hk hk1 hne
      obtain ⟨j, cur, hj, rfl, rfl, HD, hG⟩ := hrel
      obtain ⟨wo, rfl⟩ : ∃ wo, wo = wr := ⟨_, rfl⟩
      have hkj := keep_len p l j
      obtain ⟨q, hq⟩ : ∃ q, q = (keep p l j).length := ⟨_, rfl⟩
      rw [← hq] at hkj ⊢
      by_cases hlt : j < l.length
      · have hji : (j : Int) < l.length := by omega
        have hqi : (q : Int) < l.length := by omega
        have hql : q < l.length := by omega
        have lg := HD.out.blk.lt
        have hcl : ∀ r, r < 5 → wo.cell? ⟨g, j * 5 + r, none⟩ = (rcE (l.getD j default))[r]? := fun r hr => (HD.out.blk.cell _).trans (HD.out.rest j (Nat.le_refl _) hlt r hr)
        have HC2 := Lib.hid (fun W' hW => HC.out W' hW j hlt)
        have HSK := Lib.hid (fun (W : World) (hD : DelAt W g cap p l j cur) (hp : p (l.getD j default) = true) => And.intro (show (keep p l (j + 1)).length = q by rw [keep_succ p l hlt, if_pos hp, hq]) (hD.skip hlt hp))
        have HPU := Lib.hid (fun (W : World) (hD : DelAt W g cap p l j cur) (hp : p (l.getD j default) = false) => And.intro (show (keep p l (j + 1)).length = q + 1 by rw [keep_succ p l hlt, if_neg (by rw [hp]; simp), List.length_append, hq]; rfl) (hD.put hlt h1 hp))
        rw [← hq] at HPU
        obtain ⟨y, hy⟩ : ∃ y, y = l.getD j default := ⟨_, rfl⟩
        rw [← hy] at hcl HC2 HSK HPU
        clear hy hq
        obtain ⟨zbird, zowner, zrank, zday, zpa, zpc, zpools⟩ := y
        unfold Rc.v at HC2
        have q0 : wo.cell? ⟨g, j * 5, none⟩ = some (.int .i64 zbird) := hcl 0 (by omega)
        have q1 : wo.cell? ⟨g, j * 5 + 1, none⟩ = some (.int .i64 zowner) := hcl 1 (by omega)
        have q2 : wo.cell? ⟨g, j * 5 + 2, none⟩ = some (.int .i64 zrank) := hcl 2 (by omega)
        have q3 : wo.cell? ⟨g, j * 5 + 3, none⟩ = some (.int .i64 zday) := hcl 3 (by omega)
        have q4 : wo.cell? ⟨g, j * 5 + 4, none⟩ = some (.slice zpa zpools.length zpc) := hcl 4 (by omega)
        clear hcl
        go_upto_region 8 with fail
        have bx : Blk (wo.alloc (.cells #[.int .i64 zbird, .int .i64 zowner, .int .i64 zrank, .int .i64 zday, .slice zpa zpools.length zpc] 60)) wo.heap.size 60 #[.int .i64 zbird, .int .i64 zowner, .int .i64 zrank, .int .i64 zday, .slice zpa zpools.length zpc] := Blk.new _ _ _
        have HD2 := Lib.hid (HD.out.keepG ((G.rf wo).a (.cells #[.int .i64 zbird, .int .i64 zowner, .int .i64 zrank, .int .i64 zday, .slice zpa zpools.length zpc] 60)))
        have gw := hG.a (.cells #[.int .i64 zbird, .int .i64 zowner, .int .i64 zrank, .int .i64 zday, .slice zpa zpools.length zpc] 60)
        clear q0 q1 q2 q3 q4 lg HD hG
        change Code.wp _ _ _ _ (wo.alloc (.cells #[.int .i64 zbird, .int .i64 zowner, .int .i64 zrank, .int .i64 zday, .slice zpa zpools.length zpc] 60))
        obtain ⟨gx, hgx⟩ : ∃ gx, gx = wo.heap.size := ⟨_, rfl⟩
        rw [← hgx] at bx ⊢
        clear hgx
        generalize wo.alloc (.cells #[.int .i64 zbird, .int .i64 zowner, .int .i64 zrank, .int .i64 zday, .slice zpa zpools.length zpc] 60) = w2 at *
        have n0 := bx.cell 0
        have n1 := bx.cell 1
        have n2 := bx.cell 2
        have n3 := bx.cell 3
        have n4 := bx.cell 4
        have ln := bx.lt
        have HC3 := Lib.hid (HC2.out w2 gw)
        cases hv : p ⟨zbird, zowner, zrank, zday, zpa, zpc, zpools⟩
        · rw [hv] at HC3
          have HV := Lib.hid hv
          clear hv HC2 HSK
          go_upto_region 9 with (go_at_fn C; refine (HC3.out).mono ?_; rintro e w3 ⟨rfl, hG3⟩; clear n0 n1 n2 n3 n4 ln)
          have HD3 := Lib.hid (HD2.out.keepG hG3)
          replace bx := bx.keep hG3
          replace gw := gw.t hG3
          have n0 := bx.cell 0
          have n1 := bx.cell 1
          have n2 := bx.cell 2
          have n3 := bx.cell 3
          have n4 := bx.cell 4
          have ln := bx.lt
          have hsz := HD3.out.sz
          obtain ⟨u0, c0⟩ := Option.isSome_iff_exists.1 (blk_has HD3.out.blk (i := q * 5) (by omega))
          obtain ⟨u1, c1⟩ := Option.isSome_iff_exists.1 (blk_has HD3.out.blk (i := q * 5 + 1) (by omega))
          obtain ⟨u2, c2⟩ := Option.isSome_iff_exists.1 (blk_has HD3.out.blk (i := q * 5 + 2) (by omega))
          obtain ⟨u3, c3⟩ := Option.isSome_iff_exists.1 (blk_has HD3.out.blk (i := q * 5 + 3) (by omega))
          obtain ⟨u4, c4⟩ := Option.isSome_iff_exists.1 (blk_has HD3.out.blk (i := q * 5 + 4) (by omega))
          have z0 := HD3.out.blk.frozen (q * 5)
          have z1 := HD3.out.blk.frozen (q * 5 + 1)
          have z2 := HD3.out.blk.frozen (q * 5 + 2)
          have z3 := HD3.out.blk.frozen (q * 5 + 3)
          have z4 := HD3.out.blk.frozen (q * 5 + 4)
          have lg := HD3.out.blk.lt
          clear bx
          go_wp2_with fail
          have hpu := HPU.out w3 HD3.out HV.out
          go_roundw
          case rel => exact ⟨j + 1, _, by omega, by go_num, by rw [hpu.1]; go_num, hpu.2, G_setCells hgB (rcE ⟨zbird, zowner, zrank, zday, zpa, zpc, zpools⟩) (q * 5) w3 gw⟩
          case measure => simp [intOf] <;> omega
        · rw [hv] at HC3
          have HV := Lib.hid hv
          clear hv HC2 HPU
          go_wp2_with (go_at_fn C; refine (HC3.out).mono ?_; rintro e w3 ⟨rfl, hG3⟩)
          have hsk := HSK.out w3 (HD2.out.keepG hG3) HV.out
          go_roundw
          case rel => exact ⟨j + 1, cur, by omega, by go_num, by rw [hsk.1], hsk.2, gw.t hG3⟩
          case measure => simp [intOf] <;> omega
      · obtain rfl : j = l.length := by omega
        have hji : ¬ ((l.length : Nat) : Int) < l.length := by omega
        have hql : (q : Int) ≤ l.length := by omega
        have hsz := HD.out.sz
        obtain ⟨vs, hcl⟩ := clear60 wo g (q * 5) (l.length - q) (cap - q) HD.out.blk (by omega)
        have HFN := Lib.hid (HD.out.fin (c := 0) hbg h1 h2 vs (W' := wo.setCells g (q * 5) vs) (by rw [hq]))
        rw [← hq] at HFN
        have HGN := Lib.hid (G_setCells hgB vs (q * 5) wo hG)
        have hqc : q ≤ cap := by omega
        have HF := Lib.hid (fun (h : (wo.setCells g (q * 5) vs).ownsRow B 60 5 (.slice (some ⟨g, 0, none⟩) q cap) q (rcV (keep p l l.length))) => HPK.out _ _ (by rw [← hq]; exact h) HGN.out)
        have HPE : Hid (l.length - q = 0 → PP (.returned (.slice (some ⟨g, 0, none⟩) q cap)) wo) := fun _ => by
          have h9 := HD.out.fin (c := 0) hbg h1 h2 [] (W' := wo) rfl
          rw [← hq] at h9
          exact HPK.out _ _ (by rw [← hq]; exact h9) hG
        clear HC HPK hq
        have HF0 := Lib.hid (HF.out HFN.out)
        by_cases hqe : q = cap
        · have h0 : l.length - q = 0 := by omega
          have hv0 : vs = [] ∨ True := .inr trivial
          have hcl0 : ∀ ty, (Builtin.clear_ #[22] ty #[.slice (some ⟨g, 0, none⟩) (l.length - q) 0]).run Tryz.prog wo = .ok (.tuple #[]) wo := fun ty => by
            rw [h0]
            simp [Builtin.clear_, run_underlying Tryz.underlying22]
          have hcl1 : ∀ ty, (Builtin.clear_ #[22] ty #[.slice (some ⟨g, 0, none⟩) 0 0]).run Tryz.prog wo = .ok (.tuple #[]) wo := fun ty => by
            simp [Builtin.clear_, run_underlying Tryz.underlying22]
          have HF2 := Lib.hid (HPE.out h0)
          clear hcl hv0 h0
          subst hqe
          go_wp2_with (simp only [hcl0, hcl1])
          exact HF2.out
        · go_wp2_with (simp only [hcl])
          exact HF0.out
end Go.Proofs.YtnkmcoljijmgpaaGreat
set_option linter.unusedSimpArgs false
set_option linter.unusedVariables false
namespace Go.Proofs.YtnkmcoljijmgpaaGreat
open Go.RowKit Go.Shelf Go.Sort
attribute [local go_sem] Oper.semAt_some
theorem wpAnyY_twoSW {P : Program} {ops : Array Oper} {md : Region.Mode} {Q : Exit → Act → World → Prop} {S : World → Prop} {z : Nat} {i j : Nat} {oi oj : Oper} {fuel : Nat} {l : Array Bool} {a : Act} {w : World} (hr : Region.ready md ops l = [i, j]) (hi : ops[i]? = some oi) (hj : ops[j]? = some oj)
    (hwi : Region.wanted oi (yielded ops a.tmps) = true) (hwj : Region.wanted oj (yielded ops a.tmps) = true)
    (h1 : ∀ K' : Act → World → Prop, Shut (∀ a w, S w → (S w → wpAnyY P md ops Q S z fuel (l.setIfInBounds i true) a w) → K' a w) → Oper.wp P oi a w K' Q)
    (h2 : ∀ K' : Act → World → Prop, Shut (∀ a w, S w → (S w → wpAnyY P md ops Q S z fuel (l.setIfInBounds j true) a w) → K' a w) → Oper.wp P oj a w K' Q) :
    wpAnyY P md ops Q S z (fuel + 1) l a w := by
  refine ⟨fun h0 => (by rw [hr] at h0; cases h0), fun k hk => ?_⟩
  rw [hr] at hk
  have hk2 : k = i ∨ k = j := by simpa using hk
  rcases hk2 with rfl | rfl
  · exact wpOp_step hi (fun K' hK => by rw [if_pos hwi]; exact h1 K' (fun a w hS hW => hK a w ⟨fun _ => hS, hW hS⟩))
  · exact wpOp_step hj (fun K' hK => by rw [if_pos hwj]; exact h2 K' (fun a w hS hW => hK a w ⟨fun _ => hS, hW hS⟩))
/-- draws and new blocks, nothing else -/
def Gx (W w' : World) : Prop := ∃ q os', w' = grow (W.drewN q) os'
theorem Gx.rf (W : World) : Gx W W := ⟨0, #[], by rw [grow_empty]; rfl⟩
theorem Gx.t {a b c : World} (h : Gx a b) (k : Gx b c) : Gx a c := by
  obtain ⟨q, os, rfl⟩ := h
  obtain ⟨q2, os2, rfl⟩ := k
  exact ⟨q + q2, os ++ os2, by show grow (grow ((a.drewN q).drewN q2) os) os2 = _; rw [grow_grow, World.drewN_drewN]⟩
theorem Gx.a {a b : World} (h : Gx a b) (o : Obj) : Gx a (b.alloc o) := h.t ⟨0, #[o], by rw [alloc_eq_grow]; rfl⟩
theorem Gx.d {a b : World} (h : Gx a b) : Gx a b.drew := h.t ⟨1, #[], by rw [grow_empty]; rfl⟩
theorem Gx.g {a b : World} (h : Gx a b) : G a b := by
  obtain ⟨q, os, rfl⟩ := h
  exact ⟨rfl, rfl, rfl, by simp, fun i hi => heap_grow_old _ _ (by simpa using hi)⟩
def orI (d r : Int) : Int := if d = 0 then r else d
set_option maxRecDepth 100000 in
set_option maxHeartbeats 4000000 in
theorem or_any (d r : Int) (g cap : Nat) (W : World) (c0 : W.cell? ⟨g, 0, none⟩ = some (.int .i64 d)) (c1 : W.cell? ⟨g, 1, none⟩ = some (.int .i64 r)) (hg : g < W.heap.size) : Calls Tryz.prog 110 #[.slice (some ⟨g, 0, none⟩) 2 cap] W fun e w' => e = .returned (.int .i64 (orI d r)) ∧ w' = W := by
  have HO : Hid (∀ x, x = orI d r → Calls Tryz.prog 110 #[.slice (some ⟨g, 0, none⟩) 2 cap] W (fun e w' => e = .returned (.int .i64 x) ∧ w' = W) → Calls Tryz.prog 110 #[.slice (some ⟨g, 0, none⟩) 2 cap] W fun e w' => e = .returned (.int .i64 (orI d r)) ∧ w' = W) := fun x hx h => by rw [← hx]; exact h
  by_cases hd : d = 0
  · refine HO.out r (by simp [orI, hd]) ?_
    subst hd
    by_cases hr : r = 0
    · subst hr
      clear HO
      go_enter Tryz.func110, Tryz.ntmps110
      go_wp2_with fail
      go_loopw [8] (fun i wr => ∃ k : Nat, k ≤ 2 ∧ i = .int .i64 k ∧ wr = W) (fun i _ => 2 - (intOf i).toNat)
      case atStart => exact ⟨0, by omega, rfl, rfl⟩
      case round =>
        obtain ⟨k, hk, rfl, rfl⟩ := hrel
        have h3 : k = 0 ∨ k = 1 ∨ k = 2 := by omega
        rcases h3 with rfl | rfl | rfl
        · go_wp2_with fail
          go_roundw
          case rel => exact ⟨1, by omega, by go_num, by first | rfl | trivial⟩
          case measure => simp [intOf] <;> omega
        · go_wp2_with fail
          go_roundw
          case rel => exact ⟨2, by omega, by go_num, by first | rfl | trivial⟩
          case measure => simp [intOf] <;> omega
        · go_wp2_with fail
          first | exact ⟨rfl, rfl⟩ | (go_ret; exact ⟨rfl, rfl⟩)
    · have e1 : (r == 0) = false := by simpa using hr
      clear HO
      go_enter Tryz.func110, Tryz.ntmps110
      go_wp2_with fail
      go_loopw [8] (fun i wr => ∃ k : Nat, k ≤ 1 ∧ i = .int .i64 k ∧ wr = W) (fun i _ => 2 - (intOf i).toNat)
      case atStart => exact ⟨0, by omega, rfl, rfl⟩
      case round =>
        obtain ⟨k, hk, rfl, rfl⟩ := hrel
        have h3 : k = 0 ∨ k = 1 := by omega
        rcases h3 with rfl | rfl
        · go_wp2_with fail
          go_roundw
          case rel => exact ⟨1, by omega, by go_num, by first | rfl | trivial⟩
          case measure => simp [intOf] <;> omega
        · go_wp2_with fail
          first | exact ⟨rfl, rfl⟩ | (go_ret; exact ⟨rfl, rfl⟩)
  · refine HO.out d (by simp [orI, hd]) ?_
    have e1 : (d == 0) = false := by simpa using hd
    clear HO
    go_enter Tryz.func110, Tryz.ntmps110
    go_wp2_with fail
    go_loopw [8] (fun i wr => i = .int .i64 0 ∧ wr = W) (fun i _ => 2 - (intOf i).toNat)
    case atStart => exact ⟨rfl, rfl⟩
    case round =>
      obtain ⟨rfl, rfl⟩ := hrel
      go_wp2_with fail
      first | exact ⟨rfl, rfl⟩ | (go_ret; exact ⟨rfl, rfl⟩)
/-- the code's order of takers: by day, then by rank -/
def takeC (x y : Rc) : Int := orI (cmpI x.day y.day) (cmpI x.rank y.rank)
set_option maxRecDepth 100000 in
set_option maxHeartbeats 4000000 in
theorem closure109 (x y : Rc) (W : World) : Calls Tryz.prog 109 #[.agg x.v, .agg y.v] W fun e w' => e = .returned (.int .i64 (takeC x y)) ∧ Gx W w' := by
  have HD := Lib.hid (fun W' => cmp_any x.day y.day W')
  have HR := Lib.hid (fun W' => cmp_any x.rank y.rank W')
  have HO := Lib.hid (fun (g cap : Nat) (W' : World) (c0 : W'.cell? ⟨g, 0, none⟩ = some (.int .i64 (cmpI x.day y.day))) (c1 : W'.cell? ⟨g, 1, none⟩ = some (.int .i64 (cmpI x.rank y.rank))) (hg : g < W'.heap.size) => or_any _ _ g cap W' c0 c1 hg)
  unfold takeC
  generalize cmpI x.day y.day = DD at *
  generalize cmpI x.rank y.rank = RR at *
  generalize orI DD RR = OO at *
  obtain ⟨xb, xo, xr, xd, xpa, xpc, xp⟩ := x
  obtain ⟨yb, yo, yr, yd, ypa, ypc, yp⟩ := y
  unfold Rc.v
  dsimp only at *
  have gx0 : Gx W ((W.alloc (.cells #[.int .i64 xb, .int .i64 xo, .int .i64 xr, .int .i64 xd, .slice xpa xp.length xpc] 60)).alloc (.cells #[.int .i64 yb, .int .i64 yo, .int .i64 yr, .int .i64 yd, .slice ypa yp.length ypc] 60)) := ((Gx.rf _).a _).a _
  have bx : Blk ((W.alloc (.cells #[.int .i64 xb, .int .i64 xo, .int .i64 xr, .int .i64 xd, .slice xpa xp.length xpc] 60)).alloc (.cells #[.int .i64 yb, .int .i64 yo, .int .i64 yr, .int .i64 yd, .slice ypa yp.length ypc] 60)) W.heap.size 60 #[.int .i64 xb, .int .i64 xo, .int .i64 xr, .int .i64 xd, .slice xpa xp.length xpc] := (Blk.new _ _ _).alloc _
  have by1 : Blk ((W.alloc (.cells #[.int .i64 xb, .int .i64 xo, .int .i64 xr, .int .i64 xd, .slice xpa xp.length xpc] 60)).alloc (.cells #[.int .i64 yb, .int .i64 yo, .int .i64 yr, .int .i64 yd, .slice ypa yp.length ypc] 60)) (W.heap.size + 1) 60 #[.int .i64 yb, .int .i64 yo, .int .i64 yr, .int .i64 yd, .slice ypa yp.length ypc] := Blk.new1 _ _ _ _
  go_enter Tryz.func109, Tryz.ntmps109
  go_upto_region 1 with fail
  change Code.wp _ _ _ _ ((W.alloc (.cells #[.int .i64 xb, .int .i64 xo, .int .i64 xr, .int .i64 xd, .slice xpa xp.length xpc] 60)).alloc (.cells #[.int .i64 yb, .int .i64 yo, .int .i64 yr, .int .i64 yd, .slice ypa yp.length ypc] 60))
  obtain ⟨gy, hgy⟩ : ∃ gy, gy = W.heap.size + 1 := ⟨_, rfl⟩
  obtain ⟨gx, hgx⟩ : ∃ gx, gx = W.heap.size := ⟨_, rfl⟩
  rw [← hgy] at by1 ⊢
  rw [← hgx] at bx ⊢
  clear hgx hgy
  generalize ((W.alloc (.cells #[.int .i64 xb, .int .i64 xo, .int .i64 xr, .int .i64 xd, .slice xpa xp.length xpc] 60)).alloc (.cells #[.int .i64 yb, .int .i64 yo, .int .i64 yr, .int .i64 yd, .slice ypa yp.length ypc] 60)) = W1 at *
  have hSk : ∀ W', Gx W1 W' → (W'.cell? ⟨gx, 2, none⟩ = some (.int .i64 xr) ∧ W'.cell? ⟨gx, 3, none⟩ = some (.int .i64 xd) ∧ gx < W'.heap.size) ∧ (W'.cell? ⟨gy, 2, none⟩ = some (.int .i64 yr) ∧ W'.cell? ⟨gy, 3, none⟩ = some (.int .i64 yd) ∧ gy < W'.heap.size) := fun W' hW =>
    ⟨⟨(bx.keep hW.g).cell 2, (bx.keep hW.g).cell 3, (bx.keep hW.g).lt⟩, ⟨(by1.keep hW.g).cell 2, (by1.keep hW.g).cell 3, (by1.keep hW.g).lt⟩⟩
  have ga := (Gx.rf W1).d
  refine wp_region_Y (S := fun W' => (W'.cell? ⟨gx, 2, none⟩ = some (.int .i64 xr) ∧ W'.cell? ⟨gx, 3, none⟩ = some (.int .i64 xd) ∧ gx < W'.heap.size) ∧ (W'.cell? ⟨gy, 2, none⟩ = some (.int .i64 yr) ∧ W'.cell? ⟨gy, 3, none⟩ = some (.int .i64 yd) ∧ gy < W'.heap.size)) 12 13 rfl (by kernel_rfl) (hSk _ ga) (fun hS => ?_)
  refine wpAnyY_take (i := 0) (v := ?_) rfl (by kernel_rfl) (by kernel_rfl) (by kernel_rfl) (by kernel_rfl) (fun _ _ _ h => h) (Or.inl ⟨by kernel_rfl, ?_⟩) hS ?_
  rotate_left
  · intro w' hSw; go_simp; with_reducible rfl
  try simp only [Act.put, List.getElem_toArray, List.getElem_cons_zero, List.getElem_cons_succ, List.setIfInBounds_toArray, List.set_cons_zero, List.set_cons_succ]
  refine wpAnyY_take (i := 1) (v := ?_) rfl (by kernel_rfl) (by kernel_rfl) (by kernel_rfl) (by kernel_rfl) (fun _ _ _ h => h) (Or.inl ⟨by kernel_rfl, ?_⟩) hS ?_
  rotate_left
  · intro w' hSw; obtain ⟨⟨s2, s3, sl⟩, ⟨u2, u3, ul⟩⟩ := hSw; go_simp; with_reducible rfl
  try simp only [Act.put, List.getElem_toArray, List.getElem_cons_zero, List.getElem_cons_succ, List.setIfInBounds_toArray, List.set_cons_zero, List.set_cons_succ]
  refine wpAnyY_take (i := 2) (v := ?_) rfl (by kernel_rfl) (by kernel_rfl) (by kernel_rfl) (by kernel_rfl) (fun _ _ _ h => h) (Or.inl ⟨by kernel_rfl, ?_⟩) hS ?_
  rotate_left
  · intro w' hSw; go_simp; with_reducible rfl
  try simp only [Act.put, List.getElem_toArray, List.getElem_cons_zero, List.getElem_cons_succ, List.setIfInBounds_toArray, List.set_cons_zero, List.set_cons_succ]
  refine wpAnyY_take (i := 3) (v := ?_) rfl (by kernel_rfl) (by kernel_rfl) (by kernel_rfl) (by kernel_rfl) (fun _ _ _ h => h) (Or.inl ⟨by kernel_rfl, ?_⟩) hS ?_
  rotate_left
  · intro w' hSw; obtain ⟨⟨s2, s3, sl⟩, ⟨u2, u3, ul⟩⟩ := hSw; go_simp; with_reducible rfl
  try simp only [Act.put, List.getElem_toArray, List.getElem_cons_zero, List.getElem_cons_succ, List.setIfInBounds_toArray, List.set_cons_zero, List.set_cons_succ]
  refine wpAnyY_take (i := 5) (v := ?_) rfl (by kernel_rfl) (by kernel_rfl) (by kernel_rfl) (by kernel_rfl) (fun _ _ _ h => h) (Or.inl ⟨by kernel_rfl, ?_⟩) hS ?_
  rotate_left
  · intro w' hSw; go_simp; with_reducible rfl
  try simp only [Act.put, List.getElem_toArray, List.getElem_cons_zero, List.getElem_cons_succ, List.setIfInBounds_toArray, List.set_cons_zero, List.set_cons_succ]
  refine wpAnyY_take (i := 6) (v := ?_) rfl (by kernel_rfl) (by kernel_rfl) (by kernel_rfl) (by kernel_rfl) (fun _ _ _ h => h) (Or.inl ⟨by kernel_rfl, ?_⟩) hS ?_
  rotate_left
  · intro w' hSw; obtain ⟨⟨s2, s3, sl⟩, ⟨u2, u3, ul⟩⟩ := hSw; go_simp; with_reducible rfl
  try simp only [Act.put, List.getElem_toArray, List.getElem_cons_zero, List.getElem_cons_succ, List.setIfInBounds_toArray, List.set_cons_zero, List.set_cons_succ]
  refine wpAnyY_take (i := 7) (v := ?_) rfl (by kernel_rfl) (by kernel_rfl) (by kernel_rfl) (by kernel_rfl) (fun _ _ _ h => h) (Or.inl ⟨by kernel_rfl, ?_⟩) hS ?_
  rotate_left
  · intro w' hSw; go_simp; with_reducible rfl
  try simp only [Act.put, List.getElem_toArray, List.getElem_cons_zero, List.getElem_cons_succ, List.setIfInBounds_toArray, List.set_cons_zero, List.set_cons_succ]
  refine wpAnyY_take (i := 8) (v := ?_) rfl (by kernel_rfl) (by kernel_rfl) (by kernel_rfl) (by kernel_rfl) (fun _ _ _ h => h) (Or.inl ⟨by kernel_rfl, ?_⟩) hS ?_
  rotate_left
  · intro w' hSw; obtain ⟨⟨s2, s3, sl⟩, ⟨u2, u3, ul⟩⟩ := hSw; go_simp; with_reducible rfl
  try simp only [Act.put, List.getElem_toArray, List.getElem_cons_zero, List.getElem_cons_succ, List.setIfInBounds_toArray, List.set_cons_zero, List.set_cons_succ]
  refine wpAnyY_oneSW (i := 4) (by kernel_rfl) rfl (by kernel_rfl) (fun K4 hK4 => ?_)
  go_simp
  refine (HD.out _).mono ?_
  rintro e w' ⟨rfl, rfl⟩
  refine hK4.out _ _ (hSk _ ga) (fun hS => ?_)
  try simp only [Act.put, List.getElem_toArray, List.getElem_cons_zero, List.getElem_cons_succ, List.setIfInBounds_toArray, List.set_cons_zero, List.set_cons_succ]
  refine wpAnyY_oneSW (i := 9) (by kernel_rfl) rfl (by kernel_rfl) (fun K9 hK9 => ?_)
  go_simp
  refine (HR.out _).mono ?_
  rintro e w' ⟨rfl, rfl⟩
  refine hK9.out _ _ (hSk _ ga) (fun hS => ?_)
  try simp only [Act.put, List.getElem_toArray, List.getElem_cons_zero, List.getElem_cons_succ, List.setIfInBounds_toArray, List.set_cons_zero, List.set_cons_succ]
  refine wpAnyY_oneSW (i := 10) (by kernel_rfl) rfl (by kernel_rfl) (fun K10 hK10 => ?_)
  go_simp
  refine hK10.out _ _ (hSk _ (ga.a _)) (fun hS => ?_)
  try simp only [Act.put, List.getElem_toArray, List.getElem_cons_zero, List.getElem_cons_succ, List.setIfInBounds_toArray, List.set_cons_zero, List.set_cons_succ]
  have bz := Blk.new W1.drew 3 #[.int .i64 DD, .int .i64 RR]
  refine wpAnyY_oneSW (i := 11) (by kernel_rfl) rfl (by kernel_rfl) (fun K11 hK11 => ?_)
  go_simp
  refine (HO.out _ _ _ (bz.cell 0) (bz.cell 1) bz.lt).mono ?_
  rintro e w' ⟨rfl, rfl⟩
  refine hK11.out _ _ (hSk _ (ga.a _)) (fun hS => ?_)
  try simp only [Act.put, List.getElem_toArray, List.getElem_cons_zero, List.getElem_cons_succ, List.setIfInBounds_toArray, List.set_cons_zero, List.set_cons_succ]
  refine wpAnyY_oneW (i := 12) (by kernel_rfl) rfl (by kernel_rfl) (by kernel_rfl) (fun K12 hK12 => ?_)
  go_simp
  refine hK12.out _ _ ?_
  try simp only [Act.put, List.getElem_toArray, List.getElem_cons_zero, List.getElem_cons_succ, List.setIfInBounds_toArray, List.set_cons_zero, List.set_cons_succ]
  refine wpAnyY_done (by kernel_rfl) ?_ _
  go_wp2_with fail
  first | exact ⟨rfl, gx0.t (ga.a _)⟩ | (go_ret; exact ⟨rfl, gx0.t (ga.a _)⟩)
end Go.Proofs.YtnkmcoljijmgpaaGreat
set_option linter.unusedSimpArgs false
set_option linter.unusedVariables false
namespace Go.Proofs.YtnkmcoljijmgpaaGreat
open Go.RowKit Go.Shelf Go.Sort
attribute [local go_sem] Oper.semAt_some
section
variable {α : Type} [Inhabited α]
theorem inner_eq (lt lt' : α → α → Bool) : ∀ (j : Nat) (d : Array α), j < d.size → (∀ t, t < j → lt d[j]! d[t]! = lt' d[j]! d[t]!) → insInner lt 0 j d = insInner lt' 0 j d
  | 0, d, _, _ => rfl
  | j + 1, d, hj, h => by
    have e := h j (by omega)
    unfold insInner
    rw [e]
    by_cases hc : (decide (j + 1 > 0) && lt' d[j + 1]! d[j]!) = true
    · rw [if_pos hc, if_pos hc]
      refine inner_eq lt lt' j _ (by rw [size_swp]; omega) (fun t ht => ?_)
      rw [swp_get d hj (by omega : j < d.size), swp_get d hj (by omega : j < d.size)]
      have e2 := h t (by omega)
      simp only [show ¬ j = j + 1 by omega, show ¬ t = j by omega, show ¬ t = j + 1 by omega, if_true, if_false]
      exact e2
    · rw [if_neg hc, if_neg hc]
theorem inner_mem (lt : α → α → Bool) : ∀ (j : Nat) (d : Array α), j < d.size → (insInner lt 0 j d).size = d.size ∧ (∀ t, j < t → (insInner lt 0 j d)[t]! = d[t]!) ∧ ∀ t, t ≤ j → ∃ u, u ≤ j ∧ (insInner lt 0 j d)[t]! = d[u]!
  | 0, d, _ => ⟨rfl, fun _ _ => rfl, fun t ht => ⟨t, ht, rfl⟩⟩
  | j + 1, d, hj => by
    unfold insInner
    by_cases hc : (decide (j + 1 > 0) && lt d[j + 1]! d[j]!) = true
    · rw [if_pos hc]
      obtain ⟨i1, i2, i3⟩ := inner_mem lt j (swp d (j + 1) j) (by rw [size_swp]; omega)
      have sg := fun k => swp_get d hj (by omega : j < d.size) (k := k)
      refine ⟨by rw [i1, size_swp], fun t ht => ?_, fun t ht => ?_⟩
      · rw [i2 t (by omega), sg]
        simp only [show ¬ t = j by omega, show ¬ t = j + 1 by omega, if_false]
      · by_cases h1 : t = j + 1
        · subst h1
          refine ⟨j, by omega, ?_⟩
          rw [i2 _ (by omega), sg]
          simp
        · obtain ⟨u, hu, e⟩ := i3 t (by omega)
          rw [e, sg]
          by_cases h2 : u = j
          · exact ⟨j + 1, by omega, by subst h2; simp⟩
          · exact ⟨u, by omega, by simp only [h2, show ¬ u = j + 1 by omega, if_false]⟩
    · rw [if_neg hc]
      exact ⟨rfl, fun _ _ => rfl, fun t ht => ⟨t, ht, rfl⟩⟩
theorem outer_eq (lt lt' : α → α → Bool) (b : Nat) : ∀ (m i : Nat) (d : Array α), b - i = m → b ≤ d.size → (∀ s t, t < s → i ≤ s → s < b → lt d[s]! d[t]! = lt' d[s]! d[t]!) → insOuter lt 0 b i d = insOuter lt' 0 b i d
  | m, i, d, hm, hb, h => by
    by_cases hi : i < b
    · rw [insOuter_go _ _ _ _ _ hi, insOuter_go _ _ _ _ _ hi]
      have e := inner_eq lt lt' i d (by omega) (fun t ht => h i t ht (Nat.le_refl _) hi)
      rw [e]
      obtain ⟨i1, i2, i3⟩ := inner_mem lt' i d (by omega)
      match m, hm with
      | m' + 1, hm =>
        refine outer_eq lt lt' b m' (i + 1) _ (by omega) (by rw [i1]; exact hb) (fun s t hts hs hsb => ?_)
        rw [i2 s (by omega)]
        by_cases ht : i < t
        · rw [i2 t ht]
          exact h s t hts (by omega) hsb
        · obtain ⟨u, hu, e⟩ := i3 t (by omega)
          rw [e]
          exact h s u (by omega) (by omega) hsb
      | 0, hm => omega
    · rw [insOuter_stop _ _ _ _ _ hi, insOuter_stop _ _ _ _ _ hi]
end
/-- by day, then by rank, then by ring -/
def lexL (x y : Rc) : Bool := decide (x.day < y.day ∨ (x.day = y.day ∧ (x.rank < y.rank ∨ (x.rank = y.rank ∧ x.bird < y.bird))))
def tks (l : List Rc) : List Rc := l.mergeSort fun x y => !lexL y x
theorem ltTake (x y : Rc) : ltOf takeC x y = decide (x.day < y.day ∨ (x.day = y.day ∧ x.rank < y.rank)) := by
  unfold ltOf takeC orI cmpI
  by_cases h1 : x.day < y.day
  · simp [h1]
  · by_cases h2 : y.day < x.day
    · have : ¬ x.day = y.day := by omega
      simp [h1, h2, this]
    · have h3 : x.day = y.day := by omega
      by_cases h4 : x.rank < y.rank
      · simp [h3, h4]
      · by_cases h5 : y.rank < x.rank <;> simp [h3, h4, h5]
theorem lt_lex (x y : Rc) (h : y.bird < x.bird) : ltOf takeC x y = lexL x y := by
  rw [ltTake]
  unfold lexL
  have : ¬ x.bird < y.bird := by omega
  simp [this]
theorem swoLex : SWO lexL where
  irrefl x := by simp [lexL]
  trans x y z h1 h2 := by simp only [lexL, decide_eq_true_eq] at *; omega
  ntrans x y z h1 h2 := by simp only [lexL, decide_eq_false_iff_not] at *; omega
theorem tks_perm (l : List Rc) : (tks l).Perm l := List.mergeSort_perm _ _
theorem tks_len (l : List Rc) : (tks l).length = l.length := (tks_perm l).length_eq
theorem tks_pw (l : List Rc) : (tks l).Pairwise fun x y => lexL y x = false := by
  have := List.pairwise_mergeSort (le := fun x y : Rc => !lexL y x) (fun a b c h1 h2 => by simp at *; exact swoLex.ntrans _ _ _ h2 h1) (fun a b => by
    cases h : lexL b a
    · simp
    · have : lexL a b = false := by
        cases h2 : lexL a b
        · rfl
        · have := swoLex.trans _ _ _ h h2
          rw [swoLex.irrefl] at this
          cases this
      simp [this]) l
  exact this.imp fun h => by simpa using h
theorem tks_unique {l l' : List Rc} (h : Uniq l) (hp : l'.Perm l) (hs : l'.Pairwise fun x y => lexL y x = false) : l' = tks l :=
  List.Perm.eq_of_pairwise (le := fun x y : Rc => lexL y x = false) (fun a b ha hb h1 h2 => uniq_eq h (hp.mem_iff.1 ha) ((tks_perm l).mem_iff.1 hb) (by simp only [lexL, decide_eq_false_iff_not] at h1 h2; omega)) hs (tks_pw l) (hp.trans (tks_perm l).symm)
/-- the stable sort of birds in the order of their rings -/
theorem ins_tks (l : List Rc) (hu : Uniq l) (hs : l.Pairwise fun x y => x.bird ≤ y.bird) : (insertionSort (ltOf takeC) l.toArray 0 l.length) = (tks l).toArray := by
  have hst : ∀ s t, t < s → s < l.length → (l.toArray[t]!).bird < (l.toArray[s]!).bird := fun s t h1 h2 => by
    have a := List.pairwise_iff_getElem.1 hs t s (by omega) h2 h1
    have b := List.pairwise_iff_getElem.1 hu t s (by omega) h2 h1
    rw [getElem!_pos l.toArray t (by simp; omega), getElem!_pos l.toArray s (by simp; omega)]
    simp only [List.getElem_toArray]
    omega
  have e : insertionSort (ltOf takeC) l.toArray 0 l.length = insertionSort lexL l.toArray 0 l.length := by
    unfold insertionSort
    exact outer_eq _ _ _ _ _ _ rfl (by simp) (fun s t h1 _ h2 => lt_lex _ _ (hst s t h1 h2))
  rw [e]
  obtain ⟨hp, hso⟩ := insertionSort_holds swoLex l.toArray 0 l.length (Nat.zero_le _) (by simp)
  have hp2 : PermIn 0 l.toArray.size l.toArray (insertionSort lexL l.toArray 0 l.length) := by simpa using hp
  have h2 : (insertionSort lexL l.toArray 0 l.length).toList = tks l := tks_unique hu (by simpa using perm_toList hp2) (by
    rw [List.pairwise_iff_getElem]
    intro i j hi hj hij
    have hsz : (insertionSort lexL l.toArray 0 l.length).size = l.length := by have := hp2.1; simpa using this
    have hi' : i < (insertionSort lexL l.toArray 0 l.length).size := by simpa using hi
    have hj' : j < (insertionSort lexL l.toArray 0 l.length).size := by simpa using hj
    have := hso i j (Nat.zero_le _) hij (by omega)
    rw [getElem!_pos _ j hj', getElem!_pos _ i hi'] at this
    simpa using this)
  rw [← h2]
end Go.Proofs.YtnkmcoljijmgpaaGreat
