import Derived.Test.YtpjfdfddcnocpaaWd
import Derived.Laws.AppendOwnNone
import Derived.Laws.AppendOwn
set_option linter.unusedSimpArgs false
set_option linter.unusedVariables false
namespace Go.Proofs.Ytpjfdfddcnocpaa
open Go.RowKit Go.Shelf
attribute [local go_sem] Oper.semAt_some

theorem info56 : (Try.prog.info? 56).map (fun i => (i.zero, i.size, i.bytes)) = some (some (.agg #[.int .i64 0, .int .i64 0, .int .i64 0, .int .i64 0, .int .i64 0, .int .i64 0, .int .i64 0, .int .i64 0, .int .i64 0, .int .i64 0]), 10, 80) := by kernel_rfl
theorem addr_add (b off k : Nat) : (⟨b, off, none⟩ : Addr).add k = ⟨b, off + k, none⟩ := by
  unfold Addr.add
  split
  · rename_i h; simp [h]
  · rfl
theorem src_east {w : World} {b off : Nat} {east : List Int} (hb : b < w.heap.size) (hc : ∀ k, k < east.length → w.cell? ⟨b, off + k, none⟩ = some (.int .i64 (east.getD k 0))) (W : World) (hW : G w W) :
    ∀ j u, (east.map (Value.int .i64))[j]? = some u → W.cell? ((⟨b, off, none⟩ : Addr).add j) = some u := fun j u h => by
  rw [addr_add]
  rw [List.getElem?_map] at h
  have hj : j < east.length := by
    rcases Nat.lt_or_ge j east.length with h1 | h1
    · exact h1
    · rw [List.getElem?_eq_none h1] at h; cases h
  have := ((bcellB hW).1 b (off + j) hb).trans (hc j hj)
  rw [this]
  simpa [hj] using h
/-- the surveys' cells as a source of append -/
theorem src_svs {w : World} {sa : Option Addr} {svs : List Sv} {sc : Nat} (hs : SvsAt w sa svs) (hn : sa = none → sc = 0) :
    (sa = none ∧ svs.length = 0 ∧ sc = 0) ∨ ∃ (ad : Addr) (news : List Value), sa = some ad ∧ news.length = svs.length * 10 ∧ (∀ W, G w W → ∀ j u, news[j]? = some u → W.cell? (ad.add j) = some u) ∧ ∀ u ∈ news, Value.oneCell' u = true := by
  rcases hs with rfl | ⟨b, off, rfl, hb, hc⟩
  · cases sa with
    | none => exact .inl ⟨rfl, rfl, hn rfl⟩
    | some ad => exact .inr ⟨ad, [], rfl, rfl, fun W _ j u h => by simp at h, fun u h => by simp at h⟩
  · right
    have key : ∀ j, ∃ z : Int, j < svs.length * 10 → w.cell? ⟨b, off + j, none⟩ = some (.int .i64 z) := fun j => by
      by_cases hj : j < svs.length * 10
      · obtain ⟨h0, h1, h2, h3, h4, h5, h6, h7, h8, h9⟩ := hc (j / 10) (by omega)
        have e : j = j / 10 * 10 + j % 10 := by omega
        have hr : j % 10 < 10 := Nat.mod_lt _ (by omega)
        generalize j % 10 = r at e hr
        generalize j / 10 = i at *
        subst e
        rw [← Nat.add_assoc]
        match r, hr with
        | 0, _ => exact ⟨_, fun _ => h0⟩
        | 1, _ => exact ⟨_, fun _ => h1⟩
        | 2, _ => exact ⟨_, fun _ => h2⟩
        | 3, _ => exact ⟨_, fun _ => h3⟩
        | 4, _ => exact ⟨_, fun _ => h4⟩
        | 5, _ => exact ⟨_, fun _ => h5⟩
        | 6, _ => exact ⟨_, fun _ => h6⟩
        | 7, _ => exact ⟨_, fun _ => h7⟩
        | 8, _ => exact ⟨_, fun _ => h8⟩
        | 9, _ => exact ⟨_, fun _ => h9⟩
      · exact ⟨0, fun h => absurd h hj⟩
    obtain ⟨z, hz⟩ := Classical.axiomOfChoice key
    refine ⟨⟨b, off, none⟩, (List.range (svs.length * 10)).map fun j => Value.int .i64 (z j), rfl, by simp, fun W hW j u h => ?_, fun u h => ?_⟩
    · rw [addr_add]
      rw [List.getElem?_map] at h
      have hj : j < svs.length * 10 := by
        rcases Nat.lt_or_ge j (svs.length * 10) with h1 | h1
        · exact h1
        · rw [List.getElem?_eq_none (by simpa using h1)] at h; cases h
      have := ((bcellB hW).1 b (off + j) hb).trans (hz j hj)
      rw [this]
      simpa [hj] using h
    · obtain ⟨j, _, rfl⟩ := List.mem_map.1 h
      rfl
theorem own_empty {W : World} {g : Nat} {t : TypeId} (hb : Blk W g t #[]) (size : Nat) : W.ownsRow g t size (.slice (some ⟨g, 0, none⟩) 0 0) 0 [] :=
  ⟨by simp, .inr ⟨g, 0, #[], rfl, Nat.le_refl _, hb, Nat.le_refl _, by decide, by simp, by simp⟩⟩
theorem res28 (tmps : Array Value) (w : World) (g : Nat) (v0 v1 v2 v3 v4 v5 : Value) (h : tmps.getD 2 undef = .pointer (some ⟨g, 0, none⟩)) (c0 : w.cell? ⟨g, 0, none⟩ = some v0) (c1 : w.cell? ⟨g, 1, none⟩ = some v1)
    (c2 : w.cell? ⟨g, 2, none⟩ = some v2) (c3 : w.cell? ⟨g, 3, none⟩ = some v3) (c4 : w.cell? ⟨g, 4, none⟩ = some v4) (c5 : w.cell? ⟨g, 5, none⟩ = some v5) :
    (results Try.f28 tmps).run Try.prog w = .ok (.agg #[v0, v1, v2, v3, v4, v5]) w := by
  have hr : Try.f28.results = #[.cell 2 25] := rfl
  have h' : tmps[2]?.getD undef = .pointer (some ⟨g, 0, none⟩) := by simpa using h
  simp only [results, hr]
  go_simp

def CopyPost (north cols lofts wrong : Int) (east : List Int) (w : World) (e : Ending) (w' : World) : Prop :=
  ∃ gE capE curE sv kv cv, e = .returned (.agg #[.int .i64 north, .int .i64 cols, .slice (some ⟨gE, 0, none⟩) east.length capE, .int .i64 lofts, .slice sv kv cv, .int .i64 wrong]) ∧
      w.heap.size ≤ gE ∧ Blk w' gE 3 curE ∧ curE.toList.take east.length = east.map (Value.int .i64) ∧ G w w'
set_option maxRecDepth 100000 in
set_option maxHeartbeats 4000000 in
theorem Copy_any (north cols lofts wrong : Int) (east : List Int) (svs : List Sv) (ea sa : Option Addr) (ec sc : Nat) (w : World) (he : IntsAt w ea east) (hs : SvsAt w sa svs) (h1 : 1 ≤ east.length) (hl : east.length ≤ 100) (hl2 : svs.length ≤ 100) (hn : sa = none → sc = 0) :
    Calls Try.prog 28 #[.agg #[.int .i64 north, .int .i64 cols, .slice ea east.length ec, .int .i64 lofts, .slice sa svs.length sc, .int .i64 wrong]] w (CopyPost north cols lofts wrong east w) := by
  rcases he with rfl | ⟨b, off, rfl, hbb, hcE⟩
  · simp at h1
  have hsE := src_east hbb hcE
  obtain ⟨i0, hi0, hz0, hz1, hz2⟩ := info_parts info3
  obtain ⟨i6, hi6, hy0, hy1, hy2⟩ := info_parts info56
  obtain ⟨ne, hne⟩ : ∃ ne, ne = east.map (Value.int .i64) := ⟨_, rfl⟩
  have hlen : ne.length = east.length * 1 := by rw [hne]; simp
  have h1c : ∀ u ∈ ne, u.oneCell' = true := fun u hu => by rw [hne] at hu; obtain ⟨z, _, rfl⟩ := List.mem_map.1 hu; rfl
  rw [← hne] at hsE
  have g0 : G w (((w.alloc (.cells #[.int .i64 north, .int .i64 cols, .slice (some ⟨b, off, none⟩) east.length ec, .int .i64 lofts, .slice sa svs.length sc, .int .i64 wrong] 25)).alloc (.cells #[.int .i64 0, .int .i64 0, .slice none 0 0, .int .i64 0, .slice none 0 0, .int .i64 0] 25)).alloc (.cells #[] 3)) := (((G.rf w).a _).a _).a _
  have b0 : Blk (((w.alloc (.cells #[.int .i64 north, .int .i64 cols, .slice (some ⟨b, off, none⟩) east.length ec, .int .i64 lofts, .slice sa svs.length sc, .int .i64 wrong] 25)).alloc (.cells #[.int .i64 0, .int .i64 0, .slice none 0 0, .int .i64 0, .slice none 0 0, .int .i64 0] 25)).alloc (.cells #[] 3)) w.heap.size 25 #[.int .i64 north, .int .i64 cols, .slice (some ⟨b, off, none⟩) east.length ec, .int .i64 lofts, .slice sa svs.length sc, .int .i64 wrong] := ((Blk.new w _ _).alloc _).alloc _
  have b1 : Blk (((w.alloc (.cells #[.int .i64 north, .int .i64 cols, .slice (some ⟨b, off, none⟩) east.length ec, .int .i64 lofts, .slice sa svs.length sc, .int .i64 wrong] 25)).alloc (.cells #[.int .i64 0, .int .i64 0, .slice none 0 0, .int .i64 0, .slice none 0 0, .int .i64 0] 25)).alloc (.cells #[] 3)) (w.heap.size + 1) 25 #[.int .i64 0, .int .i64 0, .slice none 0 0, .int .i64 0, .slice none 0 0, .int .i64 0] := (Blk.new1 w _ _ _).alloc _
  have b2 := own_empty (Blk.new2 w (.cells #[.int .i64 north, .int .i64 cols, .slice (some ⟨b, off, none⟩) east.length ec, .int .i64 lofts, .slice sa svs.length sc, .int .i64 wrong] 25) (.cells #[.int .i64 0, .int .i64 0, .slice none 0 0, .int .i64 0, .slice none 0 0, .int .i64 0] 25) 3 #[]) 1
  have HS := Lib.hid hsE
  have HN := Lib.hid hne
  clear hne hsE hcE
  go_enter Try.func28, Try.ntmps28
  go_wp2_with (at_builtin; refine wpList_append_own _ rfl _ _ 22 rfl (w.heap.size + 1 + 1) 3 i0 (.int .i64 0) 1 8 Try.underlying22 hi0 hz0 hz1 hz2 rfl (by decide) _ _ _ rfl b2 ⟨b, off, none⟩ east.length ec ne rfl hlen (HS.out _ g0) h1c (by unfold maxLen; omega) (by omega) (by simp) ?_)
  intro v' w1 hown hg _
  rw [show (Value.slice (some ⟨w.heap.size + 1 + 1, 0, none⟩) 0 0).ownBlock = some (w.heap.size + 1 + 1) from rfl] at hg
  replace b0 := b0.grown hg (fun e => by injection e with e; omega)
  replace b1 := b1.grown hg (fun e => by injection e with e; omega)
  have f1 : Fr (fun _ => False) w w1 := (G.fr g0).grown hg (fun g e => .inr (by injection e with e; omega))
  replace g0 : G w w1 := f1.toG (fun _ _ h => h)
  have hz : w.heap.size + 1 + 1 ≤ w1.heap.size := by have := b1.lt; omega
  obtain ⟨gE, capE, curE, rfl, hgE, hE, hcap, hct⟩ : ∃ gE capE curE, v' = .slice (some ⟨gE, 0, none⟩) east.length capE ∧ w.heap.size + 1 + 1 ≤ gE ∧ Blk w1 gE 3 curE ∧ east.length ≤ capE ∧ curE.toList.take east.length = ne := by
    rcases hown.2 with ⟨_, hz⟩ | ⟨gb, cap, cur, h1, h2, h3, r1, r2, r3, r4⟩
    · omega
    · exact ⟨gb, cap, cur, h1, h2, h3, r1, by simpa using r4⟩
  clear hown b2 hg f1
  have m0 := b0.cell 0
  have z2 := b0.frozen 2
  have c2 := b0.cell 2
  have l0 := b0.lt
  have n0 := (b0.set_ 2 (.slice (some ⟨gE, 0, none⟩) east.length capE)).alloc (.cells #[] 56)
  have n1 := (b1.far (p := ⟨w.heap.size, 2, none⟩) (by simp) (.slice (some ⟨gE, 0, none⟩) east.length capE)).alloc (.cells #[] 56)
  have nE := (hE.far (p := ⟨w.heap.size, 2, none⟩) (by simp; omega) (.slice (some ⟨gE, 0, none⟩) east.length capE)).alloc (.cells #[] 56)
  have nG := (g0.s (p := ⟨w.heap.size, 2, none⟩) (Nat.le_refl _) (.slice (some ⟨gE, 0, none⟩) east.length capE)).a (.cells #[] 56)
  have n2 := own_empty (Blk.new (w1.setCell ⟨w.heap.size, 2, none⟩ (.slice (some ⟨gE, 0, none⟩) east.length capE)) 56 #[]) 10
  have nZ : (w1.setCell ⟨w.heap.size, 2, none⟩ (.slice (some ⟨gE, 0, none⟩) east.length capE)).heap.size = w1.heap.size := by simp [World.setCell]
  rw [nZ] at n2
  have hnE : gE < w1.heap.size := hE.lt
  have c4 := b0.cell 4
  have lM : w.heap.size < w1.heap.size := b0.lt
  have lM1 : w.heap.size + 1 < w1.heap.size := b1.lt
  rcases src_svs hs hn with ⟨rfl, hs0, rfl⟩ | ⟨ad, news, rfl, hl', hc', h1'⟩
  · clear m0 z2 c2 c4 l0
    have d0 := b0.cell 0
    have d1 := b0.cell 1
    have d2 := b0.cell 2
    have d3 := b0.cell 3
    have d4 := b0.cell 4
    have d5 := b0.cell 5
    have y2 := b0.frozen 2
    have y4 := b0.frozen 4
    have k0 := b1.cell 0
    have k1 := b1.cell 1
    have k2 := b1.cell 2
    have k3 := b1.cell 3
    have k4 := b1.cell 4
    have k5 := b1.cell 5
    have f0 := b1.frozen 0
    have f1 := b1.frozen 1
    have f2 := b1.frozen 2
    have f3 := b1.frozen 3
    have f4 := b1.frozen 4
    have f5 := b1.frozen 5
    go_wp2_with (at_builtin; refine wpList_append_own_none rfl _ _ 23 rfl (w1.heap.size) 56 i6 10 Try.underlying23 hi6 _ _ _ rfl n2 rfl ?_)
    have bf := ((((((((b1.far (p := ⟨w.heap.size, 2, none⟩) (by simp) (.slice (some ⟨gE, 0, none⟩) east.length capE)).far (p := ⟨w.heap.size, 4, none⟩) (by simp) (.slice (some ⟨w1.heap.size, 0, none⟩) 0 0)).set_ 0 (.int .i64 north)).set_ 1 (.int .i64 cols)).set_ 2 (.slice (some ⟨gE, 0, none⟩) east.length capE)).set_ 3 (.int .i64 lofts)).set_ 4 (.slice (some ⟨w1.heap.size, 0, none⟩) 0 0)).set_ 5 (.int .i64 wrong)).alloc (.cells #[] 56)
    refine bodyPost_ret (res28 _ _ (w.heap.size + 1) _ _ _ _ _ _ rfl (bf.cell 0) (bf.cell 1) (bf.cell 2) (bf.cell 3) (bf.cell 4) (bf.cell 5)) rfl ?_
    exact ⟨gE, capE, curE, _, _, _, rfl, by omega, ((((((((hE.far (p := ⟨w.heap.size, 2, none⟩) (by simp; omega) (.slice (some ⟨gE, 0, none⟩) east.length capE)).far (p := ⟨w.heap.size, 4, none⟩) (by simp; omega) (.slice (some ⟨w1.heap.size, 0, none⟩) 0 0)).far (p := ⟨w.heap.size + 1, 0, none⟩) (by simp; omega) (.int .i64 north)).far (p := ⟨w.heap.size + 1, 1, none⟩) (by simp; omega) (.int .i64 cols)).far (p := ⟨w.heap.size + 1, 2, none⟩) (by simp; omega) (.slice (some ⟨gE, 0, none⟩) east.length capE)).far (p := ⟨w.heap.size + 1, 3, none⟩) (by simp; omega) (.int .i64 lofts)).far (p := ⟨w.heap.size + 1, 4, none⟩) (by simp; omega) (.slice (some ⟨w1.heap.size, 0, none⟩) 0 0)).far (p := ⟨w.heap.size + 1, 5, none⟩) (by simp; omega) (.int .i64 wrong)).alloc _, by rw [hct, HN.out], ((((((((g0.s (p := ⟨w.heap.size, 2, none⟩) (by simp) (.slice (some ⟨gE, 0, none⟩) east.length capE)).s (p := ⟨w.heap.size, 4, none⟩) (by simp) (.slice (some ⟨w1.heap.size, 0, none⟩) 0 0)).s (p := ⟨w.heap.size + 1, 0, none⟩) (by simp) (.int .i64 north)).s (p := ⟨w.heap.size + 1, 1, none⟩) (by simp) (.int .i64 cols)).s (p := ⟨w.heap.size + 1, 2, none⟩) (by simp) (.slice (some ⟨gE, 0, none⟩) east.length capE)).s (p := ⟨w.heap.size + 1, 3, none⟩) (by simp) (.int .i64 lofts)).s (p := ⟨w.heap.size + 1, 4, none⟩) (by simp) (.slice (some ⟨w1.heap.size, 0, none⟩) 0 0)).s (p := ⟨w.heap.size + 1, 5, none⟩) (by simp) (.int .i64 wrong)).a _⟩
  · have hcn := hc' _ nG
    have HCN := Lib.hid hcn
    clear hc' hcn
    go_wp2_with (at_builtin; refine wpList_append_own _ rfl _ _ 23 rfl w1.heap.size 56 i6 (.agg #[.int .i64 0, .int .i64 0, .int .i64 0, .int .i64 0, .int .i64 0, .int .i64 0, .int .i64 0, .int .i64 0, .int .i64 0, .int .i64 0]) 10 80 Try.underlying23 hi6 hy0 hy1 hy2 rfl (by decide) _ _ _ rfl n2 ad svs.length sc news rfl hl' HCN.out h1' (by unfold maxLen; omega) (by omega) (by simp) ?_)
    intro v2 w3 hown hg _
    rw [show (Value.slice (some ⟨w1.heap.size, 0, none⟩) 0 0).ownBlock = some w1.heap.size from rfl] at hg
    have p0 := n0.grown hg (fun e => by injection e with e; omega)
    have p1 := n1.grown hg (fun e => by injection e with e; omega)
    have pE := nE.grown hg (fun e => by injection e with e; omega)
    have pG : G w w3 := ((G.fr (R := fun _ => False) nG).grown hg (fun g e => .inr (by injection e with e; omega))).toG (fun _ _ h => h)
    obtain ⟨sv2, kk2, cap2, rfl⟩ : ∃ sv2 kk2 cap2, v2 = .slice sv2 kk2 cap2 := by
      rcases hown.2 with ⟨h, _⟩ | ⟨gb, cap, cur, h, _⟩
      · exact ⟨_, _, _, h⟩
      · exact ⟨_, _, _, h⟩
    clear hown hg n0 n1 n2 nE nG b0 b1 hE m0 z2 c2 c4 HCN h1' hl'
    have d0 := p0.cell 0
    have d1 := p0.cell 1
    have d2 := p0.cell 2
    have d3 := p0.cell 3
    have d4 := p0.cell 4
    have d5 := p0.cell 5
    have y2 := p0.frozen 2
    have y4 := p0.frozen 4
    have k0 := p1.cell 0
    have k1 := p1.cell 1
    have k2 := p1.cell 2
    have k3 := p1.cell 3
    have k4 := p1.cell 4
    have k5 := p1.cell 5
    have f0 := p1.frozen 0
    have f1 := p1.frozen 1
    have f2 := p1.frozen 2
    have f3 := p1.frozen 3
    have f4 := p1.frozen 4
    have f5 := p1.frozen 5
    have lM := p0.lt
    have lM1 := p1.lt
    go_wp2
    have bf := (((((((p1.far (p := ⟨w.heap.size, 4, none⟩) (by simp) (.slice sv2 kk2 cap2)).set_ 0 (.int .i64 north)).set_ 1 (.int .i64 cols)).set_ 2 (.slice (some ⟨gE, 0, none⟩) east.length capE)).set_ 3 (.int .i64 lofts)).set_ 4 (.slice sv2 kk2 cap2)).set_ 5 (.int .i64 wrong))
    refine bodyPost_ret (res28 _ _ (w.heap.size + 1) _ _ _ _ _ _ rfl (bf.cell 0) (bf.cell 1) (bf.cell 2) (bf.cell 3) (bf.cell 4) (bf.cell 5)) rfl ?_
    exact ⟨gE, capE, curE, _, _, _, rfl, by omega, (((((((pE.far (p := ⟨w.heap.size, 4, none⟩) (by simp; omega) (.slice sv2 kk2 cap2)).far (p := ⟨w.heap.size + 1, 0, none⟩) (by simp; omega) (.int .i64 north)).far (p := ⟨w.heap.size + 1, 1, none⟩) (by simp; omega) (.int .i64 cols)).far (p := ⟨w.heap.size + 1, 2, none⟩) (by simp; omega) (.slice (some ⟨gE, 0, none⟩) east.length capE)).far (p := ⟨w.heap.size + 1, 3, none⟩) (by simp; omega) (.int .i64 lofts)).far (p := ⟨w.heap.size + 1, 4, none⟩) (by simp; omega) (.slice sv2 kk2 cap2)).far (p := ⟨w.heap.size + 1, 5, none⟩) (by simp; omega) (.int .i64 wrong)), by rw [hct, HN.out], (((((((pG.s (p := ⟨w.heap.size, 4, none⟩) (by simp) (.slice sv2 kk2 cap2)).s (p := ⟨w.heap.size + 1, 0, none⟩) (by simp) (.int .i64 north)).s (p := ⟨w.heap.size + 1, 1, none⟩) (by simp) (.int .i64 cols)).s (p := ⟨w.heap.size + 1, 2, none⟩) (by simp) (.slice (some ⟨gE, 0, none⟩) east.length capE)).s (p := ⟨w.heap.size + 1, 3, none⟩) (by simp) (.int .i64 lofts)).s (p := ⟨w.heap.size + 1, 4, none⟩) (by simp) (.slice sv2 kk2 cap2)).s (p := ⟨w.heap.size + 1, 5, none⟩) (by simp) (.int .i64 wrong))⟩
end Go.Proofs.Ytpjfdfddcnocpaa
