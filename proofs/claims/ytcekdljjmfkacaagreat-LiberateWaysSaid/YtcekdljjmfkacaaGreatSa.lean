import Derived.Test.YtcekdljjmfkacaaGreatKd
import Derived.Test.YtcekdljjmfkacaaGreatXf
import Derived.Test.YtcekdljjmfkacaaGreatXe
set_option linter.unusedSimpArgs false
set_option linter.unusedVariables false
namespace Go.Proofs.YtcekdljjmfkacaaGreat
open Go.RowKit Go.Shelf
attribute [local go_sem] Oper.semAt_some

theorem res28 (tmps : Array Value) (w : World) (g : Nat) (v0 v1 v2 v3 v4 v5 : Value) (h : tmps.getD 2 undef = .pointer (some ⟨g, 0, none⟩)) (c0 : w.cell? ⟨g, 0, none⟩ = some v0) (c1 : w.cell? ⟨g, 1, none⟩ = some v1)
    (c2 : w.cell? ⟨g, 2, none⟩ = some v2) (c3 : w.cell? ⟨g, 3, none⟩ = some v3) (c4 : w.cell? ⟨g, 4, none⟩ = some v4) (c5 : w.cell? ⟨g, 5, none⟩ = some v5) :
    (results Tryz.f30 tmps).run Tryz.prog w = .ok (.agg #[v0, v1, v2, v3, v4, v5]) w := by
  have hr : Tryz.f30.results = #[.cell 2 25] := rfl
  have h' : tmps[2]?.getD undef = .pointer (some ⟨g, 0, none⟩) := by simpa using h
  simp only [results, hr]
  go_simp

theorem Blk.newAt {X : World} {k : Nat} (h : X.heap.size = k) (t : TypeId) (cs : Array Value) : Blk (X.alloc (.cells cs t)) k t cs := h ▸ Blk.new X t cs
def svC (s : Sv) : List Value := [.int .i64 s.loft, .int .i64 s.kind, .int .i64 s.xl, .int .i64 s.xh, .int .i64 s.yl, .int .i64 s.yh, .int .i64 s.ax, .int .i64 s.ay, .int .i64 s.dl, .int .i64 s.dh]
/-- the cells of some surveys -/
def svCells (svs : List Sv) : List Value := svs.flatMap svC
theorem svCells_len (svs : List Sv) : (svCells svs).length = svs.length * 10 := by
  induction svs with
  | nil => rfl
  | cons s l ih => rw [svCells, List.flatMap_cons, List.length_append, ← svCells, ih]; simp [svC]; omega
theorem svCells_app (A B : List Sv) : svCells (A ++ B) = svCells A ++ svCells B := by simp [svCells]
theorem svCells_get : ∀ (svs : List Sv) (i r : Nat), i < svs.length → r < 10 → (svCells svs)[i * 10 + r]? = (svC (svs.getD i default))[r]?
  | [], i, r, h, _ => by simp at h
  | s :: l, 0, r, _, hr => by
    rw [svCells, List.flatMap_cons, List.getElem?_append_left (by simp [svC]; omega)]
    simp
  | s :: l, i + 1, r, h, hr => by
    have ih := svCells_get l i r (by simpa using h) hr
    rw [svCells, List.flatMap_cons, List.getElem?_append_right (by simp [svC]; omega), ← svCells]
    rw [show (i + 1) * 10 + r - (svC s).length = i * 10 + r by simp [svC]; omega, ih]
    simp
theorem svCells_one (svs : List Sv) : ∀ u ∈ svCells svs, Value.oneCell' u = true := fun u hu => by
  obtain ⟨s, _, h⟩ := List.mem_flatMap.1 hu
  simp only [svC, List.mem_cons, List.not_mem_nil, or_false] at h
  rcases h with rfl | rfl | rfl | rfl | rfl | rfl | rfl | rfl | rfl | rfl <;> rfl
theorem SvCells.of {w : World} {b o : Nat} {s : Sv} (h : ∀ r, r < 10 → w.cell? ⟨b, o + r, none⟩ = (svC s)[r]?) : SvCells w b o s :=
  ⟨h 0 (by omega), h 1 (by omega), h 2 (by omega), h 3 (by omega), h 4 (by omega), h 5 (by omega), h 6 (by omega), h 7 (by omega), h 8 (by omega), h 9 (by omega)⟩
theorem SvCells.get {w : World} {b o : Nat} {s : Sv} (h : SvCells w b o s) (r : Nat) (hr : r < 10) : w.cell? ⟨b, o + r, none⟩ = (svC s)[r]? := by
  obtain ⟨h0, h1, h2, h3, h4, h5, h6, h7, h8, h9⟩ := h
  match r, hr with
  | 0, _ => exact h0
  | 1, _ => exact h1
  | 2, _ => exact h2
  | 3, _ => exact h3
  | 4, _ => exact h4
  | 5, _ => exact h5
  | 6, _ => exact h6
  | 7, _ => exact h7
  | 8, _ => exact h8
  | 9, _ => exact h9
/-- a row of surveys as a source of append, from the k-th on -/
theorem src_at {w : World} {b off : Nat} {svs : List Sv} (hb : b < w.heap.size) (hc : ∀ k, k < svs.length → SvCells w b (off + k * 10) (svs.getD k default)) (W : World) (hW : G w W) (k : Nat) :
    ∀ j u, (svCells (svs.drop k))[j]? = some u → W.cell? ((⟨b, off + k * 10, none⟩ : Addr).add j) = some u := fun j u h => by
  rw [addr_add]
  have hj : j < (svs.drop k).length * 10 := by
    rcases Nat.lt_or_ge j (svCells (svs.drop k)).length with h1 | h1
    · rwa [svCells_len] at h1
    · rw [List.getElem?_eq_none h1] at h; cases h
  have e : j = j / 10 * 10 + j % 10 := by omega
  have hr : j % 10 < 10 := Nat.mod_lt _ (by omega)
  have hi : j / 10 < (svs.drop k).length := by omega
  generalize j % 10 = r at e hr
  generalize j / 10 = i at *
  subst e
  rw [svCells_get _ i r hi hr] at h
  have hik : k + i < svs.length := by rw [List.length_drop] at hi; omega
  have h2 := (hc (k + i) hik).get r hr
  rw [show off + (k + i) * 10 + r = off + k * 10 + (i * 10 + r) by omega] at h2
  rw [(bcellB hW).1 b _ hb, h2, ← h]
  congr 2
  simp [List.getD_eq_getElem?_getD]
theorem src_full {w : World} {sa : Option Addr} {svs : List Sv} {sc : Nat} (hs : SvsAt w sa svs) (hn : sa = none → sc = 0) :
    (sa = none ∧ svs.length = 0 ∧ sc = 0) ∨ ∃ ad : Addr, sa = some ad ∧ (svCells svs).length = svs.length * 10 ∧ (∀ W, G w W → ∀ j u, (svCells svs)[j]? = some u → W.cell? (ad.add j) = some u) ∧ ∀ u ∈ svCells svs, Value.oneCell' u = true := by
  rcases hs with rfl | ⟨b, off, rfl, hb, hc⟩
  · cases sa with
    | none => exact .inl ⟨rfl, rfl, hn rfl⟩
    | some ad => exact .inr ⟨ad, rfl, rfl, fun W _ j u h => by simp [svCells] at h, fun u h => by simp [svCells] at h⟩
  · right
    refine ⟨_, rfl, svCells_len _, fun W hW j u h => ?_, svCells_one _⟩
    have := src_at hb hc W hW 0 j u (by simpa using h)
    simpa using this
/-- a row of surveys of one's own -/
def OwnSv (W : World) (g cap : Nat) (cur : Array Value) (svs : List Sv) : Prop := Blk W g 135 cur ∧ svs.length ≤ cap ∧ cap ≤ maxLen ∧ cur.size = cap * 10 ∧ cur.toList.take (svs.length * 10) = svCells svs
theorem OwnSv.keep {W W' : World} {g cap : Nat} {cur : Array Value} {svs : List Sv} (h : OwnSv W g cap cur svs) (k : G W W') : OwnSv W' g cap cur svs := ⟨h.1.keep k, h.2⟩
theorem OwnSv.at {W : World} {g cap : Nat} {cur : Array Value} {svs : List Sv} (h : OwnSv W g cap cur svs) : SvsAt W (some ⟨g, 0, none⟩) svs :=
  .inr ⟨g, 0, rfl, h.1.lt, fun k hk => SvCells.of fun r hr => by
    rw [h.1.cell, Nat.zero_add, ← svCells_get svs k r hk hr, ← h.2.2.2.2, List.getElem?_take_of_lt (by omega)]
    simp⟩
def CopyFull (north cols lofts wrong : Int) (east : List Int) (svs : List Sv) (w : World) (e : Ending) (w' : World) : Prop :=
  ∃ gE capE curE gS capS curS, e = .returned (.agg #[.int .i64 north, .int .i64 cols, .slice (some ⟨gE, 0, none⟩) east.length capE, .int .i64 lofts, .slice (some ⟨gS, 0, none⟩) svs.length capS, .int .i64 wrong]) ∧
      w.heap.size ≤ gE ∧ Blk w' gE 3 curE ∧ curE.toList.take east.length = east.map (Value.int .i64) ∧ G w w' ∧ w.heap.size ≤ gS ∧ OwnSv w' gS capS curS svs
theorem east_at {W : World} {g : Nat} {cur : Array Value} {east : List Int} (h : Blk W g 3 cur) (hc : cur.toList.take east.length = east.map (Value.int .i64)) : IntsAt W (some ⟨g, 0, none⟩) east :=
  .inr ⟨g, 0, rfl, h.lt, fun k hk => by
    have : (cur.toList.take east.length)[k]? = some (.int .i64 (east.getD k 0)) := by rw [hc]; simp [hk]
    rw [List.getElem?_take_of_lt hk] at this
    rw [h.cell, Nat.zero_add]
    simpa using this⟩
set_option maxRecDepth 100000 in
set_option maxHeartbeats 4000000 in
theorem Copy_full (north cols lofts wrong : Int) (east : List Int) (svs : List Sv) (ea sa : Option Addr) (ec sc : Nat) (w : World) (he : IntsAt w ea east) (hs : SvsAt w sa svs) (h1 : 1 ≤ east.length) (hl : east.length ≤ 100) (hl2 : svs.length ≤ 100) (hn : sa = none → sc = 0) :
    Calls Tryz.prog 30 #[.agg #[.int .i64 north, .int .i64 cols, .slice ea east.length ec, .int .i64 lofts, .slice sa svs.length sc, .int .i64 wrong]] w (CopyFull north cols lofts wrong east svs w) := by
  rcases he with rfl | ⟨b, off, rfl, hbb, hcE⟩
  · simp at h1
  have hsE := src_east hbb hcE
  obtain ⟨i0, hi0, hz0, hz1, hz2⟩ := info_parts info3
  obtain ⟨i6, hi6, hy0, hy1, hy2⟩ := info_parts info56
  obtain ⟨ne, hne⟩ : ∃ ne, ne = east.map (Value.int .i64) := ⟨_, rfl⟩
  have hlen : ne.length = east.length * 1 := by rw [hne]; simp
  have h1c : ∀ u ∈ ne, u.oneCell' = true := fun u hu => by rw [hne] at hu; obtain ⟨z, _, rfl⟩ := List.mem_map.1 hu; rfl
  rw [← hne] at hsE
  have g0 : G w (((w.alloc (.cells #[.int .i64 north, .int .i64 cols, .slice (some ⟨b, off, none⟩) east.length ec, .int .i64 lofts, .slice sa svs.length sc, .int .i64 wrong] 25)).alloc (.cells #[.int .i64 0, .int .i64 0, .slice none 0 0, .int .i64 0, .slice none 0 0, .int .i64 0] 25)).alloc (.cells #[] 3)) := (((G.rf w).a _).a _).a _
  have b0 : Blk (((w.alloc (.cells #[.int .i64 north, .int .i64 cols, .slice (some ⟨b, off, none⟩) east.length ec, .int .i64 lofts, .slice sa svs.length sc, .int .i64 wrong] 25)).alloc (.cells #[.int .i64 0, .int .i64 0, .slice none 0 0, .int .i64 0, .slice none 0 0, .int .i64 0] 25)).alloc (.cells #[] 3)) w.heap.size 25 #[.int .i64 north, .int .i64 cols, .slice (some ⟨b, off, none⟩) east.length ec, .int .i64 lofts, .slice sa svs.length sc, .int .i64 wrong] := ((Blk.new w _ _).alloc _).alloc _
  have b1 : Blk (((w.alloc (.cells #[.int .i64 north, .int .i64 cols, .slice (some ⟨b, off, none⟩) east.length ec, .int .i64 lofts, .slice sa svs.length sc, .int .i64 wrong] 25)).alloc (.cells #[.int .i64 0, .int .i64 0, .slice none 0 0, .int .i64 0, .slice none 0 0, .int .i64 0] 25)).alloc (.cells #[] 3)) (w.heap.size + 1) 25 #[.int .i64 0, .int .i64 0, .slice none 0 0, .int .i64 0, .slice none 0 0, .int .i64 0] := (Blk.new1 w _ _ _).alloc _
  have b2 := own_empty (Blk.new2 w (.cells #[.int .i64 north, .int .i64 cols, .slice (some ⟨b, off, none⟩) east.length ec, .int .i64 lofts, .slice sa svs.length sc, .int .i64 wrong] 25) (.cells #[.int .i64 0, .int .i64 0, .slice none 0 0, .int .i64 0, .slice none 0 0, .int .i64 0] 25) 3 #[]) 1
  have HS := Lib.hid hsE
  have HN := Lib.hid hne
  clear hne hsE hcE
  go_enter Tryz.func30, Tryz.ntmps30
  go_wp2_with (at_builtin; refine wpList_append_own _ rfl _ _ 22 rfl (w.heap.size + 1 + 1) 3 i0 (.int .i64 0) 1 8 Tryz.underlying22 hi0 hz0 hz1 hz2 rfl (by decide) _ _ _ rfl b2 ⟨b, off, none⟩ east.length ec ne rfl hlen (HS.out _ g0) h1c (by unfold maxLen; omega) (by omega) (by simp) ?_)
  intro v' w1 hown hg _
  rw [show (Value.slice (some ⟨w.heap.size + 1 + 1, 0, none⟩) 0 0).ownBlock = some (w.heap.size + 1 + 1) from rfl] at hg
  replace b0 := b0.grown hg (fun e => by injection e with e; omega)
  replace b1 := b1.grown hg (fun e => by injection e with e; omega)
  have f1 : Fr (fun _ => False) w w1 := (G.fr g0).grown hg (fun g e => .inr (by injection e with e; omega))
  replace g0 : G w w1 := f1.toG (fun _ _ h => h)
  have hz : w.heap.size + 1 + 1 ≤ w1.heap.size := by have := b1.lt; omega
  obtain ⟨gE, capE, curE, rfl, hgE, hE, hcap, hct⟩ : ∃ gE capE curE, v' = .slice (some ⟨gE, 0, none⟩) east.length capE ∧ w.heap.size + 1 + 1 ≤ gE ∧ Blk w1 gE 3 curE ∧ east.length ≤ capE ∧ curE.toList.take east.length = ne := by
    rcases hown.2 with ⟨_, hz⟩ | ⟨gb, cap, cur, h1, h2, h3, r1, r2, r3, r4⟩
    · omega
    · exact ⟨gb, cap, cur, h1, h2, h3, r1, by simpa using r4⟩
  clear hown b2 hg f1
  have m0 := b0.cell 0
  have z2 := b0.frozen 2
  have c2 := b0.cell 2
  have l0 := b0.lt
  have n0 := (b0.set_ 2 (.slice (some ⟨gE, 0, none⟩) east.length capE)).alloc (.cells #[] 135)
  have n1 := (b1.far (p := ⟨w.heap.size, 2, none⟩) (by simp) (.slice (some ⟨gE, 0, none⟩) east.length capE)).alloc (.cells #[] 135)
  have nE := (hE.far (p := ⟨w.heap.size, 2, none⟩) (by simp; omega) (.slice (some ⟨gE, 0, none⟩) east.length capE)).alloc (.cells #[] 135)
  have nG := (g0.s (p := ⟨w.heap.size, 2, none⟩) (Nat.le_refl _) (.slice (some ⟨gE, 0, none⟩) east.length capE)).a (.cells #[] 135)
  have n2 := own_empty (Blk.new (w1.setCell ⟨w.heap.size, 2, none⟩ (.slice (some ⟨gE, 0, none⟩) east.length capE)) 135 #[]) 10
  have nZ : (w1.setCell ⟨w.heap.size, 2, none⟩ (.slice (some ⟨gE, 0, none⟩) east.length capE)).heap.size = w1.heap.size := by simp [World.setCell]
  rw [nZ] at n2
  have hnE : gE < w1.heap.size := hE.lt
  have c4 := b0.cell 4
  have lM : w.heap.size < w1.heap.size := b0.lt
  have lM1 : w.heap.size + 1 < w1.heap.size := b1.lt
  rcases src_full hs hn with ⟨rfl, hs0, rfl⟩ | ⟨ad, rfl, hl', hc', h1'⟩
  · clear m0 z2 c2 c4 l0
    have d0 := b0.cell 0
    have d1 := b0.cell 1
    have d2 := b0.cell 2
    have d3 := b0.cell 3
    have d4 := b0.cell 4
    have d5 := b0.cell 5
    have y2 := b0.frozen 2
    have y4 := b0.frozen 4
    have k0 := b1.cell 0
    have k1 := b1.cell 1
    have k2 := b1.cell 2
    have k3 := b1.cell 3
    have k4 := b1.cell 4
    have k5 := b1.cell 5
    have f0 := b1.frozen 0
    have f1 := b1.frozen 1
    have f2 := b1.frozen 2
    have f3 := b1.frozen 3
    have f4 := b1.frozen 4
    have f5 := b1.frozen 5
    go_wp2_with (at_builtin; refine wpList_append_own_none rfl _ _ 23 rfl (w1.heap.size) 135 i6 10 Tryz.underlying23 hi6 _ _ _ rfl n2 rfl ?_)
    have bf := ((((((((b1.far (p := ⟨w.heap.size, 2, none⟩) (by simp) (.slice (some ⟨gE, 0, none⟩) east.length capE)).far (p := ⟨w.heap.size, 4, none⟩) (by simp) (.slice (some ⟨w1.heap.size, 0, none⟩) 0 0)).set_ 0 (.int .i64 north)).set_ 1 (.int .i64 cols)).set_ 2 (.slice (some ⟨gE, 0, none⟩) east.length capE)).set_ 3 (.int .i64 lofts)).set_ 4 (.slice (some ⟨w1.heap.size, 0, none⟩) 0 0)).set_ 5 (.int .i64 wrong)).alloc (.cells #[] 135)
    refine bodyPost_ret (res28 _ _ (w.heap.size + 1) _ _ _ _ _ _ rfl (bf.cell 0) (bf.cell 1) (bf.cell 2) (bf.cell 3) (bf.cell 4) (bf.cell 5)) rfl ?_
    exact ⟨gE, capE, curE, w1.heap.size, 0, #[], by rw [hs0]; rfl, by omega, ((((((((hE.far (p := ⟨w.heap.size, 2, none⟩) (by simp; omega) (.slice (some ⟨gE, 0, none⟩) east.length capE)).far (p := ⟨w.heap.size, 4, none⟩) (by simp; omega) (.slice (some ⟨w1.heap.size, 0, none⟩) 0 0)).far (p := ⟨w.heap.size + 1, 0, none⟩) (by simp; omega) (.int .i64 north)).far (p := ⟨w.heap.size + 1, 1, none⟩) (by simp; omega) (.int .i64 cols)).far (p := ⟨w.heap.size + 1, 2, none⟩) (by simp; omega) (.slice (some ⟨gE, 0, none⟩) east.length capE)).far (p := ⟨w.heap.size + 1, 3, none⟩) (by simp; omega) (.int .i64 lofts)).far (p := ⟨w.heap.size + 1, 4, none⟩) (by simp; omega) (.slice (some ⟨w1.heap.size, 0, none⟩) 0 0)).far (p := ⟨w.heap.size + 1, 5, none⟩) (by simp; omega) (.int .i64 wrong)).alloc _, by rw [hct, HN.out], ((((((((g0.s (p := ⟨w.heap.size, 2, none⟩) (by simp) (.slice (some ⟨gE, 0, none⟩) east.length capE)).s (p := ⟨w.heap.size, 4, none⟩) (by simp) (.slice (some ⟨w1.heap.size, 0, none⟩) 0 0)).s (p := ⟨w.heap.size + 1, 0, none⟩) (by simp) (.int .i64 north)).s (p := ⟨w.heap.size + 1, 1, none⟩) (by simp) (.int .i64 cols)).s (p := ⟨w.heap.size + 1, 2, none⟩) (by simp) (.slice (some ⟨gE, 0, none⟩) east.length capE)).s (p := ⟨w.heap.size + 1, 3, none⟩) (by simp) (.int .i64 lofts)).s (p := ⟨w.heap.size + 1, 4, none⟩) (by simp) (.slice (some ⟨w1.heap.size, 0, none⟩) 0 0)).s (p := ⟨w.heap.size + 1, 5, none⟩) (by simp) (.int .i64 wrong)).a _, by omega, Blk.newAt (by simp [World.setCell]) _ _, by omega, by unfold maxLen; omega, rfl, by rw [List.eq_nil_of_length_eq_zero hs0]; rfl⟩
  · have hcn := hc' _ nG
    have HCN := Lib.hid hcn
    clear hc' hcn
    go_wp2_with (at_builtin; refine wpList_append_own _ rfl _ _ 23 rfl w1.heap.size 135 i6 (.agg #[.int .i64 0, .int .i64 0, .int .i64 0, .int .i64 0, .int .i64 0, .int .i64 0, .int .i64 0, .int .i64 0, .int .i64 0, .int .i64 0]) 10 80 Tryz.underlying23 hi6 hy0 hy1 hy2 rfl (by decide) _ _ _ rfl n2 ad svs.length sc (svCells svs) rfl hl' HCN.out h1' (by unfold maxLen; omega) (by omega) (by simp) ?_)
    intro v2 w3 hown hg hnl
    rw [show (Value.slice (some ⟨w1.heap.size, 0, none⟩) 0 0).ownBlock = some w1.heap.size from rfl] at hg
    have p0 := n0.grown hg (fun e => by injection e with e; omega)
    have p1 := n1.grown hg (fun e => by injection e with e; omega)
    have pE := nE.grown hg (fun e => by injection e with e; omega)
    have pG : G w w3 := ((G.fr (R := fun _ => False) nG).grown hg (fun g e => .inr (by injection e with e; omega))).toG (fun _ _ h => h)
    obtain ⟨gS, cap2, curS, rfl, hgS, pS, q1, q2, q3, q4⟩ : ∃ gS cap2 curS, v2 = .slice (some ⟨gS, 0, none⟩) svs.length cap2 ∧ w1.heap.size ≤ gS ∧ Blk w3 gS 135 curS ∧ svs.length ≤ cap2 ∧ cap2 ≤ maxLen ∧ curS.size = cap2 * 10 ∧ curS.toList.take (svs.length * 10) = svCells svs := by
      rcases hown.2 with ⟨h, _⟩ | ⟨gb, cap, cur, h, h2, h3, r1, r2, r3, r4⟩
      · exact (hnl h).elim
      · exact ⟨gb, cap, cur, by simpa using h, h2, h3, by simpa using r1, r2, r3, by simpa using r4⟩
    clear hown hg hnl n0 n1 n2 nE nG b0 b1 hE m0 z2 c2 c4 HCN h1' hl'
    have d0 := p0.cell 0
    have d1 := p0.cell 1
    have d2 := p0.cell 2
    have d3 := p0.cell 3
    have d4 := p0.cell 4
    have d5 := p0.cell 5
    have y2 := p0.frozen 2
    have y4 := p0.frozen 4
    have k0 := p1.cell 0
    have k1 := p1.cell 1
    have k2 := p1.cell 2
    have k3 := p1.cell 3
    have k4 := p1.cell 4
    have k5 := p1.cell 5
    have f0 := p1.frozen 0
    have f1 := p1.frozen 1
    have f2 := p1.frozen 2
    have f3 := p1.frozen 3
    have f4 := p1.frozen 4
    have f5 := p1.frozen 5
    have lM := p0.lt
    have lM1 := p1.lt
    go_wp2
    have bf := (((((((p1.far (p := ⟨w.heap.size, 4, none⟩) (by simp) (.slice (some ⟨gS, 0, none⟩) svs.length cap2)).set_ 0 (.int .i64 north)).set_ 1 (.int .i64 cols)).set_ 2 (.slice (some ⟨gE, 0, none⟩) east.length capE)).set_ 3 (.int .i64 lofts)).set_ 4 (.slice (some ⟨gS, 0, none⟩) svs.length cap2)).set_ 5 (.int .i64 wrong))
    refine bodyPost_ret (res28 _ _ (w.heap.size + 1) _ _ _ _ _ _ rfl (bf.cell 0) (bf.cell 1) (bf.cell 2) (bf.cell 3) (bf.cell 4) (bf.cell 5)) rfl ?_
    exact ⟨gE, capE, curE, gS, cap2, curS, rfl, by omega, (((((((pE.far (p := ⟨w.heap.size, 4, none⟩) (by simp; omega) (.slice (some ⟨gS, 0, none⟩) svs.length cap2)).far (p := ⟨w.heap.size + 1, 0, none⟩) (by simp; omega) (.int .i64 north)).far (p := ⟨w.heap.size + 1, 1, none⟩) (by simp; omega) (.int .i64 cols)).far (p := ⟨w.heap.size + 1, 2, none⟩) (by simp; omega) (.slice (some ⟨gE, 0, none⟩) east.length capE)).far (p := ⟨w.heap.size + 1, 3, none⟩) (by simp; omega) (.int .i64 lofts)).far (p := ⟨w.heap.size + 1, 4, none⟩) (by simp; omega) (.slice (some ⟨gS, 0, none⟩) svs.length cap2)).far (p := ⟨w.heap.size + 1, 5, none⟩) (by simp; omega) (.int .i64 wrong)), by rw [hct, HN.out], (((((((pG.s (p := ⟨w.heap.size, 4, none⟩) (by simp) (.slice (some ⟨gS, 0, none⟩) svs.length cap2)).s (p := ⟨w.heap.size + 1, 0, none⟩) (by simp) (.int .i64 north)).s (p := ⟨w.heap.size + 1, 1, none⟩) (by simp) (.int .i64 cols)).s (p := ⟨w.heap.size + 1, 2, none⟩) (by simp) (.slice (some ⟨gE, 0, none⟩) east.length capE)).s (p := ⟨w.heap.size + 1, 3, none⟩) (by simp) (.int .i64 lofts)).s (p := ⟨w.heap.size + 1, 4, none⟩) (by simp) (.slice (some ⟨gS, 0, none⟩) svs.length cap2)).s (p := ⟨w.heap.size + 1, 5, none⟩) (by simp) (.int .i64 wrong)), by omega, (((((((pS.far (p := ⟨w.heap.size, 4, none⟩) (by simp; omega) (.slice (some ⟨gS, 0, none⟩) svs.length cap2)).far (p := ⟨w.heap.size + 1, 0, none⟩) (by simp; omega) (.int .i64 north)).far (p := ⟨w.heap.size + 1, 1, none⟩) (by simp; omega) (.int .i64 cols)).far (p := ⟨w.heap.size + 1, 2, none⟩) (by simp; omega) (.slice (some ⟨gE, 0, none⟩) east.length capE)).far (p := ⟨w.heap.size + 1, 3, none⟩) (by simp; omega) (.int .i64 lofts)).far (p := ⟨w.heap.size + 1, 4, none⟩) (by simp; omega) (.slice (some ⟨gS, 0, none⟩) svs.length cap2)).far (p := ⟨w.heap.size + 1, 5, none⟩) (by simp; omega) (.int .i64 wrong)), q1, q2, q3, q4⟩
end Go.Proofs.YtcekdljjmfkacaaGreat
set_option linter.unusedSimpArgs false
set_option linter.unusedVariables false
namespace Go.Proofs.YtcekdljjmfkacaaGreat
open Go.RowKit Go.ChangeShapes Go.WideShapes Go.ChangeAt
set_option maxRecDepth 100000
section
variable {H : Type} {enc : TypeId × Value → H} {w : World}
theorem svs_nil {a : Option Addr} {n cap : Nat} {x : DataW H × List MemPlace} {fuel : Nat} {T E : Nat} (hu : Tryz.prog.underlying T = some (.slice E)) (h : DataW.trod enc Tryz.prog w 0 (fun _ => true) true fuel T [.slice a n cap] = some x) : (a = none → cap = 0) ∧ n ≤ cap := by
  rcases Deep.open_slice hu h with ⟨e, _⟩ | ⟨a', len, cap', m, n', D, Pl, e, _, hl, hm, _⟩
  · injection e with e1 _
    injection e1 with e1 e2 e3
    subst e1 e2 e3
    exact ⟨fun _ => rfl, Nat.le_refl _⟩
  · injection e with e1 _
    injection e1 with e1 e2 e3
    subst e1 e2 e3
    exact ⟨fun h => (by cases h), hl⟩
/-- a release that was handed in has no room where nothing lies -/
theorem rel_caps {north cols lofts wrong bx bY sl sh lw lg lh hours dark : Int} {en sn n k : Nat} {ea sa ha fa : Option Addr} {ec sc hc fc : Nat} {d : DataW H} {p : List MemPlace}
    (h : DataW.Trod enc Tryz.prog w 0 (fun _ => true) true 35 (.agg #[.int .i64 north, .int .i64 cols, .slice ea en ec, .int .i64 lofts, .slice sa sn sc, .int .i64 wrong, .int .i64 bx, .int .i64 bY, .slice ha n hc, .int .i64 sl, .int .i64 sh, .slice fa k fc, .int .i64 lw, .int .i64 lg, .int .i64 lh, .int .i64 hours, .int .i64 dark]) d p) :
    (sa = none → sc = 0) ∧ ((ha = none → hc = 0) ∧ n ≤ hc) ∧ (fa = none → fc = 0) ∧ k ≤ fc := by
  obtain ⟨fuel, hf0⟩ := h
  obtain ⟨xs, m, _, _, hl, hlen, hf⟩ := DataW.trod_struct Tryz.underlying35 hf0
  match xs, hlen with
  | [y0, y1, y2, y3, y4, y5, y6, y7], _ =>
    have h0 := hf 0 _ rfl
    have h2 := hf 2 _ rfl
    have h4 := hf 4 _ rfl
    simp [k3, k25, k27, k28, k31, k33, k46, Value.cells] at h0 h2 h4
    obtain ⟨xs, m, _, _, hl, hlen, hg⟩ := DataW.trod_struct Tryz.underlying25 h0
    match xs, hlen with
    | [z0, z1, z2, z3, z4, z5], _ =>
      have q4 := hg 4 _ rfl
      simp [k3, k22, k23] at q4
      exact ⟨(svs_nil Tryz.underlying23 q4).1, svs_nil Tryz.underlying28 h2, svs_nil Tryz.underlying31 h4⟩
end
end Go.Proofs.YtcekdljjmfkacaaGreat
set_option linter.unusedSimpArgs false
set_option linter.unusedVariables false
namespace Go.Proofs.YtcekdljjmfkacaaGreat
open Go.RowKit Go.Shelf
attribute [local go_sem] Oper.semAt_some wide_fn wide_dep wideR_fn wideR_dep
theorem own_heap {X Y : World} {b N z : Nat} {e : TypeId} {v : Value} {xs : List Value} (h : X.ownsRow b e z v N xs) (hk : ∀ g, v.ownBlock = some g → Y.heap[g]? = X.heap[g]?) : Y.ownsRow b e z v N xs := by
  refine ⟨h.1, ?_⟩
  rcases h.2 with h0 | ⟨g, cap, cur, rfl, h1, h2, h3⟩
  · exact .inl h0
  · exact .inr ⟨g, cap, cur, rfl, h1, (hk g rfl).trans h2, h3⟩
theorem own_farT {X Y : World} {b N z F : Nat} {e t : TypeId} {v : Value} {xs : List Value} {FC : Array Value} (h : X.ownsRow b e z v N xs) (hB : Blk X F t FC) (he : t ≠ e) (hY : ∀ b, b ≠ F → Y.heap[b]? = X.heap[b]?) : Y.ownsRow b e z v N xs :=
  own_heap h fun g hg => hY g (fun e' => by subst e'; exact own_ne h hB he hg.symm)
theorem heap_set (X : World) (F i : Nat) (u : Value) : ∀ b, b ≠ F → (X.setCell ⟨F, i, none⟩ u).heap[b]? = X.heap[b]? := fun b hb => Below.heap_setCell _ _ _ b hb
theorem OwnSv.far {X Y : World} {g cap F : Nat} {t : TypeId} {cur FC : Array Value} {svs : List Sv} (h : OwnSv X g cap cur svs) (hB : Blk X F t FC) (he : t ≠ 135) (hY : ∀ b, b ≠ F → Y.heap[b]? = X.heap[b]?) : OwnSv Y g cap cur svs :=
  ⟨Blk.apart h.1 hB (fun e => he e.symm) hY, h.2⟩
/-- six cells of a block are stored -/
def W6 (W : World) (g : Nat) (v0 v1 v2 v3 v4 v5 : Value) : World := (((((W.setCell ⟨g, 0, none⟩ v0).setCell ⟨g, 1, none⟩ v1).setCell ⟨g, 2, none⟩ v2).setCell ⟨g, 3, none⟩ v3).setCell ⟨g, 4, none⟩ v4).setCell ⟨g, 5, none⟩ v5
theorem W6_heap (W : World) (g : Nat) (v0 v1 v2 v3 v4 v5 : Value) : ∀ b, b ≠ g → (W6 W g v0 v1 v2 v3 v4 v5).heap[b]? = W.heap[b]? := fun b hb =>
  (heap_set _ _ _ _ b hb).trans ((heap_set _ _ _ _ b hb).trans ((heap_set _ _ _ _ b hb).trans ((heap_set _ _ _ _ b hb).trans ((heap_set _ _ _ _ b hb).trans (heap_set _ _ _ _ b hb)))))
theorem W6_G {w0 W : World} {g : Nat} (hg : w0.heap.size ≤ g) (h : G w0 W) (v0 v1 v2 v3 v4 v5 : Value) : G w0 (W6 W g v0 v1 v2 v3 v4 v5) :=
  (((((h.s (p := ⟨g, 0, none⟩) hg v0).s (p := ⟨g, 1, none⟩) hg v1).s (p := ⟨g, 2, none⟩) hg v2).s (p := ⟨g, 3, none⟩) hg v3).s (p := ⟨g, 4, none⟩) hg v4).s (p := ⟨g, 5, none⟩) hg v5
theorem W6_blk {W : World} {g : Nat} {t : TypeId} {cs : Array Value} (h : Blk W g t cs) (v0 v1 v2 v3 v4 v5 : Value) : Blk (W6 W g v0 v1 v2 v3 v4 v5) g t ((((((cs.setIfInBounds 0 v0).setIfInBounds 1 v1).setIfInBounds 2 v2).setIfInBounds 3 v3).setIfInBounds 4 v4).setIfInBounds 5 v5) :=
  (((((h.set_ 0 v0).set_ 1 v1).set_ 2 v2).set_ 3 v3).set_ 4 v4).set_ 5 v5
/-- append of a row of numbers to a row of one's own -/
theorem wpList_append_row {w w0 : World} {ops : Array Oper} {rest : List Oper} {o : Oper} {a : Act} {Q : Exit → Act → World → Prop} (hgd : o.guard = none) (s x : Operand) (t : TypeId)
    (ho : o.op = .call { callee := .builtin .append, args := #[s, x], argTypes := #[t, t] })
    (base : Nat) (e : TypeId) (i : TypeInfo) (z : Value) (size bytes : Nat) (ht : Tryz.prog.underlying t = some (.slice e)) (hi : Tryz.prog.info? e = some i) (hz : i.zero = some z)
    (hsize : i.size = size) (hby : i.bytes = bytes) (hzs : z.cells.size = size) (hsz : 0 < size)
    (v : Value) (n : Nat) (xs : List Value) (hs : a.eval s = v) (hown : w.ownsRow base e size v n xs)
    (ra : Option Addr) (m c : Nat) (cf : Nat → Nat → Int) (hx : a.eval x = .slice ra m c) (hrow : RowAt w0 ra m size cf) (hG : G w0 w) (hcap : m ≤ c) (hnil : ra = none → c = 0)
    (h63 : n + m ≤ maxLen) (hbytes : (n + m) * bytes ≤ 140737488355328) (hbase : base ≤ w.heap.size)
    (h : ∀ v' w' ys, w'.ownsRow base e size v' (n + m) (xs ++ ys) → ys.length = m * size → (∀ i, i < m → ∀ r, r < size → ys[i * size + r]? = some (.int .i64 (cf i r))) → w.grownBy w' v.ownBlock → wpList Tryz.prog ops Q rest (a.put o.dst v') w') : wpList Tryz.prog ops Q (o :: rest) a w := by
  rcases src_row hrow hsz hcap hnil with ⟨rfl, rfl, rfl⟩ | ⟨ad, news, rfl, hl, hc, h1, hget⟩
  · exact wpList_append_own_none hgd s x t ho base e i size ht hi v n xs hs hown hx (h v w [] (by simpa using hown) (by simp) (fun i hi => absurd hi (Nat.not_lt_zero _)) (World.grownBy.refl _ _))
  · exact wpList_append_own w hgd s x t ho base e i z size bytes ht hi hz hsize hby hzs hsz v n xs hs hown ad m c news hx hl (hc w hG) h1 h63 hbytes hbase fun v' w' h2 h3 _ => h v' w' news h2 hl hget h3
theorem info60 : (Tryz.prog.info? 71).map (fun i => (i.zero, i.size, i.bytes)) = some (some (.agg #[.int .i64 0, .int .i64 0, .int .i64 0, .int .i64 0, .int .i64 0, .int .i64 0, .int .i64 0, .int .i64 0, .int .i64 0, .int .i64 0, .int .i64 0, .int .i64 0]), 12, 96) := by kernel_rfl
theorem res21 (tmps : Array Value) (w : World) (g : Nat) {REL : Array Value} (hR : IsRel REL) (h : tmps.getD 2 undef = .pointer (some ⟨g, 0, none⟩)) (hB : Blk w g 35 REL) :
    (results Tryz.f8 tmps).run Tryz.prog w = .ok (.agg REL) w := by
  obtain ⟨x0, x1, p2, l2, k2, x3, p4, l4, k4, x5, x6, x7, p8, l8, k8, x9, x10, p11, l11, k11, x12, x13, x14, x15, x16, rfl⟩ := hR
  have c0 : w.cell? ⟨g, 0, none⟩ = some (.int .i64 x0) := hB.cell 0
  have c1 : w.cell? ⟨g, 1, none⟩ = some (.int .i64 x1) := hB.cell 1
  have c2 : w.cell? ⟨g, 2, none⟩ = some (.slice p2 l2 k2) := hB.cell 2
  have c3 : w.cell? ⟨g, 3, none⟩ = some (.int .i64 x3) := hB.cell 3
  have c4 : w.cell? ⟨g, 4, none⟩ = some (.slice p4 l4 k4) := hB.cell 4
  have c5 : w.cell? ⟨g, 5, none⟩ = some (.int .i64 x5) := hB.cell 5
  have c6 : w.cell? ⟨g, 6, none⟩ = some (.int .i64 x6) := hB.cell 6
  have c7 : w.cell? ⟨g, 7, none⟩ = some (.int .i64 x7) := hB.cell 7
  have c8 : w.cell? ⟨g, 8, none⟩ = some (.slice p8 l8 k8) := hB.cell 8
  have c9 : w.cell? ⟨g, 9, none⟩ = some (.int .i64 x9) := hB.cell 9
  have c10 : w.cell? ⟨g, 10, none⟩ = some (.int .i64 x10) := hB.cell 10
  have c11 : w.cell? ⟨g, 11, none⟩ = some (.slice p11 l11 k11) := hB.cell 11
  have c12 : w.cell? ⟨g, 12, none⟩ = some (.int .i64 x12) := hB.cell 12
  have c13 : w.cell? ⟨g, 13, none⟩ = some (.int .i64 x13) := hB.cell 13
  have c14 : w.cell? ⟨g, 14, none⟩ = some (.int .i64 x14) := hB.cell 14
  have c15 : w.cell? ⟨g, 15, none⟩ = some (.int .i64 x15) := hB.cell 15
  have c16 : w.cell? ⟨g, 16, none⟩ = some (.int .i64 x16) := hB.cell 16
  clear hB
  have hr : Tryz.f8.results = #[.cell 2 35] := rfl
  have h' : tmps[2]?.getD undef = .pointer (some ⟨g, 0, none⟩) := by simpa using h
  simp only [results, hr]
  go_simp
/-- the parts of a copied release lie in blocks of its own -/
structure CpIn (w0 : World) (east : List Int) (svs : List Sv) (n k : Nat) (h f : Nat → Nat → Int) (gE : Nat) (curE : Array Value) (gS capS : Nat) (curS : Array Value) (aH : Option Addr) (cH : Nat) (xH : List Value) (BH : Nat) (aF : Option Addr) (cF : Nat) (xF : List Value) (BF : Nat) (W : World) : Prop where
  hE : Blk W gE 3 curE
  hEt : curE.toList.take east.length = east.map (Value.int .i64)
  hS : OwnSv W gS capS curS svs
  hH : W.ownsRow BH 27 2 (.slice aH n cH) n xH
  hHx : ∀ i, i < n → ∀ r, r < 2 → xH[i * 2 + r]? = some (.int .i64 (h i r))
  hF : W.ownsRow BF 71 12 (.slice aF k cF) k xF
  hFx : ∀ i, i < k → ∀ r, r < 12 → xF[i * 12 + r]? = some (.int .i64 (f i r))
  bd : w0.heap.size ≤ gE ∧ w0.heap.size ≤ gS ∧ w0.heap.size ≤ BH ∧ w0.heap.size ≤ BF
  hG : G w0 W
section
variable {w0 : World} {east : List Int} {svs : List Sv} {n k : Nat} {h f : Nat → Nat → Int} {gE : Nat} {curE : Array Value} {gS capS : Nat} {curS : Array Value} {aH : Option Addr} {cH : Nat} {xH : List Value} {BH : Nat} {aF : Option Addr} {cF : Nat} {xF : List Value} {BF : Nat} {W : World}
theorem CpIn.keep {W' : World} (c : CpIn w0 east svs n k h f gE curE gS capS curS aH cH xH BH aF cF xF BF W) (hk : G W W') : CpIn w0 east svs n k h f gE curE gS capS curS aH cH xH BH aF cF xF BF W' :=
  ⟨c.hE.keep hk, c.hEt, c.hS.keep hk, own_G c.hH hk, c.hHx, own_G c.hF hk, c.hFx, c.bd, c.hG.t hk⟩
theorem CpIn.far {W' : World} {F : Nat} {t : TypeId} {FC : Array Value} (c : CpIn w0 east svs n k h f gE curE gS capS curS aH cH xH BH aF cF xF BF W) (hB : Blk W F t FC) (h3 : t ≠ 3) (h123 : t ≠ 135) (h27 : t ≠ 27) (h60 : t ≠ 71) (hY : ∀ b, b ≠ F → W'.heap[b]? = W.heap[b]?) (hG : G w0 W') : CpIn w0 east svs n k h f gE curE gS capS curS aH cH xH BH aF cF xF BF W' :=
  ⟨Blk.apart c.hE hB (fun e => h3 e.symm) hY, c.hEt, c.hS.far hB h123 hY, own_farT c.hH hB h27 hY, c.hHx, own_farT c.hF hB h60 hY, c.hFx, c.bd, hG⟩
theorem CpIn.ints (c : CpIn w0 east svs n k h f gE curE gS capS curS aH cH xH BH aF cF xF BF W) : IntsAt W (some ⟨gE, 0, none⟩) east := east_at c.hE c.hEt
theorem CpIn.svsAt (c : CpIn w0 east svs n k h f gE curE gS capS curS aH cH xH BH aF cF xF BF W) : SvsAt W (some ⟨gS, 0, none⟩) svs := c.hS.at
theorem CpIn.homes (c : CpIn w0 east svs n k h f gE curE gS capS curS aH cH xH BH aF cF xF BF W) : RowAt W aH n 2 h := by
  obtain ⟨a, cap, e, hr⟩ := row_own c.hH c.hHx
  injection e with e1 e2 e3
  subst e1
  exact hr
theorem CpIn.fronts (c : CpIn w0 east svs n k h f gE curE gS capS curS aH cH xH BH aF cF xF BF W) : RowAt W aF k 12 f := by
  obtain ⟨a, cap, e, hr⟩ := row_own c.hF c.hFx
  injection e with e1 e2 e3
  subst e1
  exact hr
end
section
variable (north cols lofts wrong bx bY sl sh lw lg lh hours dark : Int) (east : List Int) (svs : List Sv) (n k : Nat) (h f : Nat → Nat → Int) (ea sa ha fa : Option Addr) (ec sc hc fc : Nat) (w : World)
def CpPost (e : Ending) (w' : World) : Prop := ∃ gE capE curE gS capS curS aH cH xH BH aF cF xF BF, e = .returned (.agg #[.int .i64 north, .int .i64 cols, .slice (some ⟨gE, 0, none⟩) east.length capE, .int .i64 lofts, .slice (some ⟨gS, 0, none⟩) svs.length capS, .int .i64 wrong, .int .i64 bx, .int .i64 bY, .slice aH n cH, .int .i64 sl, .int .i64 sh, .slice aF k cF, .int .i64 lw, .int .i64 lg, .int .i64 lh, .int .i64 hours, .int .i64 dark]) ∧ CpIn w east svs n k h f gE curE gS capS curS aH cH xH BH aF cF xF BF w'
set_option maxRecDepth 100000 in
set_option maxHeartbeats 8000000 in
theorem rCopy_any (he : IntsAt w ea east) (hs : SvsAt w sa svs) (hH : RowAt w ha n 2 h) (hF : RowAt w fa k 12 f) (h1 : 1 ≤ east.length) (hl : east.length ≤ 100) (hl2 : svs.length ≤ 100) (hn : n ≤ 100) (hk : k ≤ 100)
    (hcs : sa = none → sc = 0) (hch : (ha = none → hc = 0) ∧ n ≤ hc) (hcf : (fa = none → fc = 0) ∧ k ≤ fc) :
    Calls Tryz.prog 8 #[.agg #[.int .i64 north, .int .i64 cols, .slice ea east.length ec, .int .i64 lofts, .slice sa svs.length sc, .int .i64 wrong, .int .i64 bx, .int .i64 bY, .slice ha n hc, .int .i64 sl, .int .i64 sh, .slice fa k fc, .int .i64 lw, .int .i64 lg, .int .i64 lh, .int .i64 hours, .int .i64 dark]] w (CpPost north cols lofts wrong bx bY sl sh lw lg lh hours dark east svs n k h f w) := by
  have HC := Lib.hid (fun (W : World) (hW : G w W) => Copy_full north cols lofts wrong east svs ea sa ec sc W (he.below hW) (hs.below hW) h1 hl hl2 hcs)
  have HOK : Hid (∀ w' gE capE curE gS capS curS aH cH xH BH aF cF xF BF, CpIn w east svs n k h f gE curE gS capS curS aH cH xH BH aF cF xF BF w' → CpPost north cols lofts wrong bx bY sl sh lw lg lh hours dark east svs n k h f w (.returned (.agg #[.int .i64 north, .int .i64 cols, .slice (some ⟨gE, 0, none⟩) east.length capE, .int .i64 lofts, .slice (some ⟨gS, 0, none⟩) svs.length capS, .int .i64 wrong, .int .i64 bx, .int .i64 bY, .slice aH n cH, .int .i64 sl, .int .i64 sh, .slice aF k cF, .int .i64 lw, .int .i64 lg, .int .i64 lh, .int .i64 hours, .int .i64 dark])) w') := fun w' gE capE curE gS capS curS aH cH xH BH aF cF xF BF hc => ⟨gE, capE, curE, gS, capS, curS, aH, cH, xH, BH, aF, cF, xF, BF, rfl, hc⟩
  generalize CpPost north cols lofts wrong bx bY sl sh lw lg lh hours dark east svs n k h f w = PP at *
  have HHO := Lib.hid hH
  have HFF := Lib.hid hF
  clear he hs hH hF
  obtain ⟨i27, hi27, hz0, hz1, hz2⟩ := info_parts info27
  obtain ⟨i60, hi60, hy0, hy1, hy2⟩ := info_parts info60
  have g0 : G w ((w.alloc (.cells #[.int .i64 north, .int .i64 cols, .slice ea east.length ec, .int .i64 lofts, .slice sa svs.length sc, .int .i64 wrong, .int .i64 bx, .int .i64 bY, .slice ha n hc, .int .i64 sl, .int .i64 sh, .slice fa k fc, .int .i64 lw, .int .i64 lg, .int .i64 lh, .int .i64 hours, .int .i64 dark] 35)).alloc (.cells #[.int .i64 0, .int .i64 0, .slice none 0 0, .int .i64 0, .slice none 0 0, .int .i64 0, .int .i64 0, .int .i64 0, .slice none 0 0, .int .i64 0, .int .i64 0, .slice none 0 0, .int .i64 0, .int .i64 0, .int .i64 0, .int .i64 0, .int .i64 0] 35)) := ((G.rf _).a _).a _
  have b1 : Blk ((w.alloc (.cells #[.int .i64 north, .int .i64 cols, .slice ea east.length ec, .int .i64 lofts, .slice sa svs.length sc, .int .i64 wrong, .int .i64 bx, .int .i64 bY, .slice ha n hc, .int .i64 sl, .int .i64 sh, .slice fa k fc, .int .i64 lw, .int .i64 lg, .int .i64 lh, .int .i64 hours, .int .i64 dark] 35)).alloc (.cells #[.int .i64 0, .int .i64 0, .slice none 0 0, .int .i64 0, .slice none 0 0, .int .i64 0, .int .i64 0, .int .i64 0, .slice none 0 0, .int .i64 0, .int .i64 0, .slice none 0 0, .int .i64 0, .int .i64 0, .int .i64 0, .int .i64 0, .int .i64 0] 35)) w.heap.size 35 #[.int .i64 north, .int .i64 cols, .slice ea east.length ec, .int .i64 lofts, .slice sa svs.length sc, .int .i64 wrong, .int .i64 bx, .int .i64 bY, .slice ha n hc, .int .i64 sl, .int .i64 sh, .slice fa k fc, .int .i64 lw, .int .i64 lg, .int .i64 lh, .int .i64 hours, .int .i64 dark] := (Blk.new w 35 _).keep ((G.rf _).a _)
  have b2 : Blk ((w.alloc (.cells #[.int .i64 north, .int .i64 cols, .slice ea east.length ec, .int .i64 lofts, .slice sa svs.length sc, .int .i64 wrong, .int .i64 bx, .int .i64 bY, .slice ha n hc, .int .i64 sl, .int .i64 sh, .slice fa k fc, .int .i64 lw, .int .i64 lg, .int .i64 lh, .int .i64 hours, .int .i64 dark] 35)).alloc (.cells #[.int .i64 0, .int .i64 0, .slice none 0 0, .int .i64 0, .slice none 0 0, .int .i64 0, .int .i64 0, .int .i64 0, .slice none 0 0, .int .i64 0, .int .i64 0, .slice none 0 0, .int .i64 0, .int .i64 0, .int .i64 0, .int .i64 0, .int .i64 0] 35)) (w.heap.size + 1) 35 #[.int .i64 0, .int .i64 0, .slice none 0 0, .int .i64 0, .slice none 0 0, .int .i64 0, .int .i64 0, .int .i64 0, .slice none 0 0, .int .i64 0, .int .i64 0, .slice none 0 0, .int .i64 0, .int .i64 0, .int .i64 0, .int .i64 0, .int .i64 0] := Blk.new1 w _ 35 _
  go_enter Tryz.func8, Tryz.ntmps8
  go_upto_region 1 with fail
  change Code.wp _ _ _ _ ((w.alloc (.cells #[.int .i64 north, .int .i64 cols, .slice ea east.length ec, .int .i64 lofts, .slice sa svs.length sc, .int .i64 wrong, .int .i64 bx, .int .i64 bY, .slice ha n hc, .int .i64 sl, .int .i64 sh, .slice fa k fc, .int .i64 lw, .int .i64 lg, .int .i64 lh, .int .i64 hours, .int .i64 dark] 35)).alloc (.cells #[.int .i64 0, .int .i64 0, .slice none 0 0, .int .i64 0, .slice none 0 0, .int .i64 0, .int .i64 0, .int .i64 0, .slice none 0 0, .int .i64 0, .int .i64 0, .slice none 0 0, .int .i64 0, .int .i64 0, .int .i64 0, .int .i64 0, .int .i64 0] 35))
  generalize (w.alloc (.cells #[.int .i64 north, .int .i64 cols, .slice ea east.length ec, .int .i64 lofts, .slice sa svs.length sc, .int .i64 wrong, .int .i64 bx, .int .i64 bY, .slice ha n hc, .int .i64 sl, .int .i64 sh, .slice fa k fc, .int .i64 lw, .int .i64 lg, .int .i64 lh, .int .i64 hours, .int .i64 dark] 35)).alloc (.cells #[.int .i64 0, .int .i64 0, .slice none 0 0, .int .i64 0, .slice none 0 0, .int .i64 0, .int .i64 0, .int .i64 0, .slice none 0 0, .int .i64 0, .int .i64 0, .slice none 0 0, .int .i64 0, .int .i64 0, .int .i64 0, .int .i64 0, .int .i64 0] 35) = w1 at *
  have m0 := b1.cell 0; have m1 := b1.cell 1; have m2 := b1.cell 2; have m3 := b1.cell 3; have m4 := b1.cell 4; have m5 := b1.cell 5
  have l1 := b1.lt
  go_upto_region 2 with (go_at_call 30; refine (HC.out _ g0).mono ?_; rintro e w2 ⟨gE, capE, curE, gS, capS, curS, rfl, hgE, hE, hEt, hG2, hgS, hS⟩; clear m0 m1 m2 m3 m4 m5 l1; have l0 := b2.lt; replace hgE := Nat.le_trans (Nat.le_of_lt l0) hgE; replace hgS := Nat.le_trans (Nat.le_of_lt l0) hgS; clear l0; replace b1 := b1.keep hG2; replace b2 := b2.keep hG2; replace g0 := g0.t hG2; have m0 := b1.cell 0; have m1 := b1.cell 1; have m2 := b1.cell 2; have m3 := b1.cell 3; have m4 := b1.cell 4; have m5 := b1.cell 5; have z0 := b1.frozen 0; have z1 := b1.frozen 1; have z2 := b1.frozen 2; have z3 := b1.frozen 3; have z4 := b1.frozen 4; have z5 := b1.frozen 5; have l1 := b1.lt)
  clear m0 m1 m2 m3 m4 m5 z0 z1 z2 z3 z4 z5 l1 HC hG2
  change Code.wp _ _ _ _ (W6 w2 w.heap.size (.int .i64 north) (.int .i64 cols) (.slice (some ⟨gE, 0, none⟩) east.length capE) (.int .i64 lofts) (.slice (some ⟨gS, 0, none⟩) svs.length capS) (.int .i64 wrong))
  have n1 : Blk (W6 w2 w.heap.size (.int .i64 north) (.int .i64 cols) (.slice (some ⟨gE, 0, none⟩) east.length capE) (.int .i64 lofts) (.slice (some ⟨gS, 0, none⟩) svs.length capS) (.int .i64 wrong)) w.heap.size 35 #[.int .i64 north, .int .i64 cols, .slice (some ⟨gE, 0, none⟩) east.length capE, .int .i64 lofts, .slice (some ⟨gS, 0, none⟩) svs.length capS, .int .i64 wrong, .int .i64 bx, .int .i64 bY, .slice ha n hc, .int .i64 sl, .int .i64 sh, .slice fa k fc, .int .i64 lw, .int .i64 lg, .int .i64 lh, .int .i64 hours, .int .i64 dark] := W6_blk b1 _ _ _ _ _ _
  have hfar := W6_heap w2 w.heap.size (.int .i64 north) (.int .i64 cols) (.slice (some ⟨gE, 0, none⟩) east.length capE) (.int .i64 lofts) (.slice (some ⟨gS, 0, none⟩) svs.length capS) (.int .i64 wrong)
  have n2 : Blk (W6 w2 w.heap.size (.int .i64 north) (.int .i64 cols) (.slice (some ⟨gE, 0, none⟩) east.length capE) (.int .i64 lofts) (.slice (some ⟨gS, 0, none⟩) svs.length capS) (.int .i64 wrong)) (w.heap.size + 1) 35 #[.int .i64 0, .int .i64 0, .slice none 0 0, .int .i64 0, .slice none 0 0, .int .i64 0, .int .i64 0, .int .i64 0, .slice none 0 0, .int .i64 0, .int .i64 0, .slice none 0 0, .int .i64 0, .int .i64 0, .int .i64 0, .int .i64 0, .int .i64 0] := (hfar _ (by omega)).trans b2
  replace hE := Blk.apart hE b1 (by decide) hfar
  replace hS := hS.far b1 (by decide) hfar
  replace g0 := W6_G (Nat.le_refl _) g0 (.int .i64 north) (.int .i64 cols) (.slice (some ⟨gE, 0, none⟩) east.length capE) (.int .i64 lofts) (.slice (some ⟨gS, 0, none⟩) svs.length capS) (.int .i64 wrong)
  clear hfar b1 b2
  generalize W6 w2 w.heap.size (.int .i64 north) (.int .i64 cols) (.slice (some ⟨gE, 0, none⟩) east.length capE) (.int .i64 lofts) (.slice (some ⟨gS, 0, none⟩) svs.length capS) (.int .i64 wrong) = w3 at *
  have hSz : w.heap.size ≤ w3.heap.size := g0.size
  have d8 := n1.cell 8
  have l1 := n1.lt
  have e1 := own_empty (Blk.new w3 27 #[]) 2
  have ga : G w3 (w3.alloc (.cells #[] 27)) := (G.rf _).a _
  go_wp2_with (at_builtin; refine wpList_append_row rfl _ _ 28 rfl w3.heap.size 27 i27 (.agg #[.int .i64 0, .int .i64 0]) 2 16 Tryz.underlying28 hi27 hz0 hz1 hz2 rfl (by decide) _ _ _ rfl e1 ha n hc h rfl HHO.out (g0.t ga) hch.2 hch.1 (by unfold maxLen; omega) (by omega) (by simp) ?_)
  intro v' w4 xH hown hxl hxg hgr
  have g4 : G w3 w4 := grow_own ga e1 (Nat.le_refl _) hgr
  try rw [Nat.zero_add, List.nil_append] at hown
  obtain ⟨aH, cH, rfl⟩ := own_slice hown
  clear d8 l1 e1 ga hgr
  replace n1 := n1.keep g4
  replace n2 := n2.keep g4
  replace hE := hE.keep g4
  replace hS := hS.keep g4
  replace g0 := g0.t g4
  have d8 := n1.cell 8
  have z8 := n1.frozen 8
  have l1 := n1.lt
  go_upto_region 3 with fail
  have k1 : Blk (w4.setCell ⟨w.heap.size, 8, none⟩ (.slice aH n cH)) w.heap.size 35 #[.int .i64 north, .int .i64 cols, .slice (some ⟨gE, 0, none⟩) east.length capE, .int .i64 lofts, .slice (some ⟨gS, 0, none⟩) svs.length capS, .int .i64 wrong, .int .i64 bx, .int .i64 bY, .slice aH n cH, .int .i64 sl, .int .i64 sh, .slice fa k fc, .int .i64 lw, .int .i64 lg, .int .i64 lh, .int .i64 hours, .int .i64 dark] := n1.set_ 8 _
  have hfar := heap_set w4 w.heap.size 8 (.slice aH n cH)
  have k2 : Blk (w4.setCell ⟨w.heap.size, 8, none⟩ (.slice aH n cH)) (w.heap.size + 1) 35 #[.int .i64 0, .int .i64 0, .slice none 0 0, .int .i64 0, .slice none 0 0, .int .i64 0, .int .i64 0, .int .i64 0, .slice none 0 0, .int .i64 0, .int .i64 0, .slice none 0 0, .int .i64 0, .int .i64 0, .int .i64 0, .int .i64 0, .int .i64 0] := (hfar _ (by omega)).trans n2
  replace hE := Blk.apart hE n1 (by decide) hfar
  replace hS := hS.far n1 (by decide) hfar
  replace hown := own_farT hown n1 (by decide) hfar
  replace g0 := g0.s (p := ⟨w.heap.size, 8, none⟩) (Nat.le_refl _) (.slice aH n cH)
  clear hfar n1 n2 d8 z8 l1 g4
  generalize w4.setCell ⟨w.heap.size, 8, none⟩ (.slice aH n cH) = w5 at *
  have hBH : w.heap.size ≤ w3.heap.size := hSz
  generalize w3.heap.size = BH at hown hBH
  have hSz5 : w.heap.size ≤ w5.heap.size := g0.size
  have d11 := k1.cell 11
  have l1 := k1.lt
  have e1 := own_empty (Blk.new w5 71 #[]) 12
  have ga : G w5 (w5.alloc (.cells #[] 71)) := (G.rf _).a _
  go_wp2_with (at_builtin; refine wpList_append_row rfl _ _ 31 rfl w5.heap.size 71 i60 (.agg #[.int .i64 0, .int .i64 0, .int .i64 0, .int .i64 0, .int .i64 0, .int .i64 0, .int .i64 0, .int .i64 0, .int .i64 0, .int .i64 0, .int .i64 0, .int .i64 0]) 12 96 Tryz.underlying31 hi60 hy0 hy1 hy2 rfl (by decide) _ _ _ rfl e1 fa k fc f rfl HFF.out (g0.t ga) hcf.2 hcf.1 (by unfold maxLen; omega) (by omega) (by simp) ?_)
  intro v' w6 xF hownF hxlF hxgF hgr
  have g6 : G w5 w6 := grow_own ga e1 (Nat.le_refl _) hgr
  try rw [Nat.zero_add, List.nil_append] at hownF
  obtain ⟨aF, cF, rfl⟩ := own_slice hownF
  clear d11 l1 e1 ga hgr
  replace k1 := k1.keep g6
  replace k2 := k2.keep g6
  replace hE := hE.keep g6
  replace hS := hS.keep g6
  replace hown := own_G hown g6
  replace g0 := g0.t g6
  have d11 := k1.cell 11
  have z11 := k1.frozen 11
  have l1 := k1.lt
  go_upto_region 4 with fail
  have p1 : Blk (w6.setCell ⟨w.heap.size, 11, none⟩ (.slice aF k cF)) w.heap.size 35 #[.int .i64 north, .int .i64 cols, .slice (some ⟨gE, 0, none⟩) east.length capE, .int .i64 lofts, .slice (some ⟨gS, 0, none⟩) svs.length capS, .int .i64 wrong, .int .i64 bx, .int .i64 bY, .slice aH n cH, .int .i64 sl, .int .i64 sh, .slice aF k cF, .int .i64 lw, .int .i64 lg, .int .i64 lh, .int .i64 hours, .int .i64 dark] := k1.set_ 11 _
  have hfar := heap_set w6 w.heap.size 11 (.slice aF k cF)
  have p2 : Blk (w6.setCell ⟨w.heap.size, 11, none⟩ (.slice aF k cF)) (w.heap.size + 1) 35 #[.int .i64 0, .int .i64 0, .slice none 0 0, .int .i64 0, .slice none 0 0, .int .i64 0, .int .i64 0, .int .i64 0, .slice none 0 0, .int .i64 0, .int .i64 0, .slice none 0 0, .int .i64 0, .int .i64 0, .int .i64 0, .int .i64 0, .int .i64 0] := (hfar _ (by omega)).trans k2
  replace hE := Blk.apart hE k1 (by decide) hfar
  replace hS := hS.far k1 (by decide) hfar
  replace hown := own_farT hown k1 (by decide) hfar
  replace hownF := own_farT hownF k1 (by decide) hfar
  replace g0 := g0.s (p := ⟨w.heap.size, 11, none⟩) (Nat.le_refl _) (.slice aF k cF)
  clear hfar k1 k2 d11 z11 l1 g6
  generalize w6.setCell ⟨w.heap.size, 11, none⟩ (.slice aF k cF) = w7 at *
  have hBF : w.heap.size ≤ w5.heap.size := hSz5
  generalize w5.heap.size = BF at hownF hBF
  have hcp : CpIn w east svs n k h f gE curE gS capS curS aH cH xH BH aF cF xF BF w7 := ⟨hE, hEt, hS, hown, hxg, hownF, hxgF, ⟨by omega, by omega, hBH, hBF⟩, g0⟩
  clear hE hEt hS hown hxg hownF hxgF
  refine wp_region_lit ?_
  refine wpList_load35 w.heap.size 1 (REL := #[.int .i64 north, .int .i64 cols, .slice (some ⟨gE, 0, none⟩) east.length capE, .int .i64 lofts, .slice (some ⟨gS, 0, none⟩) svs.length capS, .int .i64 wrong, .int .i64 bx, .int .i64 bY, .slice aH n cH, .int .i64 sl, .int .i64 sh, .slice aF k cF, .int .i64 lw, .int .i64 lg, .int .i64 lh, .int .i64 hours, .int .i64 dark]) ⟨_, _, _, _, _, _, _, _, _, _, _, _, _, _, _, _, _, _, _, _, _, _, _, _, _, rfl⟩ rfl rfl rfl p1 ?_
  try simp only [Act.put, List.getElem_toArray, List.getElem_cons_zero, List.getElem_cons_succ, List.setIfInBounds_toArray, List.set_cons_zero, List.set_cons_succ]
  refine wpList_plain rfl fun K hK => ?_
  refine wp_store46 (w.heap.size + 1) 2 17 (OLD := #[.int .i64 0, .int .i64 0, .slice none 0 0, .int .i64 0, .slice none 0 0, .int .i64 0, .int .i64 0, .int .i64 0, .slice none 0 0, .int .i64 0, .int .i64 0, .slice none 0 0, .int .i64 0, .int .i64 0, .int .i64 0, .int .i64 0, .int .i64 0]) (REL := #[.int .i64 north, .int .i64 cols, .slice (some ⟨gE, 0, none⟩) east.length capE, .int .i64 lofts, .slice (some ⟨gS, 0, none⟩) svs.length capS, .int .i64 wrong, .int .i64 bx, .int .i64 bY, .slice aH n cH, .int .i64 sl, .int .i64 sh, .slice aF k cF, .int .i64 lw, .int .i64 lg, .int .i64 lh, .int .i64 hours, .int .i64 dark]) ⟨_, _, _, _, _, _, _, _, _, _, _, _, _, _, _, _, _, _, _, _, _, _, _, _, _, rfl⟩ ⟨_, _, _, _, _, _, _, _, _, _, _, _, _, _, _, _, _, _, _, _, _, _, _, _, _, rfl⟩ rfl rfl rfl p2 fun W2 hB2 hF2 hG2 => ?_
  refine hK _ _ ?_
  have hcp2 := hcp.far p2 (by decide) (by decide) (by decide) (by decide) hF2 (hG2 w (by omega) g0)
  have HF := Lib.hid (HOK.out W2 gE capE curE gS capS curS aH cH xH BH aF cF xF BF hcp2)
  clear hcp hcp2 hF2 hG2 hK p1 p2 HOK
  try simp only [Act.put, List.getElem_toArray, List.getElem_cons_zero, List.getElem_cons_succ, List.setIfInBounds_toArray, List.set_cons_zero, List.set_cons_succ]
  go_wp2
  exact bodyPost_ret (res21 _ _ (w.heap.size + 1) ⟨_, _, _, _, _, _, _, _, _, _, _, _, _, _, _, _, _, _, _, _, _, _, _, _, _, rfl⟩ rfl hB2) rfl HF.out
end
end Go.Proofs.YtcekdljjmfkacaaGreat
