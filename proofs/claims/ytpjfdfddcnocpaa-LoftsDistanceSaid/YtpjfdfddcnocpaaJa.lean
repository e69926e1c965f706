import Derived.Test.YtpjfdfddcnocpaaKd
set_option linter.unusedSimpArgs false
set_option linter.unusedVariables false
namespace Go.Proofs.Ytpjfdfddcnocpaa
open Go.RowKit Go.Shelf
attribute [local go_sem] Oper.semAt_some

def svC (s : Sv) : List Value := [.int .i64 s.loft, .int .i64 s.kind, .int .i64 s.xl, .int .i64 s.xh, .int .i64 s.yl, .int .i64 s.yh, .int .i64 s.ax, .int .i64 s.ay, .int .i64 s.dl, .int .i64 s.dh]
/-- the cells of some surveys -/
def svCells (svs : List Sv) : List Value := svs.flatMap svC
theorem svCells_len (svs : List Sv) : (svCells svs).length = svs.length * 10 := by
  induction svs with
  | nil => rfl
  | cons s l ih => rw [svCells, List.flatMap_cons, List.length_append, ← svCells, ih]; simp [svC]; omega
theorem svCells_app (A B : List Sv) : svCells (A ++ B) = svCells A ++ svCells B := by simp [svCells]
theorem svCells_get : ∀ (svs : List Sv) (i r : Nat), i < svs.length → r < 10 → (svCells svs)[i * 10 + r]? = (svC (svs.getD i default))[r]?
  | [], i, r, h, _ => by simp at h
  | s :: l, 0, r, _, hr => by
    rw [svCells, List.flatMap_cons, List.getElem?_append_left (by simp [svC]; omega)]
    simp
  | s :: l, i + 1, r, h, hr => by
    have ih := svCells_get l i r (by simpa using h) hr
    rw [svCells, List.flatMap_cons, List.getElem?_append_right (by simp [svC]; omega), ← svCells]
    rw [show (i + 1) * 10 + r - (svC s).length = i * 10 + r by simp [svC]; omega, ih]
    simp
theorem svCells_one (svs : List Sv) : ∀ u ∈ svCells svs, Value.oneCell' u = true := fun u hu => by
  obtain ⟨s, _, h⟩ := List.mem_flatMap.1 hu
  simp only [svC, List.mem_cons, List.not_mem_nil, or_false] at h
  rcases h with rfl | rfl | rfl | rfl | rfl | rfl | rfl | rfl | rfl | rfl <;> rfl
theorem SvCells.of {w : World} {b o : Nat} {s : Sv} (h : ∀ r, r < 10 → w.cell? ⟨b, o + r, none⟩ = (svC s)[r]?) : SvCells w b o s :=
  ⟨h 0 (by omega), h 1 (by omega), h 2 (by omega), h 3 (by omega), h 4 (by omega), h 5 (by omega), h 6 (by omega), h 7 (by omega), h 8 (by omega), h 9 (by omega)⟩
theorem SvCells.get {w : World} {b o : Nat} {s : Sv} (h : SvCells w b o s) (r : Nat) (hr : r < 10) : w.cell? ⟨b, o + r, none⟩ = (svC s)[r]? := by
  obtain ⟨h0, h1, h2, h3, h4, h5, h6, h7, h8, h9⟩ := h
  match r, hr with
  | 0, _ => exact h0
  | 1, _ => exact h1
  | 2, _ => exact h2
  | 3, _ => exact h3
  | 4, _ => exact h4
  | 5, _ => exact h5
  | 6, _ => exact h6
  | 7, _ => exact h7
  | 8, _ => exact h8
  | 9, _ => exact h9
/-- a row of surveys as a source of append, from the k-th on -/
theorem src_at {w : World} {b off : Nat} {svs : List Sv} (hb : b < w.heap.size) (hc : ∀ k, k < svs.length → SvCells w b (off + k * 10) (svs.getD k default)) (W : World) (hW : G w W) (k : Nat) :
    ∀ j u, (svCells (svs.drop k))[j]? = some u → W.cell? ((⟨b, off + k * 10, none⟩ : Addr).add j) = some u := fun j u h => by
  rw [addr_add]
  have hj : j < (svs.drop k).length * 10 := by
    rcases Nat.lt_or_ge j (svCells (svs.drop k)).length with h1 | h1
    · rwa [svCells_len] at h1
    · rw [List.getElem?_eq_none h1] at h; cases h
  have e : j = j / 10 * 10 + j % 10 := by omega
  have hr : j % 10 < 10 := Nat.mod_lt _ (by omega)
  have hi : j / 10 < (svs.drop k).length := by omega
  generalize j % 10 = r at e hr
  generalize j / 10 = i at *
  subst e
  rw [svCells_get _ i r hi hr] at h
  have hik : k + i < svs.length := by rw [List.length_drop] at hi; omega
  have h2 := (hc (k + i) hik).get r hr
  rw [show off + (k + i) * 10 + r = off + k * 10 + (i * 10 + r) by omega] at h2
  rw [(bcellB hW).1 b _ hb, h2, ← h]
  congr 2
  simp [List.getD_eq_getElem?_getD]
theorem src_full {w : World} {sa : Option Addr} {svs : List Sv} {sc : Nat} (hs : SvsAt w sa svs) (hn : sa = none → sc = 0) :
    (sa = none ∧ svs.length = 0 ∧ sc = 0) ∨ ∃ ad : Addr, sa = some ad ∧ (svCells svs).length = svs.length * 10 ∧ (∀ W, G w W → ∀ j u, (svCells svs)[j]? = some u → W.cell? (ad.add j) = some u) ∧ ∀ u ∈ svCells svs, Value.oneCell' u = true := by
  rcases hs with rfl | ⟨b, off, rfl, hb, hc⟩
  · cases sa with
    | none => exact .inl ⟨rfl, rfl, hn rfl⟩
    | some ad => exact .inr ⟨ad, rfl, rfl, fun W _ j u h => by simp [svCells] at h, fun u h => by simp [svCells] at h⟩
  · right
    refine ⟨_, rfl, svCells_len _, fun W hW j u h => ?_, svCells_one _⟩
    have := src_at hb hc W hW 0 j u (by simpa using h)
    simpa using this
/-- a row of surveys of one's own -/
def OwnSv (W : World) (g cap : Nat) (cur : Array Value) (svs : List Sv) : Prop := Blk W g 56 cur ∧ svs.length ≤ cap ∧ cap ≤ maxLen ∧ cur.size = cap * 10 ∧ cur.toList.take (svs.length * 10) = svCells svs
theorem OwnSv.keep {W W' : World} {g cap : Nat} {cur : Array Value} {svs : List Sv} (h : OwnSv W g cap cur svs) (k : G W W') : OwnSv W' g cap cur svs := ⟨h.1.keep k, h.2⟩
theorem OwnSv.at {W : World} {g cap : Nat} {cur : Array Value} {svs : List Sv} (h : OwnSv W g cap cur svs) : SvsAt W (some ⟨g, 0, none⟩) svs :=
  .inr ⟨g, 0, rfl, h.1.lt, fun k hk => SvCells.of fun r hr => by
    rw [h.1.cell, Nat.zero_add, ← svCells_get svs k r hk hr, ← h.2.2.2.2, List.getElem?_take_of_lt (by omega)]
    simp⟩
def CopyFull (north cols lofts wrong : Int) (east : List Int) (svs : List Sv) (w : World) (e : Ending) (w' : World) : Prop :=
  ∃ gE capE curE gS capS curS, e = .returned (.agg #[.int .i64 north, .int .i64 cols, .slice (some ⟨gE, 0, none⟩) east.length capE, .int .i64 lofts, .slice (some ⟨gS, 0, none⟩) svs.length capS, .int .i64 wrong]) ∧
      w.heap.size ≤ gE ∧ Blk w' gE 3 curE ∧ curE.toList.take east.length = east.map (Value.int .i64) ∧ G w w' ∧ w.heap.size ≤ gS ∧ OwnSv w' gS capS curS svs
theorem east_at {W : World} {g : Nat} {cur : Array Value} {east : List Int} (h : Blk W g 3 cur) (hc : cur.toList.take east.length = east.map (Value.int .i64)) : IntsAt W (some ⟨g, 0, none⟩) east :=
  .inr ⟨g, 0, rfl, h.lt, fun k hk => by
    have : (cur.toList.take east.length)[k]? = some (.int .i64 (east.getD k 0)) := by rw [hc]; simp [hk]
    rw [List.getElem?_take_of_lt hk] at this
    rw [h.cell, Nat.zero_add]
    simpa using this⟩
set_option maxRecDepth 100000 in
set_option maxHeartbeats 4000000 in
theorem Copy_full (north cols lofts wrong : Int) (east : List Int) (svs : List Sv) (ea sa : Option Addr) (ec sc : Nat) (w : World) (he : IntsAt w ea east) (hs : SvsAt w sa svs) (h1 : 1 ≤ east.length) (hl : east.length ≤ 100) (hl2 : svs.length ≤ 100) (hn : sa = none → sc = 0) :
    Calls Try.prog 28 #[.agg #[.int .i64 north, .int .i64 cols, .slice ea east.length ec, .int .i64 lofts, .slice sa svs.length sc, .int .i64 wrong]] w (CopyFull north cols lofts wrong east svs w) := by
  rcases he with rfl | ⟨b, off, rfl, hbb, hcE⟩
  · simp at h1
  have hsE := src_east hbb hcE
  obtain ⟨i0, hi0, hz0, hz1, hz2⟩ := info_parts info3
  obtain ⟨i6, hi6, hy0, hy1, hy2⟩ := info_parts info56
  obtain ⟨ne, hne⟩ : ∃ ne, ne = east.map (Value.int .i64) := ⟨_, rfl⟩
  have hlen : ne.length = east.length * 1 := by rw [hne]; simp
  have h1c : ∀ u ∈ ne, u.oneCell' = true := fun u hu => by rw [hne] at hu; obtain ⟨z, _, rfl⟩ := List.mem_map.1 hu; rfl
  rw [← hne] at hsE
  have g0 : G w (((w.alloc (.cells #[.int .i64 north, .int .i64 cols, .slice (some ⟨b, off, none⟩) east.length ec, .int .i64 lofts, .slice sa svs.length sc, .int .i64 wrong] 25)).alloc (.cells #[.int .i64 0, .int .i64 0, .slice none 0 0, .int .i64 0, .slice none 0 0, .int .i64 0] 25)).alloc (.cells #[] 3)) := (((G.rf w).a _).a _).a _
  have b0 : Blk (((w.alloc (.cells #[.int .i64 north, .int .i64 cols, .slice (some ⟨b, off, none⟩) east.length ec, .int .i64 lofts, .slice sa svs.length sc, .int .i64 wrong] 25)).alloc (.cells #[.int .i64 0, .int .i64 0, .slice none 0 0, .int .i64 0, .slice none 0 0, .int .i64 0] 25)).alloc (.cells #[] 3)) w.heap.size 25 #[.int .i64 north, .int .i64 cols, .slice (some ⟨b, off, none⟩) east.length ec, .int .i64 lofts, .slice sa svs.length sc, .int .i64 wrong] := ((Blk.new w _ _).alloc _).alloc _
  have b1 : Blk (((w.alloc (.cells #[.int .i64 north, .int .i64 cols, .slice (some ⟨b, off, none⟩) east.length ec, .int .i64 lofts, .slice sa svs.length sc, .int .i64 wrong] 25)).alloc (.cells #[.int .i64 0, .int .i64 0, .slice none 0 0, .int .i64 0, .slice none 0 0, .int .i64 0] 25)).alloc (.cells #[] 3)) (w.heap.size + 1) 25 #[.int .i64 0, .int .i64 0, .slice none 0 0, .int .i64 0, .slice none 0 0, .int .i64 0] := (Blk.new1 w _ _ _).alloc _
  have b2 := own_empty (Blk.new2 w (.cells #[.int .i64 north, .int .i64 cols, .slice (some ⟨b, off, none⟩) east.length ec, .int .i64 lofts, .slice sa svs.length sc, .int .i64 wrong] 25) (.cells #[.int .i64 0, .int .i64 0, .slice none 0 0, .int .i64 0, .slice none 0 0, .int .i64 0] 25) 3 #[]) 1
  have HS := Lib.hid hsE
  have HN := Lib.hid hne
  clear hne hsE hcE
  go_enter Try.func28, Try.ntmps28
  go_wp2_with (at_builtin; refine wpList_append_own _ rfl _ _ 22 rfl (w.heap.size + 1 + 1) 3 i0 (.int .i64 0) 1 8 Try.underlying22 hi0 hz0 hz1 hz2 rfl (by decide) _ _ _ rfl b2 ⟨b, off, none⟩ east.length ec ne rfl hlen (HS.out _ g0) h1c (by unfold maxLen; omega) (by omega) (by simp) ?_)
  intro v' w1 hown hg _
  rw [show (Value.slice (some ⟨w.heap.size + 1 + 1, 0, none⟩) 0 0).ownBlock = some (w.heap.size + 1 + 1) from rfl] at hg
  replace b0 := b0.grown hg (fun e => by injection e with e; omega)
  replace b1 := b1.grown hg (fun e => by injection e with e; omega)
  have f1 : Fr (fun _ => False) w w1 := (G.fr g0).grown hg (fun g e => .inr (by injection e with e; omega))
  replace g0 : G w w1 := f1.toG (fun _ _ h => h)
  have hz : w.heap.size + 1 + 1 ≤ w1.heap.size := by have := b1.lt; omega
  obtain ⟨gE, capE, curE, rfl, hgE, hE, hcap, hct⟩ : ∃ gE capE curE, v' = .slice (some ⟨gE, 0, none⟩) east.length capE ∧ w.heap.size + 1 + 1 ≤ gE ∧ Blk w1 gE 3 curE ∧ east.length ≤ capE ∧ curE.toList.take east.length = ne := by
    rcases hown.2 with ⟨_, hz⟩ | ⟨gb, cap, cur, h1, h2, h3, r1, r2, r3, r4⟩
    · omega
    · exact ⟨gb, cap, cur, h1, h2, h3, r1, by simpa using r4⟩
  clear hown b2 hg f1
  have m0 := b0.cell 0
  have z2 := b0.frozen 2
  have c2 := b0.cell 2
  have l0 := b0.lt
  have n0 := (b0.set_ 2 (.slice (some ⟨gE, 0, none⟩) east.length capE)).alloc (.cells #[] 56)
  have n1 := (b1.far (p := ⟨w.heap.size, 2, none⟩) (by simp) (.slice (some ⟨gE, 0, none⟩) east.length capE)).alloc (.cells #[] 56)
  have nE := (hE.far (p := ⟨w.heap.size, 2, none⟩) (by simp; omega) (.slice (some ⟨gE, 0, none⟩) east.length capE)).alloc (.cells #[] 56)
  have nG := (g0.s (p := ⟨w.heap.size, 2, none⟩) (Nat.le_refl _) (.slice (some ⟨gE, 0, none⟩) east.length capE)).a (.cells #[] 56)
  have n2 := own_empty (Blk.new (w1.setCell ⟨w.heap.size, 2, none⟩ (.slice (some ⟨gE, 0, none⟩) east.length capE)) 56 #[]) 10
  have nZ : (w1.setCell ⟨w.heap.size, 2, none⟩ (.slice (some ⟨gE, 0, none⟩) east.length capE)).heap.size = w1.heap.size := by simp [World.setCell]
  rw [nZ] at n2
  have hnE : gE < w1.heap.size := hE.lt
  have c4 := b0.cell 4
  have lM : w.heap.size < w1.heap.size := b0.lt
  have lM1 : w.heap.size + 1 < w1.heap.size := b1.lt
  rcases src_full hs hn with ⟨rfl, hs0, rfl⟩ | ⟨ad, rfl, hl', hc', h1'⟩
  · clear m0 z2 c2 c4 l0
    have d0 := b0.cell 0
    have d1 := b0.cell 1
    have d2 := b0.cell 2
    have d3 := b0.cell 3
    have d4 := b0.cell 4
    have d5 := b0.cell 5
    have y2 := b0.frozen 2
    have y4 := b0.frozen 4
    have k0 := b1.cell 0
    have k1 := b1.cell 1
    have k2 := b1.cell 2
    have k3 := b1.cell 3
    have k4 := b1.cell 4
    have k5 := b1.cell 5
    have f0 := b1.frozen 0
    have f1 := b1.frozen 1
    have f2 := b1.frozen 2
    have f3 := b1.frozen 3
    have f4 := b1.frozen 4
    have f5 := b1.frozen 5
    go_wp2_with (at_builtin; refine wpList_append_own_none rfl _ _ 23 rfl (w1.heap.size) 56 i6 10 Try.underlying23 hi6 _ _ _ rfl n2 rfl ?_)
    have bf := ((((((((b1.far (p := ⟨w.heap.size, 2, none⟩) (by simp) (.slice (some ⟨gE, 0, none⟩) east.length capE)).far (p := ⟨w.heap.size, 4, none⟩) (by simp) (.slice (some ⟨w1.heap.size, 0, none⟩) 0 0)).set_ 0 (.int .i64 north)).set_ 1 (.int .i64 cols)).set_ 2 (.slice (some ⟨gE, 0, none⟩) east.length capE)).set_ 3 (.int .i64 lofts)).set_ 4 (.slice (some ⟨w1.heap.size, 0, none⟩) 0 0)).set_ 5 (.int .i64 wrong)).alloc (.cells #[] 56)
    refine bodyPost_ret (res28 _ _ (w.heap.size + 1) _ _ _ _ _ _ rfl (bf.cell 0) (bf.cell 1) (bf.cell 2) (bf.cell 3) (bf.cell 4) (bf.cell 5)) rfl ?_
    exact ⟨gE, capE, curE, w1.heap.size, 0, #[], by rw [hs0]; rfl, by omega, ((((((((hE.far (p := ⟨w.heap.size, 2, none⟩) (by simp; omega) (.slice (some ⟨gE, 0, none⟩) east.length capE)).far (p := ⟨w.heap.size, 4, none⟩) (by simp; omega) (.slice (some ⟨w1.heap.size, 0, none⟩) 0 0)).far (p := ⟨w.heap.size + 1, 0, none⟩) (by simp; omega) (.int .i64 north)).far (p := ⟨w.heap.size + 1, 1, none⟩) (by simp; omega) (.int .i64 cols)).far (p := ⟨w.heap.size + 1, 2, none⟩) (by simp; omega) (.slice (some ⟨gE, 0, none⟩) east.length capE)).far (p := ⟨w.heap.size + 1, 3, none⟩) (by simp; omega) (.int .i64 lofts)).far (p := ⟨w.heap.size + 1, 4, none⟩) (by simp; omega) (.slice (some ⟨w1.heap.size, 0, none⟩) 0 0)).far (p := ⟨w.heap.size + 1, 5, none⟩) (by simp; omega) (.int .i64 wrong)).alloc _, by rw [hct, HN.out], ((((((((g0.s (p := ⟨w.heap.size, 2, none⟩) (by simp) (.slice (some ⟨gE, 0, none⟩) east.length capE)).s (p := ⟨w.heap.size, 4, none⟩) (by simp) (.slice (some ⟨w1.heap.size, 0, none⟩) 0 0)).s (p := ⟨w.heap.size + 1, 0, none⟩) (by simp) (.int .i64 north)).s (p := ⟨w.heap.size + 1, 1, none⟩) (by simp) (.int .i64 cols)).s (p := ⟨w.heap.size + 1, 2, none⟩) (by simp) (.slice (some ⟨gE, 0, none⟩) east.length capE)).s (p := ⟨w.heap.size + 1, 3, none⟩) (by simp) (.int .i64 lofts)).s (p := ⟨w.heap.size + 1, 4, none⟩) (by simp) (.slice (some ⟨w1.heap.size, 0, none⟩) 0 0)).s (p := ⟨w.heap.size + 1, 5, none⟩) (by simp) (.int .i64 wrong)).a _, by omega, Blk.newAt (by simp [World.setCell]) _ _, by omega, by unfold maxLen; omega, rfl, by rw [List.eq_nil_of_length_eq_zero hs0]; rfl⟩
  · have hcn := hc' _ nG
    have HCN := Lib.hid hcn
    clear hc' hcn
    go_wp2_with (at_builtin; refine wpList_append_own _ rfl _ _ 23 rfl w1.heap.size 56 i6 (.agg #[.int .i64 0, .int .i64 0, .int .i64 0, .int .i64 0, .int .i64 0, .int .i64 0, .int .i64 0, .int .i64 0, .int .i64 0, .int .i64 0]) 10 80 Try.underlying23 hi6 hy0 hy1 hy2 rfl (by decide) _ _ _ rfl n2 ad svs.length sc (svCells svs) rfl hl' HCN.out h1' (by unfold maxLen; omega) (by omega) (by simp) ?_)
    intro v2 w3 hown hg hnl
    rw [show (Value.slice (some ⟨w1.heap.size, 0, none⟩) 0 0).ownBlock = some w1.heap.size from rfl] at hg
    have p0 := n0.grown hg (fun e => by injection e with e; omega)
    have p1 := n1.grown hg (fun e => by injection e with e; omega)
    have pE := nE.grown hg (fun e => by injection e with e; omega)
    have pG : G w w3 := ((G.fr (R := fun _ => False) nG).grown hg (fun g e => .inr (by injection e with e; omega))).toG (fun _ _ h => h)
    obtain ⟨gS, cap2, curS, rfl, hgS, pS, q1, q2, q3, q4⟩ : ∃ gS cap2 curS, v2 = .slice (some ⟨gS, 0, none⟩) svs.length cap2 ∧ w1.heap.size ≤ gS ∧ Blk w3 gS 56 curS ∧ svs.length ≤ cap2 ∧ cap2 ≤ maxLen ∧ curS.size = cap2 * 10 ∧ curS.toList.take (svs.length * 10) = svCells svs := by
      rcases hown.2 with ⟨h, _⟩ | ⟨gb, cap, cur, h, h2, h3, r1, r2, r3, r4⟩
      · exact (hnl h).elim
      · exact ⟨gb, cap, cur, by simpa using h, h2, h3, by simpa using r1, r2, r3, by simpa using r4⟩
    clear hown hg hnl n0 n1 n2 nE nG b0 b1 hE m0 z2 c2 c4 HCN h1' hl'
    have d0 := p0.cell 0
    have d1 := p0.cell 1
    have d2 := p0.cell 2
    have d3 := p0.cell 3
    have d4 := p0.cell 4
    have d5 := p0.cell 5
    have y2 := p0.frozen 2
    have y4 := p0.frozen 4
    have k0 := p1.cell 0
    have k1 := p1.cell 1
    have k2 := p1.cell 2
    have k3 := p1.cell 3
    have k4 := p1.cell 4
    have k5 := p1.cell 5
    have f0 := p1.frozen 0
    have f1 := p1.frozen 1
    have f2 := p1.frozen 2
    have f3 := p1.frozen 3
    have f4 := p1.frozen 4
    have f5 := p1.frozen 5
    have lM := p0.lt
    have lM1 := p1.lt
    go_wp2
    have bf := (((((((p1.far (p := ⟨w.heap.size, 4, none⟩) (by simp) (.slice (some ⟨gS, 0, none⟩) svs.length cap2)).set_ 0 (.int .i64 north)).set_ 1 (.int .i64 cols)).set_ 2 (.slice (some ⟨gE, 0, none⟩) east.length capE)).set_ 3 (.int .i64 lofts)).set_ 4 (.slice (some ⟨gS, 0, none⟩) svs.length cap2)).set_ 5 (.int .i64 wrong))
    refine bodyPost_ret (res28 _ _ (w.heap.size + 1) _ _ _ _ _ _ rfl (bf.cell 0) (bf.cell 1) (bf.cell 2) (bf.cell 3) (bf.cell 4) (bf.cell 5)) rfl ?_
    exact ⟨gE, capE, curE, gS, cap2, curS, rfl, by omega, (((((((pE.far (p := ⟨w.heap.size, 4, none⟩) (by simp; omega) (.slice (some ⟨gS, 0, none⟩) svs.length cap2)).far (p := ⟨w.heap.size + 1, 0, none⟩) (by simp; omega) (.int .i64 north)).far (p := ⟨w.heap.size + 1, 1, none⟩) (by simp; omega) (.int .i64 cols)).far (p := ⟨w.heap.size + 1, 2, none⟩) (by simp; omega) (.slice (some ⟨gE, 0, none⟩) east.length capE)).far (p := ⟨w.heap.size + 1, 3, none⟩) (by simp; omega) (.int .i64 lofts)).far (p := ⟨w.heap.size + 1, 4, none⟩) (by simp; omega) (.slice (some ⟨gS, 0, none⟩) svs.length cap2)).far (p := ⟨w.heap.size + 1, 5, none⟩) (by simp; omega) (.int .i64 wrong)), by rw [hct, HN.out], (((((((pG.s (p := ⟨w.heap.size, 4, none⟩) (by simp) (.slice (some ⟨gS, 0, none⟩) svs.length cap2)).s (p := ⟨w.heap.size + 1, 0, none⟩) (by simp) (.int .i64 north)).s (p := ⟨w.heap.size + 1, 1, none⟩) (by simp) (.int .i64 cols)).s (p := ⟨w.heap.size + 1, 2, none⟩) (by simp) (.slice (some ⟨gE, 0, none⟩) east.length capE)).s (p := ⟨w.heap.size + 1, 3, none⟩) (by simp) (.int .i64 lofts)).s (p := ⟨w.heap.size + 1, 4, none⟩) (by simp) (.slice (some ⟨gS, 0, none⟩) svs.length cap2)).s (p := ⟨w.heap.size + 1, 5, none⟩) (by simp) (.int .i64 wrong)), by omega, (((((((pS.far (p := ⟨w.heap.size, 4, none⟩) (by simp; omega) (.slice (some ⟨gS, 0, none⟩) svs.length cap2)).far (p := ⟨w.heap.size + 1, 0, none⟩) (by simp; omega) (.int .i64 north)).far (p := ⟨w.heap.size + 1, 1, none⟩) (by simp; omega) (.int .i64 cols)).far (p := ⟨w.heap.size + 1, 2, none⟩) (by simp; omega) (.slice (some ⟨gE, 0, none⟩) east.length capE)).far (p := ⟨w.heap.size + 1, 3, none⟩) (by simp; omega) (.int .i64 lofts)).far (p := ⟨w.heap.size + 1, 4, none⟩) (by simp; omega) (.slice (some ⟨gS, 0, none⟩) svs.length cap2)).far (p := ⟨w.heap.size + 1, 5, none⟩) (by simp; omega) (.int .i64 wrong)), q1, q2, q3, q4⟩
end Go.Proofs.Ytpjfdfddcnocpaa
