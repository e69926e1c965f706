import Derived.Test.YtcekdljjmfkacaaNj
set_option linter.unusedSimpArgs false
set_option linter.unusedVariables false
namespace Go.Proofs.Ytcekdljjmfkacaa
open Go.RowKit Go.Shelf
attribute [local go_sem] Oper.semAt_some wide_fn wide_dep wideR_fn wideR_dep
theorem resBool (tmps : Array Value) (w : World) (g : Nat) (b : Bool) (h : tmps.getD 6 undef = .pointer (some ⟨g, 0, none⟩)) (c0 : w.cell? ⟨g, 0, none⟩ = some (.bool b)) :
    (results Try.f73 tmps).run Try.prog w = .ok (.bool b) w := by
  have hr : Try.f73.results = #[.cell 6 4] := rfl
  have h' : tmps[6]?.getD undef = .pointer (some ⟨g, 0, none⟩) := by simpa using h
  simp only [results, hr]
  go_simp
section
variable (m cnt F lo hi H px py : Nat) (lw lg lh : Int) (FC : Array Value) (S : Int → Int → Int → Option Sk) (w : World)
set_option maxRecDepth 100000 in
set_option maxHeartbeats 8000000 in
theorem isOutside_in (n : Nat) (hn : 4 ≤ n) (hB : Blk w F 112 FC) (h12 : FC[12]? = some (.int .i64 lw)) (h13 : FC[13]? = some (.int .i64 lg)) (h14 : FC[14]? = some (.int .i64 lh)) (h15 : FC[15]? = some (.int .i64 (H : Nat))) (h18 : FC[18]? = some (.map (some m))) (hW : WMap w m cnt S)
    (hpx : px ≤ 1000) (hpy : py ≤ 1000) (hlo : lo ≤ 100000000000) (hhi : hi ≤ 100000000000) :
    CallsIn Fence.wide n Try.prog 73 #[.pointer (some ⟨F, 0, none⟩), .agg #[.int .i64 (px : Nat), .int .i64 (py : Nat)], .agg #[.int .i64 (lo : Nat), .int .i64 (hi : Nat)]] w fun e w' =>
      e = .returned (.bool ((hrsL lo hi H).all fun t => skOut ((S px py t).getD skAny) (skLim lw lg lh))) ∧ G w w' := by
  obtain ⟨p, hp⟩ : ∃ p : Nat → Bool, p = fun t : Nat => skOut ((S (px : Nat) (py : Nat) (t : Nat)).getD skAny) (skLim lw lg lh) := ⟨_, rfl⟩
  rw [← hp]
  have HP0 := Lib.hid hp
  clear hp
  have HL := Lib.hid (fun W : World => limitsOf_any lw lg lh W)
  have b96 : Blk ((((w.alloc (.cells #[.pointer (some ⟨F, 0, none⟩)] 96)).alloc (.cells #[.int .i64 (px : Nat), .int .i64 (py : Nat)] 27)).alloc (.cells #[.int .i64 (lo : Nat), .int .i64 (hi : Nat)] 30)).alloc (.cells #[.bool false] 4)) w.heap.size 96 #[.pointer (some ⟨F, 0, none⟩)] := (((Blk.new w 96 _).alloc _).alloc _).alloc _
  have b27 : Blk ((((w.alloc (.cells #[.pointer (some ⟨F, 0, none⟩)] 96)).alloc (.cells #[.int .i64 (px : Nat), .int .i64 (py : Nat)] 27)).alloc (.cells #[.int .i64 (lo : Nat), .int .i64 (hi : Nat)] 30)).alloc (.cells #[.bool false] 4)) (w.heap.size + 1) 27 #[.int .i64 (px : Nat), .int .i64 (py : Nat)] := ((Blk.new1 w _ 27 _).alloc _).alloc _
  have b30 : Blk ((((w.alloc (.cells #[.pointer (some ⟨F, 0, none⟩)] 96)).alloc (.cells #[.int .i64 (px : Nat), .int .i64 (py : Nat)] 27)).alloc (.cells #[.int .i64 (lo : Nat), .int .i64 (hi : Nat)] 30)).alloc (.cells #[.bool false] 4)) (w.heap.size + 1 + 1) 30 #[.int .i64 (lo : Nat), .int .i64 (hi : Nat)] := (Blk.new2 w _ _ 30 _).alloc _
  have b4 : Blk ((((w.alloc (.cells #[.pointer (some ⟨F, 0, none⟩)] 96)).alloc (.cells #[.int .i64 (px : Nat), .int .i64 (py : Nat)] 27)).alloc (.cells #[.int .i64 (lo : Nat), .int .i64 (hi : Nat)] 30)).alloc (.cells #[.bool false] 4)) (w.heap.size + 1 + 1 + 1) 4 #[.bool false] := by
    have h := Blk.new (((w.alloc (.cells #[.pointer (some ⟨F, 0, none⟩)] 96)).alloc (.cells #[.int .i64 (px : Nat), .int .i64 (py : Nat)] 27)).alloc (.cells #[.int .i64 (lo : Nat), .int .i64 (hi : Nat)] 30)) 4 #[.bool false]
    simpa using h
  have g0 : G w ((((w.alloc (.cells #[.pointer (some ⟨F, 0, none⟩)] 96)).alloc (.cells #[.int .i64 (px : Nat), .int .i64 (py : Nat)] 27)).alloc (.cells #[.int .i64 (lo : Nat), .int .i64 (hi : Nat)] 30)).alloc (.cells #[.bool false] 4)) := ((((G.rf w).a _).a _).a _).a _
  have hB4 := hB.keep g0
  have c12 := (hB4.cell 12).trans h12
  have c13 := (hB4.cell 13).trans h13
  have c14 := (hB4.cell 14).trans h14
  have lF := hB4.lt
  unfold skLim Sk.v at HL
  refine callsIn_of_wp_marks Try.func73 rfl trivial ?_ rfl
  simp only [Try.ntmps73, List.size_toArray, List.length_cons, List.length_nil, Nat.reduceAdd, Nat.reduceSub, Array.replicate_succ, Array.replicate_zero, List.push_toArray, List.append_toArray, List.nil_append, List.cons_append]
  gi_wp2_with (first | (gi_at_call 78; refine (callsIn_wide.2 (HL.out _)).mono ?_; rintro e w1 ⟨rfl, hG1⟩; clear c12 c13 c14 lF; replace b96 := b96.keep hG1; replace b27 := b27.keep hG1; replace b30 := b30.keep hG1; replace b4 := b4.keep hG1; replace hB4 := hB4.keep hG1; replace g0 := g0.t hG1; clear hG1; have e0 := b96.cell 0; have le := b96.lt; have d0 := b30.cell 0; have d1 := b30.cell 1; have ld := b30.lt) | (gi_at_call 79; refine (callsIn_wide.2 (hours_any F lo hi _)).mono ?_; rintro e w2 ⟨rfl, rfl⟩))
  have nG : G w1 (((w1.alloc (.cells (skLim lw lg lh).v 102)).alloc (.cells #[.pointer (some ⟨F, 0, none⟩)] 96)).alloc (.cells #[.int .i64 (lo : Nat), .int .i64 (hi : Nat)] 30)) := (((G.rf w1).a _).a _).a _
  have bK : Blk (((w1.alloc (.cells (skLim lw lg lh).v 102)).alloc (.cells #[.pointer (some ⟨F, 0, none⟩)] 96)).alloc (.cells #[.int .i64 (lo : Nat), .int .i64 (hi : Nat)] 30)) w1.heap.size 102 (skLim lw lg lh).v := ((Blk.new w1 102 _).alloc _).alloc _
  have bF : Blk (((w1.alloc (.cells (skLim lw lg lh).v 102)).alloc (.cells #[.pointer (some ⟨F, 0, none⟩)] 96)).alloc (.cells #[.int .i64 (lo : Nat), .int .i64 (hi : Nat)] 30)) (w1.heap.size + 1) 96 #[.pointer (some ⟨F, 0, none⟩)] := (Blk.new1 w1 _ 96 _).alloc _
  have bM : Blk (((w1.alloc (.cells (skLim lw lg lh).v 102)).alloc (.cells #[.pointer (some ⟨F, 0, none⟩)] 96)).alloc (.cells #[.int .i64 (lo : Nat), .int .i64 (hi : Nat)] 30)) (w1.heap.size + 1 + 1) 30 #[.int .i64 (lo : Nat), .int .i64 (hi : Nat)] := Blk.new2 w1 _ _ 30 _
  clear e0 le d0 d1 ld
  change Code.wpIn _ _ _ _ _ _ (((w1.alloc (.cells (skLim lw lg lh).v 102)).alloc (.cells #[.pointer (some ⟨F, 0, none⟩)] 96)).alloc (.cells #[.int .i64 (lo : Nat), .int .i64 (hi : Nat)] 30))
  generalize ((w1.alloc (.cells (skLim lw lg lh).v 102)).alloc (.cells #[.pointer (some ⟨F, 0, none⟩)] 96)).alloc (.cells #[.int .i64 (lo : Nat), .int .i64 (hi : Nat)] 30) = wR at *
  replace b96 := b96.keep nG; replace b27 := b27.keep nG; replace b4 := b4.keep nG; replace hB4 := hB4.keep nG; replace g0 := g0.t nG
  obtain ⟨nK, hnK⟩ : ∃ nK, nK = w1.heap.size := ⟨_, rfl⟩
  rw [← hnK] at bK bF bM ⊢
  clear hnK b30 nG
  have hWR := hW.keep g0
  have hseq := hours_stops (n - 1) (by omega) (nK + 1 + 1) (nK + 1) F lo hi H FC hlo hhi wR bM bF hB4 h15
  have HSky := Lib.hid (fun (W : World) (hG : G wR W) (t : Nat) (ht : t ≤ 100000000000) => skyAt_any m cnt F FC S (px : Nat) (py : Nat) (t : Nat) W (hB4.keep hG) h18 (hWR.keep hG) (by unfold i64b; omega) (by unfold i64b; omega) (by unfold i64b; omega))
  have HOut := Lib.hid (fun (a : Sk) (W : World) => isOutsideS_any a (skLim lw lg lh) W)
  clear hW hWR h12 h13 h14 h15 h18 HL
  have n4R := b4.lt
  have n4w : w.heap.size ≤ w.heap.size + 1 + 1 + 1 := by omega
  have gwR := g0.size
  obtain ⟨n4, hn4⟩ : ∃ n4, n4 = w.heap.size + 1 + 1 + 1 := ⟨_, rfl⟩
  rw [← hn4] at b4 n4R n4w ⊢
  clear hn4
  refine rangeFunc_three (F := Fence.wide) (α := Hr) (gf := 101) (lb := #[.pointer (some ⟨nK + 1 + 1, 0, none⟩), .pointer (some ⟨nK + 1, 0, none⟩)]) rfl (by omega) rfl trivial (enters_of Try.func101 (by kernel_rfl) rfl)
    (ev := fun x => .int .i64 (x.1 : Nat)) (B1 := nK + 1 + 1) (B2 := nK + 1) (B3 := F) hseq bM.lt bF.lt hB4.lt (Below.refl _ _)
    (fun pre W => G wR W ∧ (pre.map (·.1)).all p = true) (fun c pre W => c = .ret ∧ G w W ∧ Blk W n4 4 #[.bool false] ∧ (pre.map (·.1)).all p = false) ?hI ?hIx ?h0 8 ?assign ?body ?done ?stop
  case hI =>
    rintro pre X Y row ⟨h, hq⟩ hg hrow
    exact ⟨((G.fr (R := fun _ => False) h).grown hg (fun g e => .inr (hrow g e).1)).toG (fun _ _ h => h), hq⟩
  case hIx =>
    rintro c pre X Y row ⟨hc, h, hb, hq⟩ hg hrow
    exact ⟨hc, ((G.fr (R := fun _ => False) h).grown hg (fun g e => .inr (by have := (hrow g e).1; omega))).toG (fun _ _ h => h), hb.grown hg (fun e => by have := (hrow n4 e.symm).1; omega), hq⟩
  case h0 => exact ⟨G.rf _, rfl⟩
  case assign =>
    intro l x W K hK
    gi_wp2
    exact hK
  case body =>
    rintro l pre x W hl hrec ⟨hG, hq⟩ hN
    obtain ⟨t, ht⟩ := x
    have hSk : ∀ W', G W W' → (Blk W' w.heap.size 96 #[.pointer (some ⟨F, 0, none⟩)] ∧ Blk W' (w.heap.size + 1) 27 #[.int .i64 (px : Nat), .int .i64 (py : Nat)] ∧ Blk W' nK 102 (skLim lw lg lh).v) := fun W' h => ⟨b96.keep (hG.t h), b27.keep (hG.t h), bK.keep (hG.t h)⟩
    have HS := Lib.hid (fun (W' : World) (h : G W W') => HSky.out W' (hG.t h) t ht)
    clear HSky hseq
    obtain ⟨sk, hsk⟩ : ∃ sk, sk = (S (px : Nat) (py : Nat) (t : Nat)).getD skAny := ⟨_, rfl⟩
    have hpt : p t = skOut sk (skLim lw lg lh) := by rw [HP0.out, hsk]
    rw [← hsk] at HS
    have HSK := Lib.hid hsk
    obtain ⟨b, hb⟩ : ∃ b, b = skOut sk (skLim lw lg lh) := ⟨_, rfl⟩
    rw [← hb] at hpt
    have HO := Lib.hid (fun W' : World => HOut.out sk W')
    rw [← hb] at HO
    have HPT := Lib.hid hpt
    clear hsk hb hpt HOut
    gi_wp2
    refine wpIn_region_Y (l := some l) (S := fun W' => Blk W' w.heap.size 96 #[.pointer (some ⟨F, 0, none⟩)] ∧ Blk W' (w.heap.size + 1) 27 #[.int .i64 (px : Nat), .int .i64 (py : Nat)] ∧ Blk W' nK 102 (skLim lw lg lh).v) 7 8 rfl (by kernel_rfl) (fun ⟨_, _, h⟩ => h) (by kernel_rfl) (hSk _ (G.rf _).d) (fun hS => ?_)
    refine wpAnyY_take (i := 0) (v := ?_) rfl (by kernel_rfl) (by kernel_rfl) (by kernel_rfl) (by kernel_rfl) (fun _ _ _ h => h) (Or.inl ⟨by kernel_rfl, ?_⟩) hS ?_
    rotate_left
    · intro w' hSw; have e0 := hSw.1.cell 0; go_simp; with_reducible rfl
    try simp only [Act.put, List.getElem_toArray, List.getElem_cons_zero, List.getElem_cons_succ, List.setIfInBounds_toArray, List.set_cons_zero, List.set_cons_succ]
    refine wpAnyY_take (i := 1) (v := ?_) rfl (by kernel_rfl) (by kernel_rfl) (by kernel_rfl) (by kernel_rfl) (fun _ _ _ h => h) (Or.inl ⟨by kernel_rfl, ?_⟩) hS ?_
    rotate_left
    · intro w' hSw; have e0 := hSw.2.1.cell 0; have e1 := hSw.2.1.cell 1; go_simp; with_reducible rfl
    try simp only [Act.put, List.getElem_toArray, List.getElem_cons_zero, List.getElem_cons_succ, List.setIfInBounds_toArray, List.set_cons_zero, List.set_cons_succ]
    refine wpAnyY_take (i := 2) (v := ?_) rfl (by kernel_rfl) (by kernel_rfl) (by kernel_rfl) (by kernel_rfl) (fun _ _ _ h => h) (Or.inl ⟨by kernel_rfl, ?_⟩) hS ?_
    rotate_left
    · intro w' hSw; go_simp; with_reducible rfl
    try simp only [Act.put, List.getElem_toArray, List.getElem_cons_zero, List.getElem_cons_succ, List.setIfInBounds_toArray, List.set_cons_zero, List.set_cons_succ]
    refine wpAnyY_take (i := 3) (v := ?_) rfl (by kernel_rfl) (by kernel_rfl) (by kernel_rfl) (by kernel_rfl) (fun _ _ _ h => h) (Or.inl ⟨by kernel_rfl, ?_⟩) hS ?_
    rotate_left
    · intro w' hSw; go_simp; with_reducible rfl
    try simp only [Act.put, List.getElem_toArray, List.getElem_cons_zero, List.getElem_cons_succ, List.setIfInBounds_toArray, List.set_cons_zero, List.set_cons_succ]
    refine wpAnyY_take (i := 5) (v := .agg (skLim lw lg lh).v) rfl (by kernel_rfl) (by kernel_rfl) (by kernel_rfl) (by kernel_rfl) (fun _ _ _ h => h) (Or.inl ⟨by kernel_rfl, ?_⟩) hS ?_
    · intro w' hSw; exact load102 w' nK 7 _ _ rfl (by kernel_rfl) hSw.2.2
    try simp only [Act.put, List.getElem_toArray, List.getElem_cons_zero, List.getElem_cons_succ, List.setIfInBounds_toArray, List.set_cons_zero, List.set_cons_succ]
    have gd := (G.rf W).d
    refine wpAnyY_oneSW (i := 4) (by kernel_rfl) rfl (by kernel_rfl) (fun K4 hK4 => ?_)
    go_simp
    refine (HS.out _ gd).mono ?_
    rintro e w5 ⟨rfl, hG5⟩
    replace gd := gd.t hG5
    refine hK4.out _ _ (hSk _ gd) (fun hS => ?_)
    try simp only [Act.put, List.getElem_toArray, List.getElem_cons_zero, List.getElem_cons_succ, List.setIfInBounds_toArray, List.set_cons_zero, List.set_cons_succ]
    refine wpAnyY_oneSW (i := 6) (by kernel_rfl) rfl (by kernel_rfl) (fun K6 hK6 => ?_)
    go_simp
    refine (HO.out _).mono ?_
    rintro e w6 ⟨rfl, hG6⟩
    replace gd := gd.t hG6
    refine hK6.out _ _ (hSk _ gd) (fun hS => ?_)
    try simp only [Act.put, List.getElem_toArray, List.getElem_cons_zero, List.getElem_cons_succ, List.setIfInBounds_toArray, List.set_cons_zero, List.set_cons_succ]
    refine wpAnyY_oneW (i := 7) (by kernel_rfl) rfl (by kernel_rfl) (by kernel_rfl) (fun K7 hK7 => ?_)
    go_simp
    refine hK7.out _ _ ?_
    try simp only [Act.put, List.getElem_toArray, List.getElem_cons_zero, List.getElem_cons_succ, List.setIfInBounds_toArray, List.set_cons_zero, List.set_cons_succ]
    refine wpAnyY_done (by kernel_rfl) ?_ _
    clear hS hSk hK4 hK6 hK7 HS HO hG5 hG6
    have hKf : KeepsFrom wR.heap.size W w6 := (G.fr (R := fun _ => False) gd).keeps (fun i h => h.elim) _
    have hGz := hG.t gd
    cases b
    · have hb4 := b4.keep hGz
      have f0 := hb4.cell 0
      have z0 := hb4.frozen 0
      have l0 := hb4.lt
      gi_wp2
      refine ⟨((G.fr (R := fun i => i = n4) gd).s (p := ⟨n4, 0, none⟩) (.inl rfl) _).keeps (fun i h _ => ⟨_, _, _, by subst h; exact b4.keep hG⟩) _, rfl, (g0.t hGz).s (p := ⟨n4, 0, none⟩) n4w _, hb4.set_ 0 (.bool false), ?_⟩
      rw [List.map_append, List.all_append]
      simp [HPT.out]
    · gi_wp2
      refine ⟨hKf, ⟨gd.block _ (Nat.lt_of_lt_of_le bM.lt hG.size), gd.block _ (Nat.lt_of_lt_of_le bF.lt hG.size), gd.block _ (Nat.lt_of_lt_of_le hB4.lt hG.size)⟩, hGz, ?_⟩
      rw [List.map_append, List.all_append, hq]
      simp [HPT.out]
  case done =>
    rintro D xs W hD hxs ⟨hG, hq⟩ hDef
    have hb4 := b4.keep hG
    have f0 := hb4.cell 0
    have z0 := hb4.frozen 0
    have l0 := hb4.lt
    have hall : (hrsL lo hi H).all p = true := by rw [← hxs]; exact hq
    have HALL := Lib.hid hall
    clear hall hseq HSky HOut
    gi_wp2
    have hDn : D ≠ n4 := by omega
    have hX : ((W.setCell ⟨n4, 0, none⟩ (.bool true))).heap[D]? = some (.deferred (some [])) := (Below.heap_setCell W ⟨n4, 0, none⟩ (.bool true) D hDn).trans hDef
    have hGX : G w (W.setCell ⟨n4, 0, none⟩ (.bool true)) := (g0.t hG).s (p := ⟨n4, 0, none⟩) n4w _
    have hBX : Blk (W.setCell ⟨n4, 0, none⟩ (.bool true)) n4 4 #[.bool true] := hb4.set_ 0 (.bool true)
    generalize (W.setCell ⟨n4, 0, none⟩ (.bool true)) = X at *
    refine ⟨by simp, .inl ⟨_, _, rfl, run_takeDeferred hX, ?_⟩⟩
    have hbp : Blk (X.putObj D (.deferred none)) n4 4 #[.bool true] := (World.putObj_heap_other (Ne.symm hDn)).trans hBX
    refine ⟨_, resBool _ _ n4 true rfl (hbp.cell 0), by rw [HALL.out], ?_⟩
    have hf : Fr (fun i => i = D) X (X.putObj D (.deferred none)) := ⟨rfl, rfl, rfl, by simp [World.putObj], fun i _ hn => World.putObj_heap_other hn⟩
    refine ((G.fr (R := fun _ => False) hGX).t2 hf (fun i hi h => ?_)).toG (fun _ _ h => h)
    omega
  case stop =>
    rintro D c pre W hD hpre ⟨rfl, hG, hb, hq⟩ hDef
    have hall : (hrsL lo hi H).all p = false := by
      obtain ⟨r, hr⟩ := hpre
      rw [← hr, List.all_append, hq]
      rfl
    have HALL := Lib.hid hall
    clear hall hseq HSky HOut
    gi_wp2
    have hDn : D ≠ n4 := by omega
    have hX : W.heap[D]? = some (.deferred (some [])) := hDef
    have hGX : G w W := hG
    have hBX : Blk W n4 4 #[.bool false] := hb
    refine ⟨by simp, .inl ⟨_, _, rfl, run_takeDeferred hX, ?_⟩⟩
    have hbp : Blk (W.putObj D (.deferred none)) n4 4 #[.bool false] := (World.putObj_heap_other (Ne.symm hDn)).trans hBX
    refine ⟨_, resBool _ _ n4 false rfl (hbp.cell 0), by rw [HALL.out], ?_⟩
    have hf : Fr (fun i => i = D) W (W.putObj D (.deferred none)) := ⟨rfl, rfl, rfl, by simp [World.putObj], fun i _ hn => World.putObj_heap_other hn⟩
    refine ((G.fr (R := fun _ => False) hGX).t2 hf (fun i hi h => ?_)).toG (fun _ _ h => h)
    omega
end
end Go.Proofs.Ytcekdljjmfkacaa
