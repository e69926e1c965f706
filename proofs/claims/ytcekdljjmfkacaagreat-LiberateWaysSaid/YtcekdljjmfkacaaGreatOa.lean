import Derived.Test.YtcekdljjmfkacaaGreatNm
import Derived.Test.YtcekdljjmfkacaaGreatMd
set_option linter.unusedSimpArgs false
set_option linter.unusedVariables false
namespace Go.Proofs.YtcekdljjmfkacaaGreat
open Go.RowKit Go.Shelf
attribute [local go_sem] Oper.semAt_some wide_fn wide_dep wideR_fn wideR_dep
theorem WMap.keepB {W W' : World} {m n : Nat} {S : Int → Int → Int → Option Sk} (h : WMap W m n S) (hk : W'.heap[m]? = W.heap[m]?) : WMap W' m n S := by
  obtain ⟨D, h1, h2⟩ := h
  refine ⟨D, ?_, h2⟩
  obtain ⟨es, clock, hb, F, hs, e⟩ := h1
  exact ⟨es, clock, hk.trans hb, F, hs, e⟩
section
variable {w : World} {ops : Array Oper} {rest : List Oper} {o : Oper} {a : Act} {Q : Exit → Act → World → Prop}
theorem wpList_load35 (g t : Nat) {REL : Array Value} (hR : IsRel REL) (hgd : o.guard = none) (ho : o.op = .load 35 (.tmp t)) (hv : a.eval (.tmp t) = .pointer (some ⟨g, 0, none⟩)) (hB : Blk w g 35 REL)
    (h : wpList Tryz.prog ops Q rest (a.put o.dst (.agg REL)) w) : wpList Tryz.prog ops Q (o :: rest) a w := by
  refine wpList_plain hgd fun K hK => ?_
  unfold Oper.wp
  rw [load46o w g t hR o a.eval ho hv hB]
  exact hK _ _ h
end
/-- what question leaves: an error, or a forecast -/
def QPost (w : World) (RL : List Value) (f : Nat → Nat → Int) (k cols el hours n : Nat) (NS : Nat → Nat) (L : Nat → List Value) (e : Ending) (w' : World) : Prop :=
  (¬ GoodTo f k cols el hours el 0 0 ∧ e = .returned (.tuple #[.pointer none, .int .i64 3]) ∧ G w w') ∨
  (GoodTo f k cols el hours el 0 0 ∧ ∃ F m cnt v wl B, e = .returned (.tuple #[.pointer (some ⟨F, 0, none⟩), .int .i64 0]) ∧ G w w' ∧ Blk w' F 104 (RL ++ [v, .map (some m)]).toArray ∧ WMap w' m cnt (SD f k cols el hours el 0 0) ∧ w'.ownsRow B 81 1 v n wl ∧ ∀ j, j < n → ∃ b, w'.ownsRow b 84 4 (wl.getD j undef) (NS j) (L j))
theorem cells1 {W : World} {g : Nat} {t : TypeId} {a : Value} (h : Blk W g t #[a]) : ∀ j u, [a][j]? = some u → W.cell? ((⟨g, 0, none⟩ : Addr).add j) = some u := by
  intro j u hj
  rw [add0, h.cell j]
  simpa using hj
theorem getD_appL {l : List Value} {x d : Value} {j : Nat} (h : j < l.length) : (l ++ [x]).getD j d = l.getD j d := by
  simp [List.getD, List.getElem?_append_left h]
theorem getD_appR {l : List Value} {x d : Value} {j : Nat} (h : l.length = j) : (l ++ [x]).getD j d = x := by
  subst h
  simp [List.getD]
theorem own_keep2 {X Y : World} {b1 B N q : Nat} {s v : Value} {xs wl : List Value} (h : X.ownsRow b1 84 4 s N xs) (hN : 1 ≤ N) (ho : X.ownsRow B 81 1 v q wl) (hg : X.grownBy Y v.ownBlock) : Y.ownsRow b1 84 4 s N xs := by
  refine h.kept hg (.inr ?_)
  obtain ⟨g, cap, cur, rfl, hb, hl, _⟩ := own_some h hN
  rcases own_own h ho (by decide) with h1 | h1
  · simp [Value.ownBlock] at h1
  · exact h1
theorem own_set2 {X : World} {b N z F : Nat} {e : TypeId} {v : Value} {xs : List Value} {FC : Array Value} (h : X.ownsRow b e z v N xs) (hB : Blk X F 104 FC) (he : 104 ≠ e) (u : Value) (i : Nat) : (X.setCell ⟨F, i, none⟩ u).ownsRow b e z v N xs :=
  h.kept (grownBy_set _ _ _) (.inr (own_ne h hB he).symm)
theorem info85 : (Tryz.prog.info? 81).map (fun i => (i.zero, i.size, i.bytes)) = some (some (.slice none 0 0), 1, 24) := by kernel_rfl
section
variable (a0 a3 a5 a6 a7 a9 a10 a12 a13 a14 a16 : Int) (cols hours el ec sn sc n hc k fc : Nat) (ea sa ha fa : Option Addr) (f : Nat → Nat → Int) (hx hy NS : Nat → Nat) (L : Nat → List Value) (w : World)
set_option maxRecDepth 100000 in
set_option maxHeartbeats 8000000 in
theorem question_walk (hQ : ∀ W, G w W → Calls Tryz.prog 38 #[.agg #[.int .i64 a0, .int .i64 (cols : Nat), .slice ea el ec, .int .i64 a3, .slice sa sn sc, .int .i64 a5, .int .i64 a6, .int .i64 a7, .slice ha n hc, .int .i64 a9, .int .i64 a10, .slice fa k fc, .int .i64 a12, .int .i64 a13, .int .i64 a14, .int .i64 (hours : Nat), .int .i64 a16], .bool true] W fun e w' => e = .returned (.int .i64 0) ∧ G W w')
    (hST : ∀ i, i < n → ∀ W, G w W → Calls Tryz.prog 44 #[.agg #[.int .i64 a0, .int .i64 (cols : Nat), .slice ea el ec, .int .i64 a3, .slice sa sn sc, .int .i64 a5, .int .i64 a6, .int .i64 a7, .slice ha n hc, .int .i64 a9, .int .i64 a10, .slice fa k fc, .int .i64 a12, .int .i64 a13, .int .i64 a14, .int .i64 (hours : Nat), .int .i64 a16], .agg #[.int .i64 (hx i : Nat), .int .i64 (hy i : Nat)]] W fun e w' => ∃ v, e = .returned v ∧ w'.ownsRow W.heap.size 84 4 v (NS i) (L i) ∧ G W w')
    (hH : RowAt w ha n 2 (fun i r => if r = 0 then (hx i : Nat) else (hy i : Nat))) (hR : RowAt w fa k 12 f) (hk12 : k ≤ 12) (hc10 : cols ≤ 10) (he10 : el ≤ 10) (hh12 : hours ≤ 12) (hn6 : n ≤ 6) (hNS : ∀ i, i < n → 1 ≤ NS i) :
    Calls Tryz.prog 48 #[.agg #[.int .i64 a0, .int .i64 (cols : Nat), .slice ea el ec, .int .i64 a3, .slice sa sn sc, .int .i64 a5, .int .i64 a6, .int .i64 a7, .slice ha n hc, .int .i64 a9, .int .i64 a10, .slice fa k fc, .int .i64 a12, .int .i64 a13, .int .i64 a14, .int .i64 (hours : Nat), .int .i64 a16], .bool true] w (QPost w [.int .i64 a0, .int .i64 (cols : Nat), .slice ea el ec, .int .i64 a3, .slice sa sn sc, .int .i64 a5, .int .i64 a6, .int .i64 a7, .slice ha n hc, .int .i64 a9, .int .i64 a10, .slice fa k fc, .int .i64 a12, .int .i64 a13, .int .i64 a14, .int .i64 (hours : Nat), .int .i64 a16] f k cols el hours n NS L) := by
  have HQ := Lib.hid hQ
  have HST := Lib.hid hST
  have HNS := Lib.hid hNS
  have hIs : Hid (IsRel #[.int .i64 a0, .int .i64 (cols : Nat), .slice ea el ec, .int .i64 a3, .slice sa sn sc, .int .i64 a5, .int .i64 a6, .int .i64 a7, .slice ha n hc, .int .i64 a9, .int .i64 a10, .slice fa k fc, .int .i64 a12, .int .i64 a13, .int .i64 a14, .int .i64 (hours : Nat), .int .i64 a16]) := ⟨_, _, _, _, _, _, _, _, _, _, _, _, _, _, _, _, _, _, _, _, _, _, _, _, _, rfl⟩
  have HTW := Lib.hid (fun (F m : Nat) (FC : Array Value) (w0 w1 : World) (hg : G w w0) h1 h2 h3 h4 h5 h6 h7 h8 h9 h10 => tellWeather_any f k cols el hours fc ec F m ea fa FC w0 w1 h1 h2 h3 h4 h5 h6 (hR.below hg) hk12 h7 h8 h9 h10 hc10 he10 hh12)
  have HNo : Hid (∀ w', ¬ GoodTo f k cols el hours el 0 0 → G w w' → QPost w [.int .i64 a0, .int .i64 (cols : Nat), .slice ea el ec, .int .i64 a3, .slice sa sn sc, .int .i64 a5, .int .i64 a6, .int .i64 a7, .slice ha n hc, .int .i64 a9, .int .i64 a10, .slice fa k fc, .int .i64 a12, .int .i64 a13, .int .i64 a14, .int .i64 (hours : Nat), .int .i64 a16] f k cols el hours n NS L (.returned (.tuple #[.pointer none, .int .i64 3])) w') := fun w' a b => .inl ⟨a, rfl, b⟩
  have HYes : Hid (∀ w', GoodTo f k cols el hours el 0 0 → ∀ F m cnt v wl B, G w w' → Blk w' F 104 (([.int .i64 a0, .int .i64 (cols : Nat), .slice ea el ec, .int .i64 a3, .slice sa sn sc, .int .i64 a5, .int .i64 a6, .int .i64 a7, .slice ha n hc, .int .i64 a9, .int .i64 a10, .slice fa k fc, .int .i64 a12, .int .i64 a13, .int .i64 a14, .int .i64 (hours : Nat), .int .i64 a16] : List Value) ++ [v, .map (some m)]).toArray → WMap w' m cnt (SD f k cols el hours el 0 0) → w'.ownsRow B 81 1 v n wl → (∀ j, j < n → ∃ b, w'.ownsRow b 84 4 (wl.getD j undef) (NS j) (L j)) → QPost w [.int .i64 a0, .int .i64 (cols : Nat), .slice ea el ec, .int .i64 a3, .slice sa sn sc, .int .i64 a5, .int .i64 a6, .int .i64 a7, .slice ha n hc, .int .i64 a9, .int .i64 a10, .slice fa k fc, .int .i64 a12, .int .i64 a13, .int .i64 a14, .int .i64 (hours : Nat), .int .i64 a16] f k cols el hours n NS L (.returned (.tuple #[.pointer (some ⟨F, 0, none⟩), .int .i64 0])) w') := fun w' a F m cnt v wl B b c d e g => .inr ⟨a, F, m, cnt, v, wl, B, rfl, b, c, d, e, g⟩
  generalize QPost w [.int .i64 a0, .int .i64 (cols : Nat), .slice ea el ec, .int .i64 a3, .slice sa sn sc, .int .i64 a5, .int .i64 a6, .int .i64 a7, .slice ha n hc, .int .i64 a9, .int .i64 a10, .slice fa k fc, .int .i64 a12, .int .i64 a13, .int .i64 a14, .int .i64 (hours : Nat), .int .i64 a16] f k cols el hours n NS L = PP at *
  have HH := Lib.hid hH
  have HRR := Lib.hid hR
  clear hQ hST hR hH hNS
  have g1 : G w (w.alloc (.cells #[.int .i64 a0, .int .i64 (cols : Nat), .slice ea el ec, .int .i64 a3, .slice sa sn sc, .int .i64 a5, .int .i64 a6, .int .i64 a7, .slice ha n hc, .int .i64 a9, .int .i64 a10, .slice fa k fc, .int .i64 a12, .int .i64 a13, .int .i64 a14, .int .i64 (hours : Nat), .int .i64 a16] 35)) := (G.rf _).a _
  have b2 : Blk (w.alloc (.cells #[.int .i64 a0, .int .i64 (cols : Nat), .slice ea el ec, .int .i64 a3, .slice sa sn sc, .int .i64 a5, .int .i64 a6, .int .i64 a7, .slice ha n hc, .int .i64 a9, .int .i64 a10, .slice fa k fc, .int .i64 a12, .int .i64 a13, .int .i64 a14, .int .i64 (hours : Nat), .int .i64 a16] 35)) w.heap.size 35 #[.int .i64 a0, .int .i64 (cols : Nat), .slice ea el ec, .int .i64 a3, .slice sa sn sc, .int .i64 a5, .int .i64 a6, .int .i64 a7, .slice ha n hc, .int .i64 a9, .int .i64 a10, .slice fa k fc, .int .i64 a12, .int .i64 a13, .int .i64 a14, .int .i64 (hours : Nat), .int .i64 a16] := Blk.new w 35 _
  go_enter Tryz.func48, Tryz.ntmps48
  go_upto_region 1 with fail
  change Code.wp _ _ _ _ (w.alloc (.cells #[.int .i64 a0, .int .i64 (cols : Nat), .slice ea el ec, .int .i64 a3, .slice sa sn sc, .int .i64 a5, .int .i64 a6, .int .i64 a7, .slice ha n hc, .int .i64 a9, .int .i64 a10, .slice fa k fc, .int .i64 a12, .int .i64 a13, .int .i64 a14, .int .i64 (hours : Nat), .int .i64 a16] 35))
  generalize w.alloc (.cells #[.int .i64 a0, .int .i64 (cols : Nat), .slice ea el ec, .int .i64 a3, .slice sa sn sc, .int .i64 a5, .int .i64 a6, .int .i64 a7, .slice ha n hc, .int .i64 a9, .int .i64 a10, .slice fa k fc, .int .i64 a12, .int .i64 a13, .int .i64 a14, .int .i64 (hours : Nat), .int .i64 a16] 35) = w1 at *
  refine wp_region_lit ?_
  refine wpList_load35 w.heap.size 2 hIs.out rfl rfl rfl b2 ?_
  try simp only [Act.put, List.getElem_toArray, List.getElem_cons_zero, List.getElem_cons_succ, List.setIfInBounds_toArray, List.set_cons_zero, List.set_cons_succ]
  go_upto_region 4 with (go_at_call 38; refine (HQ.out _ g1).mono ?_; rintro e w2 ⟨rfl, hG2⟩; replace b2 := b2.keep hG2; replace g1 := g1.t hG2)
  refine wp_region_lit ?_
  refine wpList_load35 w.heap.size 2 hIs.out rfl rfl rfl b2 ?_
  try simp only [Act.put, List.getElem_toArray, List.getElem_cons_zero, List.getElem_cons_succ, List.setIfInBounds_toArray, List.set_cons_zero, List.set_cons_succ]
  have hmm := @run_makeMap Tryz.prog
  go_upto_region 5 with fail
  have g23 : G w2 ((w2.alloc (.map #[] 0)).alloc (.cells #[.int .i64 a0, .int .i64 (cols : Nat), .slice ea el ec, .int .i64 a3, .slice sa sn sc, .int .i64 a5, .int .i64 a6, .int .i64 a7, .slice ha n hc, .int .i64 a9, .int .i64 a10, .slice fa k fc, .int .i64 a12, .int .i64 a13, .int .i64 a14, .int .i64 (hours : Nat), .int .i64 a16, .slice none 0 0, .map (some w2.heap.size)] 104)) := ((G.rf _).a _).a _
  have bF : Blk ((w2.alloc (.map #[] 0)).alloc (.cells #[.int .i64 a0, .int .i64 (cols : Nat), .slice ea el ec, .int .i64 a3, .slice sa sn sc, .int .i64 a5, .int .i64 a6, .int .i64 a7, .slice ha n hc, .int .i64 a9, .int .i64 a10, .slice fa k fc, .int .i64 a12, .int .i64 a13, .int .i64 a14, .int .i64 (hours : Nat), .int .i64 a16, .slice none 0 0, .map (some w2.heap.size)] 104)) (w2.heap.size + 1) 104 #[.int .i64 a0, .int .i64 (cols : Nat), .slice ea el ec, .int .i64 a3, .slice sa sn sc, .int .i64 a5, .int .i64 a6, .int .i64 a7, .slice ha n hc, .int .i64 a9, .int .i64 a10, .slice fa k fc, .int .i64 a12, .int .i64 a13, .int .i64 a14, .int .i64 (hours : Nat), .int .i64 a16, .slice none 0 0, .map (some w2.heap.size)] := Blk.new1 w2 _ 104 _
  have hW3 : WMap ((w2.alloc (.map #[] 0)).alloc (.cells #[.int .i64 a0, .int .i64 (cols : Nat), .slice ea el ec, .int .i64 a3, .slice sa sn sc, .int .i64 a5, .int .i64 a6, .int .i64 a7, .slice ha n hc, .int .i64 a9, .int .i64 a10, .slice fa k fc, .int .i64 a12, .int .i64 a13, .int .i64 a14, .int .i64 (hours : Nat), .int .i64 a16, .slice none 0 0, .map (some w2.heap.size)] 104)) w2.heap.size 0 (fun _ _ _ => none) := (WMap.made w2).keep ((G.rf _).a _)
  change Code.wp _ _ _ _ ((w2.alloc (.map #[] 0)).alloc (.cells #[.int .i64 a0, .int .i64 (cols : Nat), .slice ea el ec, .int .i64 a3, .slice sa sn sc, .int .i64 a5, .int .i64 a6, .int .i64 a7, .slice ha n hc, .int .i64 a9, .int .i64 a10, .slice fa k fc, .int .i64 a12, .int .i64 a13, .int .i64 a14, .int .i64 (hours : Nat), .int .i64 a16, .slice none 0 0, .map (some w2.heap.size)] 104))
  generalize (w2.alloc (.map #[] 0)).alloc (.cells #[.int .i64 a0, .int .i64 (cols : Nat), .slice ea el ec, .int .i64 a3, .slice sa sn sc, .int .i64 a5, .int .i64 a6, .int .i64 a7, .slice ha n hc, .int .i64 a9, .int .i64 a10, .slice fa k fc, .int .i64 a12, .int .i64 a13, .int .i64 a14, .int .i64 (hours : Nat), .int .i64 a16, .slice none 0 0, .map (some w2.heap.size)] 104) = w3 at *
  have HT := Lib.hid (HTW.out (w2.heap.size + 1) w2.heap.size _ w2 w3 g1 bF rfl rfl rfl rfl rfl g23 (by omega) (Nat.le_refl _) hW3)
  obtain ⟨m, hm⟩ : ∃ m, m = w2.heap.size := ⟨_, rfl⟩
  obtain ⟨F, hF⟩ : ∃ F, F = w2.heap.size + 1 := ⟨_, rfl⟩
  rw [← hF] at HT ⊢
  rw [← hm] at HT ⊢
  have hFm : F ≠ m := by omega
  have hFw : w.heap.size < F := by have := b2.lt; omega
  have hFw2 : w2.heap.size ≤ F := by omega
  clear hm hF HTW hW3 bF hmm
  refine wp_region_lit ?_
  refine wpList_plain rfl fun K hK => ?_
  go_simp
  refine hK _ _ ?_
  clear hK
  try simp only [Act.put, List.getElem_toArray, List.getElem_cons_zero, List.getElem_cons_succ, List.setIfInBounds_toArray, List.set_cons_zero, List.set_cons_succ]
  refine wpList_plain rfl fun K hK => ?_
  go_simp
  refine (HT.out).mono ?_
  rintro e w4 (⟨rfl, hgood, hG4, bF, cnt, hW4⟩ | ⟨rfl, hbad, hG4⟩)
  · refine hK _ _ ?_
    clear hK HT HNo
    try simp only [Act.put, List.getElem_toArray, List.getElem_cons_zero, List.getElem_cons_succ, List.setIfInBounds_toArray, List.set_cons_zero, List.set_cons_succ]
    replace b2 := b2.keep hG4
    have g4 := g1.t hG4
    have f8 := bF.cell 8
    have lF := bF.lt
    obtain ⟨i0, hi0, hz0, hz1, hz2⟩ := info_parts info85
    go_wp2_with fail
    clear f8 lF
    go_loopw [8, 28] (fun u i wr => ∃ (q : Nat) (v : Value) (wl : List Value), q ≤ n ∧ i = .int .i64 q ∧ Blk wr F 104 #[.int .i64 a0, .int .i64 (cols : Nat), .slice ea el ec, .int .i64 a3, .slice sa sn sc, .int .i64 a5, .int .i64 a6, .int .i64 a7, .slice ha n hc, .int .i64 a9, .int .i64 a10, .slice fa k fc, .int .i64 a12, .int .i64 a13, .int .i64 a14, .int .i64 (hours : Nat), .int .i64 a16, v, .map (some m)] ∧ wr.ownsRow w4.heap.size 81 1 v q wl ∧ Hid (∀ j, j < q → ∃ b, wr.ownsRow b 84 4 (wl.getD j undef) (NS j) (L j)) ∧ Fr (fun i => i = F) w4 wr) (fun _ i _ => n - (intOf i).toNat)
    case atStart => exact ⟨0, .slice none 0 0, [], Nat.zero_le _, rfl, bF, World.ownsRow_nil _ _ _ _, fun j hj => absurd hj (Nat.not_lt_zero _), Fr.rf _ _⟩
    case round =>
      obtain ⟨q, v, wl, hq, rfl, bF, ho, hws, hfr⟩ := hrel
      obtain ⟨wo, rfl⟩ : ∃ wo, wo = wr := ⟨_, rfl⟩
      have HWS := hws
      have HO := Lib.hid ho
      clear ho hws
      have b2q : Blk wo w.heap.size 35 #[.int .i64 a0, .int .i64 (cols : Nat), .slice ea el ec, .int .i64 a3, .slice sa sn sc, .int .i64 a5, .int .i64 a6, .int .i64 a7, .slice ha n hc, .int .i64 a9, .int .i64 a10, .slice fa k fc, .int .i64 a12, .int .i64 a13, .int .i64 a14, .int .i64 (hours : Nat), .int .i64 a16] := hfr.blk b2 (by omega)
      have gq : G w wo := ((G.fr (R := fun _ => False) g4).t2 hfr (fun i hi h => by omega)).toG (fun _ _ h => h)
      have gB : w4.heap.size ≤ wo.heap.size := hfr.size
      by_cases hlt : q < n
      · have hqi : (q : Int) < n := by omega
        rcases HH.out with h | ⟨gH, oH, rfl, hgH, hcell⟩
        · omega
        have lgH := Nat.lt_of_lt_of_le hgH gq.size
        have p0 := hcell q hlt 0 (by omega)
        have p1 := hcell q hlt 1 (by omega)
        simp only [if_true, Nat.add_zero, Nat.succ_ne_zero, if_false, Nat.one_ne_zero] at p0 p1
        have q0 := ((bcellB gq).1 gH _ hgH).trans p0
        have q1 := ((bcellB gq).1 gH _ hgH).trans p1
        clear hcell
        have HSTq := Lib.hid (HST.out q hlt)
        have hns := HNS.out q hlt
        obtain ⟨px, hpx⟩ : ∃ px, px = hx q := ⟨_, rfl⟩
        obtain ⟨py, hpy⟩ : ∃ py, py = hy q := ⟨_, rfl⟩
        rw [← hpx] at q0 p0 HSTq
        rw [← hpy] at q1 p1 HSTq
        clear hpx hpy
        have f17 := bF.cell 17
        have hSk : ∀ W', G wo W' → ((Blk W' F 104 #[.int .i64 a0, .int .i64 (cols : Nat), .slice ea el ec, .int .i64 a3, .slice sa sn sc, .int .i64 a5, .int .i64 a6, .int .i64 a7, .slice (some ⟨gH, oH, none⟩) n hc, .int .i64 a9, .int .i64 a10, .slice fa k fc, .int .i64 a12, .int .i64 a13, .int .i64 a14, .int .i64 (hours : Nat), .int .i64 a16, v, .map (some m)] ∧ Blk W' w.heap.size 35 #[.int .i64 a0, .int .i64 (cols : Nat), .slice ea el ec, .int .i64 a3, .slice sa sn sc, .int .i64 a5, .int .i64 a6, .int .i64 a7, .slice (some ⟨gH, oH, none⟩) n hc, .int .i64 a9, .int .i64 a10, .slice fa k fc, .int .i64 a12, .int .i64 a13, .int .i64 a14, .int .i64 (hours : Nat), .int .i64 a16]) ∧ W'.cell? ⟨gH, oH + q * 2, none⟩ = some (.int .i64 (px : Nat)) ∧ W'.cell? ⟨gH, oH + q * 2 + 1, none⟩ = some (.int .i64 (py : Nat))) := fun W' h => ⟨⟨bF.keep h, b2q.keep h⟩, ((bcellB h).1 gH _ lgH).trans q0, ((bcellB h).1 gH _ lgH).trans q1⟩
        clear f17
        go_wp2_with fail
        refine wp_region_Y (S := fun W' => (Blk W' F 104 #[.int .i64 a0, .int .i64 (cols : Nat), .slice ea el ec, .int .i64 a3, .slice sa sn sc, .int .i64 a5, .int .i64 a6, .int .i64 a7, .slice (some ⟨gH, oH, none⟩) n hc, .int .i64 a9, .int .i64 a10, .slice fa k fc, .int .i64 a12, .int .i64 a13, .int .i64 a14, .int .i64 (hours : Nat), .int .i64 a16, v, .map (some m)] ∧ Blk W' w.heap.size 35 #[.int .i64 a0, .int .i64 (cols : Nat), .slice ea el ec, .int .i64 a3, .slice sa sn sc, .int .i64 a5, .int .i64 a6, .int .i64 a7, .slice (some ⟨gH, oH, none⟩) n hc, .int .i64 a9, .int .i64 a10, .slice fa k fc, .int .i64 a12, .int .i64 a13, .int .i64 a14, .int .i64 (hours : Nat), .int .i64 a16]) ∧ W'.cell? ⟨gH, oH + q * 2, none⟩ = some (.int .i64 (px : Nat)) ∧ W'.cell? ⟨gH, oH + q * 2 + 1, none⟩ = some (.int .i64 (py : Nat))) 19 20 rfl (by kernel_rfl) (hSk _ (G.rf _).d) (fun hS => ?_)
        refine wpAnyY_take (i := 0) (v := ?_) rfl (by kernel_rfl) (by kernel_rfl) (by kernel_rfl) (by kernel_rfl) (fun _ _ _ h => h) (Or.inl ⟨by kernel_rfl, ?_⟩) hS ?_
        rotate_left
        · intro w' hSw; go_simp; with_reducible rfl
        try simp only [Act.put, List.getElem_toArray, List.getElem_cons_zero, List.getElem_cons_succ, List.setIfInBounds_toArray, List.set_cons_zero, List.set_cons_succ]
        refine wpAnyY_take (i := 1) (v := ?_) rfl (by kernel_rfl) (by kernel_rfl) (by kernel_rfl) (by kernel_rfl) (fun _ _ _ h => h) (Or.inl ⟨by kernel_rfl, ?_⟩) hS ?_
        rotate_left
        · intro w' hSw; go_simp; with_reducible rfl
        try simp only [Act.put, List.getElem_toArray, List.getElem_cons_zero, List.getElem_cons_succ, List.setIfInBounds_toArray, List.set_cons_zero, List.set_cons_succ]
        refine wpAnyY_take (i := 2) (v := ?_) rfl (by kernel_rfl) (by kernel_rfl) (by kernel_rfl) (by kernel_rfl) (fun _ _ _ h => h) (Or.inl ⟨by kernel_rfl, ?_⟩) hS ?_
        rotate_left
        · intro w' hSw; have lF := hSw.1.1.lt; go_simp; with_reducible rfl
        try simp only [Act.put, List.getElem_toArray, List.getElem_cons_zero, List.getElem_cons_succ, List.setIfInBounds_toArray, List.set_cons_zero, List.set_cons_succ]
        refine wpAnyY_take (i := 3) (v := ?_) rfl (by kernel_rfl) (by kernel_rfl) (by kernel_rfl) (by kernel_rfl) (fun _ _ _ h => h) (Or.inl ⟨by kernel_rfl, ?_⟩) hS ?_
        rotate_left
        · intro w' hSw; have lF := hSw.1.1.lt; go_simp; with_reducible rfl
        try simp only [Act.put, List.getElem_toArray, List.getElem_cons_zero, List.getElem_cons_succ, List.setIfInBounds_toArray, List.set_cons_zero, List.set_cons_succ]
        refine wpAnyY_take (i := 4) (v := ?_) rfl (by kernel_rfl) (by kernel_rfl) (by kernel_rfl) (by kernel_rfl) (fun _ _ _ h => h) (Or.inl ⟨by kernel_rfl, ?_⟩) hS ?_
        rotate_left
        · intro w' hSw; have e := hSw.1.1.cell 17; have lF := hSw.1.1.lt; go_simp; with_reducible rfl
        try simp only [Act.put, List.getElem_toArray, List.getElem_cons_zero, List.getElem_cons_succ, List.setIfInBounds_toArray, List.set_cons_zero, List.set_cons_succ]
        refine wpAnyY_take (i := 5) (v := .agg #[.int .i64 a0, .int .i64 (cols : Nat), .slice ea el ec, .int .i64 a3, .slice sa sn sc, .int .i64 a5, .int .i64 a6, .int .i64 a7, .slice (some ⟨gH, oH, none⟩) n hc, .int .i64 a9, .int .i64 a10, .slice fa k fc, .int .i64 a12, .int .i64 a13, .int .i64 a14, .int .i64 (hours : Nat), .int .i64 a16]) rfl (by kernel_rfl) (by kernel_rfl) (by kernel_rfl) (by kernel_rfl) (fun _ _ _ h => h) (Or.inl ⟨by kernel_rfl, ?_⟩) hS ?_
        · intro w' hSw; exact load46o w' w.heap.size 2 hIs.out _ _ rfl (by kernel_rfl) hSw.1.2
        try simp only [Act.put, List.getElem_toArray, List.getElem_cons_zero, List.getElem_cons_succ, List.setIfInBounds_toArray, List.set_cons_zero, List.set_cons_succ]
        refine wpAnyY_take (i := 6) (v := ?_) rfl (by kernel_rfl) (by kernel_rfl) (by kernel_rfl) (by kernel_rfl) (fun _ _ _ h => h) (Or.inl ⟨by kernel_rfl, ?_⟩) hS ?_
        rotate_left
        · intro w' hSw; go_simp; with_reducible rfl
        try simp only [Act.put, List.getElem_toArray, List.getElem_cons_zero, List.getElem_cons_succ, List.setIfInBounds_toArray, List.set_cons_zero, List.set_cons_succ]
        refine wpAnyY_take (i := 7) (v := ?_) rfl (by kernel_rfl) (by kernel_rfl) (by kernel_rfl) (by kernel_rfl) (fun _ _ _ h => h) (Or.inl ⟨by kernel_rfl, ?_⟩) hS ?_
        rotate_left
        · intro w' hSw; have lF := hSw.1.1.lt; go_simp; with_reducible rfl
        try simp only [Act.put, List.getElem_toArray, List.getElem_cons_zero, List.getElem_cons_succ, List.setIfInBounds_toArray, List.set_cons_zero, List.set_cons_succ]
        refine wpAnyY_take (i := 8) (v := ?_) rfl (by kernel_rfl) (by kernel_rfl) (by kernel_rfl) (by kernel_rfl) (fun _ _ _ h => h) (Or.inl ⟨by kernel_rfl, ?_⟩) hS ?_
        rotate_left
        · intro w' hSw; go_simp; with_reducible rfl
        try simp only [Act.put, List.getElem_toArray, List.getElem_cons_zero, List.getElem_cons_succ, List.setIfInBounds_toArray, List.set_cons_zero, List.set_cons_succ]
        refine wpAnyY_take (i := 9) (v := ?_) rfl (by kernel_rfl) (by kernel_rfl) (by kernel_rfl) (by kernel_rfl) (fun _ _ _ h => h) (Or.inl ⟨by kernel_rfl, ?_⟩) hS ?_
        rotate_left
        · intro w' hSw; go_simp; with_reducible rfl
        try simp only [Act.put, List.getElem_toArray, List.getElem_cons_zero, List.getElem_cons_succ, List.setIfInBounds_toArray, List.set_cons_zero, List.set_cons_succ]
        refine wpAnyY_take (i := 10) (v := ?_) rfl (by kernel_rfl) (by kernel_rfl) (by kernel_rfl) (by kernel_rfl) (fun _ _ _ h => h) (Or.inl ⟨by kernel_rfl, ?_⟩) hS ?_
        rotate_left
        · intro w' hSw; have e := hSw.1.1.cell 8; have lF := hSw.1.1.lt; go_simp; with_reducible rfl
        try simp only [Act.put, List.getElem_toArray, List.getElem_cons_zero, List.getElem_cons_succ, List.setIfInBounds_toArray, List.set_cons_zero, List.set_cons_succ]
        refine wpAnyY_take (i := 11) (v := ?_) rfl (by kernel_rfl) (by kernel_rfl) (by kernel_rfl) (by kernel_rfl) (fun _ _ _ h => h) (Or.inl ⟨by kernel_rfl, ?_⟩) hS ?_
        rotate_left
        · intro w' hSw; go_simp; with_reducible rfl
        try simp only [Act.put, List.getElem_toArray, List.getElem_cons_zero, List.getElem_cons_succ, List.setIfInBounds_toArray, List.set_cons_zero, List.set_cons_succ]
        refine wpAnyY_take (i := 12) (v := ?_) rfl (by kernel_rfl) (by kernel_rfl) (by kernel_rfl) (by kernel_rfl) (fun _ _ _ h => h) (Or.inl ⟨by kernel_rfl, ?_⟩) hS ?_
        rotate_left
        · intro w' hSw; go_simp; with_reducible rfl
        try simp only [Act.put, List.getElem_toArray, List.getElem_cons_zero, List.getElem_cons_succ, List.setIfInBounds_toArray, List.set_cons_zero, List.set_cons_succ]
        refine wpAnyY_take (i := 13) (v := ?_) rfl (by kernel_rfl) (by kernel_rfl) (by kernel_rfl) (by kernel_rfl) (fun _ _ _ h => h) (Or.inl ⟨by kernel_rfl, ?_⟩) hS ?_
        rotate_left
        · intro w' hSw; have e0 := hSw.2.1; have e1 := hSw.2.2; go_simp; with_reducible rfl
        try simp only [Act.put, List.getElem_toArray, List.getElem_cons_zero, List.getElem_cons_succ, List.setIfInBounds_toArray, List.set_cons_zero, List.set_cons_succ]
        have P0 := Lib.hid p0
        have P1 := Lib.hid p1
        clear p0 p1 q0 q1
        have gd := (G.rf wo).d
        refine wpAnyY_oneSW (i := 14) (by kernel_rfl) rfl (by kernel_rfl) (fun K14 hK14 => ?_)
        go_simp
        refine (HSTq.out _ (gq.t gd)).mono ?_
        rintro e w5 ⟨vs, rfl, howns, hG5⟩
        have g5 := gd.t hG5
        obtain ⟨gs, caps, curs, rfl, hbs, hls, hts⟩ := own_some howns hns
        clear hbs hls hts
        have HOS := Lib.hid howns
        clear howns
        refine hK14.out _ _ (hSk _ g5) (fun hS => ?_)
        try simp only [Act.put, List.getElem_toArray, List.getElem_cons_zero, List.getElem_cons_succ, List.setIfInBounds_toArray, List.set_cons_zero, List.set_cons_succ]
        refine wpAnyY_oneSW (i := 15) (by kernel_rfl) rfl (by kernel_rfl) (fun K15 hK15 => ?_)
        go_simp
        refine hK15.out _ _ (hSk _ (g5.a _)) (fun hS => ?_)
        try simp only [Act.put, List.getElem_toArray, List.getElem_cons_zero, List.getElem_cons_succ, List.setIfInBounds_toArray, List.set_cons_zero, List.set_cons_succ]
        have g6 : G wo (w5.alloc (.cells #[.slice (some ⟨gs, 0, none⟩) (NS q) caps] 81)) := g5.a _
        have hO6 := own_G HO.out g6
        have hOS6 := own_G HOS.out ((G.rf w5).a (.cells #[.slice (some ⟨gs, 0, none⟩) (NS q) caps] 81))
        have bF6 := bF.keep g6
        have b26 := b2q.keep g6
        refine wpAnyY_oneSW (i := 16) (by kernel_rfl) rfl (by kernel_rfl) (fun K16 hK16 => ?_)
        refine wp_append_own _ _ _ 101 rfl w4.heap.size 81 i0 _ 1 24 Tryz.underlying101 hi0 hz0 hz1 hz2 rfl (by decide) _ q wl rfl hO6 ⟨w5.heap.size, 0, none⟩ 1 1 [.slice (some ⟨gs, 0, none⟩) (NS q) caps] rfl rfl (cells1 (Blk.new _ _ _)) (by simp [Value.oneCell']) (by unfold maxLen; omega) (by omega) (Nat.le_trans gB g6.size) ?_
        intro v9 w9 hown9 hg9 _
        have fr9 : Fr (fun i => i = F) w4 w9 := (hfr.g g6).grown hg9 (fun g e => .inr (own_base hO6 e))
        have gw9 : G w w9 := ((G.fr (R := fun _ => False) g4).t2 fr9 (fun i hi h => by omega)).toG (fun _ _ h => h)
        have bF9 := bF6.grown hg9 (own_ne hO6 bF6 (by decide))
        have b29 := b26.grown hg9 (own_ne hO6 b26 (by decide))
        have hOS9 := own_keep2 hOS6 hns hO6 hg9
        have hws9 : ∀ j, j < q → ∃ b, w9.ownsRow b 84 4 (wl.getD j undef) (NS j) (L j) := fun j hj => by
          obtain ⟨b, hb⟩ := HWS.out j hj
          exact ⟨b, own_keep2 (own_G hb g6) (HNS.out j (by omega)) hO6 hg9⟩
        obtain ⟨g9, cap9, cur9, rfl, hb9, hl9, ht9⟩ := own_some hown9 (by omega)
        clear hb9 hl9 ht9
        have hwl : wl.length = q := by simpa using hO6.1
        have HO9 := Lib.hid hown9
        have S9 : (Blk w9 F 104 #[.int .i64 a0, .int .i64 (cols : Nat), .slice ea el ec, .int .i64 a3, .slice sa sn sc, .int .i64 a5, .int .i64 a6, .int .i64 a7, .slice (some ⟨gH, oH, none⟩) n hc, .int .i64 a9, .int .i64 a10, .slice fa k fc, .int .i64 a12, .int .i64 a13, .int .i64 a14, .int .i64 (hours : Nat), .int .i64 a16, v, .map (some m)] ∧ Blk w9 w.heap.size 35 #[.int .i64 a0, .int .i64 (cols : Nat), .slice ea el ec, .int .i64 a3, .slice sa sn sc, .int .i64 a5, .int .i64 a6, .int .i64 a7, .slice (some ⟨gH, oH, none⟩) n hc, .int .i64 a9, .int .i64 a10, .slice fa k fc, .int .i64 a12, .int .i64 a13, .int .i64 a14, .int .i64 (hours : Nat), .int .i64 a16]) ∧ w9.cell? ⟨gH, oH + q * 2, none⟩ = some (.int .i64 (px : Nat)) ∧ w9.cell? ⟨gH, oH + q * 2 + 1, none⟩ = some (.int .i64 (py : Nat)) := ⟨⟨bF9, b29⟩, ((bcellB gw9).1 gH _ hgH).trans P0.out, ((bcellB gw9).1 gH _ hgH).trans P1.out⟩
        clear hown9 hg9 hO6 hOS6 bF6 b26 HO HOS hSk
        refine hK16.out _ _ S9 (fun hS => ?_)
        try simp only [Act.put, List.getElem_toArray, List.getElem_cons_zero, List.getElem_cons_succ, List.setIfInBounds_toArray, List.set_cons_zero, List.set_cons_succ]
        have lF9 := bF9.lt
        refine wpAnyY_oneSW (i := 17) (by kernel_rfl) rfl (by kernel_rfl) (fun K17 hK17 => ?_)
        go_simp
        refine hK17.out _ _ S9 (fun hS => ?_)
        try simp only [Act.put, List.getElem_toArray, List.getElem_cons_zero, List.getElem_cons_succ, List.setIfInBounds_toArray, List.set_cons_zero, List.set_cons_succ]
        refine wpAnyY_oneSW (i := 18) (by kernel_rfl) rfl (by kernel_rfl) (fun K18 hK18 => ?_)
        go_simp
        refine hK18.out _ _ S9 (fun hS => ?_)
        try simp only [Act.put, List.getElem_toArray, List.getElem_cons_zero, List.getElem_cons_succ, List.setIfInBounds_toArray, List.set_cons_zero, List.set_cons_succ]
        have c17 := bF9.cell 17
        have z17 := bF9.frozen 17
        refine wpAnyY_oneW (i := 19) (by kernel_rfl) rfl (by kernel_rfl) (by kernel_rfl) (fun K19 hK19 => ?_)
        go_simp
        refine hK19.out _ _ ?_
        try simp only [Act.put, List.getElem_toArray, List.getElem_cons_zero, List.getElem_cons_succ, List.setIfInBounds_toArray, List.set_cons_zero, List.set_cons_succ]
        refine wpAnyY_done (by kernel_rfl) ?_ _
        clear hS S9 hK14 hK15 hK16 hK17 hK18 hK19 c17 z17 lF9
        have bFz := bF9.set_ 17 (.slice (some ⟨g9, 0, none⟩) (q + 1) cap9)
        have frz := fr9.s (p := ⟨F, 17, none⟩) (.inl rfl) (.slice (some ⟨g9, 0, none⟩) (q + 1) cap9)
        have hoz := own_set2 HO9.out bF9 (by decide) (.slice (some ⟨g9, 0, none⟩) (q + 1) cap9) 17
        have hwz : Hid (∀ j, j < q + 1 → ∃ b, (w9.setCell ⟨F, 17, none⟩ (.slice (some ⟨g9, 0, none⟩) (q + 1) cap9)).ownsRow b 84 4 ((wl ++ [Value.slice (some ⟨gs, 0, none⟩) (NS q) caps]).getD j undef) (NS j) (L j)) := fun j hj => by
          rcases Nat.lt_or_ge j q with h | h
          · obtain ⟨b, hb⟩ := hws9 j h
            refine ⟨b, ?_⟩
            rw [getD_appL (by omega)]
            exact own_set2 hb bF9 (by decide) (.slice (some ⟨g9, 0, none⟩) (q + 1) cap9) 17
          · obtain rfl : j = q := by omega
            rw [getD_appR hwl]
            exact ⟨_, own_set2 hOS9 bF9 (by decide) _ 17⟩
        have HOZ := Lib.hid hoz
        clear hoz hws9 HO9 hOS9
        go_wp2_with fail
        go_roundw
        case rel => exact ⟨q + 1, .slice (some ⟨g9, 0, none⟩) (q + 1) cap9, wl ++ [.slice (some ⟨gs, 0, none⟩) (NS q) caps], by omega, by go_num, bFz, HOZ.out, hwz, frz⟩
        case measure => simp [intOf]; omega
      · obtain rfl : n = q := by omega
        have HF := Lib.hid (HYes.out wo hgood F m cnt v wl w4.heap.size gq bF (hW4.keepB (hfr.block m hW4.lt (Ne.symm hFm))) HO.out HWS.out)
        go_wp2_with fail
        exact HF.out
  · refine hK _ _ ?_
    clear hK HT HYes
    try simp only [Act.put, List.getElem_toArray, List.getElem_cons_zero, List.getElem_cons_succ, List.setIfInBounds_toArray, List.set_cons_zero, List.set_cons_succ]
    have g4 := g1.t hG4
    have HE := Lib.hid (HNo.out _ hbad g4)
    clear hbad HNo
    go_wp2_with fail
    exact HE.out
end
end Go.Proofs.YtcekdljjmfkacaaGreat
