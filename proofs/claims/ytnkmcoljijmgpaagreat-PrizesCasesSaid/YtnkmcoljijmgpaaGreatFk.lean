import Derived.Test.YtnkmcoljijmgpaaGreatFg
import Derived.Test.YtnkmcoljijmgpaaGreatCb
set_option linter.unusedSimpArgs false
set_option linter.unusedVariables false
namespace Go.Proofs.YtnkmcoljijmgpaaGreat
open Go.RowKit Go.Shelf Go.Sort Go.Maps
attribute [local go_sem] Oper.semAt_some
theorem racer_at {l : List Rc} {b : Int} (h : hasB l b = true) : ∃ q : Nat, q < l.length ∧ (l.getD q default).bird = b ∧ idxR l b = q := by
  rcases first_or (p := fun j => (l.getD j default).bird = b) l.length with h1 | ⟨k, h1, h2, h3⟩
  · obtain ⟨x, hx, e⟩ := hasB_mem.1 h
    obtain ⟨j, hj, rfl⟩ := List.mem_iff_getElem.1 hx
    refine absurd ?_ (h1 j hj)
    rw [List.getD_eq_getElem?_getD, List.getElem?_eq_getElem hj]
    exact e
  · exact ⟨k, h1, h2, idxR_some h1 h2 h3⟩
theorem inL_snoc (S : List Int) (b y : Int) : inL (S ++ [b]) y = (inL S y || (y == b)) := by
  rw [Bool.eq_iff_iff, inL_iff, Bool.or_eq_true, inL_iff, List.mem_append, List.mem_singleton]
  simp
theorem out_set {l : List Rc} (hu : Uniq l) {q : Nat} (hq : q < l.length) {S : List Int} {b : Int} (hb : (l.getD q default).bird = b) : (l.map (outS S)).set q (outS (S ++ [b]) (l.getD q default)) = l.map (outS (S ++ [b])) := by
  have hg : l.getD q default = l[q] := by simp [List.getD_eq_getElem?_getD, hq]
  rw [hg] at hb ⊢
  apply List.ext_getElem?
  intro j
  rw [List.getElem?_set, List.length_map, List.getElem?_map, List.getElem?_map]
  by_cases e : q = j
  · subst e
    rw [if_pos rfl, if_pos hq, List.getElem?_eq_getElem hq]
    rfl
  · rw [if_neg e]
    by_cases hj : j < l.length
    · rw [List.getElem?_eq_getElem hj]
      have hne : l[j].bird ≠ b := by
        have h4 := List.pairwise_iff_getElem.1 hu
        rcases Nat.lt_trichotomy q j with h | h | h
        · exact fun e2 => h4 q j hq hj h (by rw [hb, e2])
        · exact absurd h e
        · exact fun e2 => h4 j q hj hq h (by rw [hb, e2])
      show some (outS S l[j]) = some (outS (S ++ [b]) l[j])
      have e3 : inL (S ++ [b]) l[j].bird = inL S l[j].bird := by
        rw [inL_snoc]
        have : (l[j].bird == b) = false := by simpa using hne
        rw [this, Bool.or_false]
      unfold outS
      rw [e3]
    · rw [List.getElem?_eq_none (by omega)]
      rfl
theorem out_in {S : List Int} {x : Rc} (h : inL S x.bird = true) : outS S x = ⟨x.bird, x.owner, 0, 0, x.pa, x.pc, x.pools⟩ := by
  unfold outS
  rw [h]
  rfl
theorem case_row {W : World} {B c g q : Nat} {a : Option Addr} {l : List Rc} {S : List Int} {b : Int} (h : W.ownsRow B 60 5 (.slice a l.length c) l.length (rcV (l.map (outS S)))) (ha : a = some ⟨g, 0, none⟩) (hu : Uniq l) (hq : q < l.length) (hb : (l.getD q default).bird = b) :
    ((W.setCell ⟨g, q * 5 + 2, none⟩ (.int .i64 0)).setCell ⟨g, q * 5 + 3, none⟩ (.int .i64 0)).ownsRow B 60 5 (.slice a l.length c) l.length (rcV (l.map (outS (S ++ [b])))) := by
  have hm : (l.map (outS S)).length = l.length := List.length_map ..
  rw [← hm] at h
  have hq' : q < (l.map (outS S)).length := by omega
  obtain ⟨z, hz⟩ : ∃ z, z = (l.map (outS S)).getD q default := ⟨_, rfl⟩
  have hz2 : z = outS S (l.getD q default) := by
    rw [hz, List.getD_eq_getElem?_getD, List.getElem?_map, List.getElem?_eq_getElem hq, List.getD_eq_getElem?_getD, List.getElem?_eq_getElem hq]
    rfl
  have r1 := row_put1 (y := ⟨z.bird, z.owner, 0, z.day, z.pa, z.pc, z.pools⟩) (j := 2) (v := .int .i64 0) h ha hq' (by decide) (by rw [← hz]; rfl)
  obtain ⟨y1, hy1⟩ : ∃ y1 : Rc, y1 = ⟨z.bird, z.owner, 0, z.day, z.pa, z.pc, z.pools⟩ := ⟨_, rfl⟩
  rw [← hy1] at r1
  have e : ((l.map (outS S)).set q y1).length = (l.map (outS S)).length := List.length_set ..
  rw [← e] at r1
  have hq2 : q < ((l.map (outS S)).set q y1).length := by omega
  have eg : ((l.map (outS S)).set q y1).getD q default = y1 := by rw [getD_setR hq', if_pos rfl]
  have hin : inL (S ++ [b]) (l.getD q default).bird = true := by rw [inL_snoc, hb]; simp
  have r2 := row_put1 (y := outS (S ++ [b]) (l.getD q default)) (j := 3) (v := .int .i64 0) r1 ha hq2 (by decide) (by
    rw [eg, hy1, out_in hin, hz2]
    unfold outS
    split <;> rfl)
  rw [List.set_set, out_set hu hq hb, e, hm] at r2
  exact r2
/-- the copy with some birds struck and no protests, as it lies -/
theorem case_at {W4 W5 : World} {B1 : Nat} {r o : Ra} {S : List Int} (hAT : r.At W5) {m : Nat} (hF : Fr (fun i => o.ra = some ⟨i, 0, none⟩ ∨ i = m) W4 W5) (hm : m < B1) (hrr4 : W4.ownsRow B1 60 5 (.slice o.ra o.racers.length o.rc) o.racers.length (rcV o.racers))
    (hrr : W5.ownsRow B1 60 5 (.slice o.ra o.racers.length o.rc) o.racers.length (rcV (o.racers.map (outS S))))
    (hrp : ∀ y ∈ o.racers, W4.ownsRow B1 3 1 (.slice y.pa y.pools.length y.pc) y.pools.length (iv y.pools))
    (hpr : W4.ownsRow B1 42 6 (.slice o.pa o.pools.length o.pc) o.pools.length (cv Po.v o.pools)) (hpt : ∀ y ∈ o.pools, W4.ownsRow B1 3 1 (.slice y.ta y.table.length y.tc) y.table.length (iv y.table))
    (her : o.racers.map rcP = r.racers.map rcP) (hep : o.pools.map poP = r.pools.map poP) :
    (⟨o.ra, o.rc, o.racers.map (outS S), o.pa, o.pc, o.pools, none, 0, []⟩ : Ra).At W5 := by
  have hlo : o.racers.length = r.racers.length := by
    have e := congrArg List.length her
    simpa using e
  have hne : ∀ {T z n : Nat} {v : Value} {xs : List Value}, W4.ownsRow B1 T z v n xs → T ≠ 60 → ∀ g', v.ownBlock = some g' → ¬ (o.ra = some ⟨g', 0, none⟩ ∨ g' = m) := fun {T z n v xs} hv hT g' hg e => by
    rcases e with e | e
    rotate_left
    · have := own_base hv hg
      omega
    rcases own_own hv hrr4 hT with h | h
    · rw [hg] at h
      cases h
    · exact h (hg.trans (by rw [e]; rfl))
  have hrr' : W5.ownsRow B1 60 5 (.slice o.ra (o.racers.map (outS S)).length o.rc) (o.racers.map (outS S)).length (rcV (o.racers.map (outS S))) := by rw [List.length_map]; exact hrr
  refine cp_at3 (o := o) (B2 := 0) hAT hrr' (fun y hy => ?_) (by rw [List.length_map, hlo]) (own_Fr hpr hF (hne hpr (by decide))) (fun y hy => own_Fr (hpt y hy) hF (hne (hpt y hy) (by decide))) (World.ownsRow_nil _ _ _ _) hep (by simp)
  obtain ⟨x, hx, rfl⟩ := List.mem_map.1 hy
  have e1 : (outS S x).pa = x.pa := by unfold outS; split <;> rfl
  have e2 : (outS S x).pools = x.pools := by unfold outS; split <;> rfl
  rw [e1, e2]
  have h1 := own_Fr (hrp x hx) hF (hne (hrp x hx) (by decide))
  obtain ⟨a', c', e, hI⟩ := own_ints h1
  injection e with e3 _ _
  refine ⟨by rw [e3]; exact hI, ?_⟩
  obtain ⟨z, hz, e4⟩ := mem_P her hx
  obtain ⟨i, hi, rfl⟩ := List.mem_iff_getElem.1 hz
  have h5 := hAT.nq i hi
  rw [List.getD_eq_getElem?_getD, List.getElem?_eq_getElem hi] at h5
  have e5 : (r.racers[i]).pools = x.pools := congrArg (fun q => q.2.2.2.2) e4
  rw [← e5]
  exact h5
def CasePost (r : Ra) (n : Nat) (w : World) (e : Ending) (w' : World) : Prop := G w w' ∧ ∃ o : Ra, e = .returned (.agg #[.slice o.ra o.racers.length o.rc, .slice o.pa o.pools.length o.pc, .slice none 0 0]) ∧ o.racers.map rcP = r.racers.map rcP ∧ o.pools.map poP = r.pools.map poP ∧ o.protests = r.protests ∧ (⟨o.ra, o.rc, o.racers.map (outS (stOf r.protests n)), o.pa, o.pc, o.pools, none, 0, []⟩ : Ra).At w'
theorem res30 (tmps : Array Value) (w : World) (g : Nat) (a0 a1 a2 : Option Addr) (k0 k1 k2 c0' c1' c2' : Nat) (h : tmps.getD 4 undef = .pointer (some ⟨g, 0, none⟩)) (hB : Blk w g 26 #[.slice a0 k0 c0', .slice a1 k1 c1', .slice a2 k2 c2']) :
    (results Tryz.f30 tmps).run Tryz.prog w = .ok (.agg #[.slice a0 k0 c0', .slice a1 k1 c1', .slice a2 k2 c2']) w := by
  have c0 := hB.cell 0
  have c1 := hB.cell 1
  have c2 := hB.cell 2
  clear hB
  have hr : Tryz.f30.results = #[.cell 4 26] := rfl
  have h' : tmps[4]?.getD undef = .pointer (some ⟨g, 0, none⟩) := by simpa using h
  simp only [results, hr]
  go_simp
set_option maxRecDepth 100000 in
set_option maxHeartbeats 8000000 in
theorem Case_any (r : Ra) (n : Nat) (w : World) (h : r.At w) (hn : r.Nil) (hr : raceB r = true) : Calls Tryz.prog 30 #[.agg r.v, .int .i64 (n : Nat)] w (CasePost r n w) := by
  have HP : Hid (∀ (o : Ra) w', G w w' → o.racers.map rcP = r.racers.map rcP → o.pools.map poP = r.pools.map poP → o.protests = r.protests → (⟨o.ra, o.rc, o.racers.map (outS (stOf r.protests n)), o.pa, o.pc, o.pools, none, 0, []⟩ : Ra).At w' → CasePost r n w (.returned (.agg #[.slice o.ra o.racers.length o.rc, .slice o.pa o.pools.length o.pc, .slice none 0 0])) w') := fun o w' a b c d e => ⟨a, o, rfl, b, c, d, e⟩
  generalize CasePost r n w = PP at *
  have hrv : r.v = #[.slice r.ra r.racers.length r.rc, .slice r.pa r.pools.length r.pc, .slice r.ta r.protests.length r.tc] := rfl
  have HAT := Lib.hid h
  have HCP := Lib.hid (fun (W : World) (hW : G w W) => (show Calls Tryz.prog 24 #[.agg r.v] W (fun e w' => G W w' ∧ ∃ o : Ra, e = .returned (.agg #[.slice o.ra o.racers.length o.rc, .slice o.pa o.pools.length o.pc, .slice o.ta o.protests.length o.tc]) ∧ CpIs w' W.heap.size r o) from Copy_any r W (h.keep hW) hn))
  have HRI := Lib.hid (fun (W : World) (hW : G w W) (b : Int) => racer_idx r.racers r.ra r.rc (.slice r.pa r.pools.length r.pc) (.slice r.ta r.protests.length r.tc) b W ((h.keep hW).rs.row) h.nr)
  rw [hrv] at HCP ⊢
  have hnp := race_np hr
  have h12 := (uniq_of (race_parts hr)).1
  have HRB := Lib.hid hr
  clear h hn hr hrv
  have g0 : G w ((w.alloc (.cells #[.slice r.ra r.racers.length r.rc, .slice r.pa r.pools.length r.pc, .slice r.ta r.protests.length r.tc] 26)).alloc (.cells #[.slice none 0 0, .slice none 0 0, .slice none 0 0] 26)) := ((G.rf _).a _).a _
  have b0 : Blk ((w.alloc (.cells #[.slice r.ra r.racers.length r.rc, .slice r.pa r.pools.length r.pc, .slice r.ta r.protests.length r.tc] 26)).alloc (.cells #[.slice none 0 0, .slice none 0 0, .slice none 0 0] 26)) w.heap.size 26 #[.slice r.ra r.racers.length r.rc, .slice r.pa r.pools.length r.pc, .slice r.ta r.protests.length r.tc] := (Blk.new _ _ _).alloc _
  have b1 : Blk ((w.alloc (.cells #[.slice r.ra r.racers.length r.rc, .slice r.pa r.pools.length r.pc, .slice r.ta r.protests.length r.tc] 26)).alloc (.cells #[.slice none 0 0, .slice none 0 0, .slice none 0 0] 26)) (w.heap.size + 1) 26 #[.slice none 0 0, .slice none 0 0, .slice none 0 0] := Blk.new1 _ _ _ _
  go_enter Tryz.func30, Tryz.ntmps30
  have m0 := b0.cell 0
  have m1 := b0.cell 1
  have m2 := b0.cell 2
  have l0 := b0.lt
  go_upto_region 2 with (go_at_call 24; refine (HCP.out _ g0).mono ?_; rintro e w3 ⟨hG3, o, rfl, hCP⟩)
  clear m0 m1 m2 l0
  have hlo : o.racers.length = r.racers.length := by
    have e := congrArg List.length hCP.er
    simpa using e
  have g3 := g0.t hG3
  have b03 := (b0.keep hG3).alloc (.cells #[.slice o.ra o.racers.length o.rc, .slice o.pa o.pools.length o.pc, .slice o.ta o.protests.length o.tc] 26)
  have b13 := (b1.keep hG3).alloc (.cells #[.slice o.ra o.racers.length o.rc, .slice o.pa o.pools.length o.pc, .slice o.ta o.protests.length o.tc] 26)
  have bK : Blk (w3.alloc (.cells #[.slice o.ra o.racers.length o.rc, .slice o.pa o.pools.length o.pc, .slice o.ta o.protests.length o.tc] 26)) w3.heap.size 26 #[.slice o.ra o.racers.length o.rc, .slice o.pa o.pools.length o.pc, .slice o.ta o.protests.length o.tc] := Blk.new _ _ _
  have g4 := g3.a (.cells #[.slice o.ra o.racers.length o.rc, .slice o.pa o.pools.length o.pc, .slice o.ta o.protests.length o.tc] 26)
  have ga3 : G w3 (w3.alloc (.cells #[.slice o.ra o.racers.length o.rc, .slice o.pa o.pools.length o.pc, .slice o.ta o.protests.length o.tc] 26)) := (G.rf _).a _
  have hKl : w.heap.size + 1 < w3.heap.size := (b1.keep hG3).lt
  obtain ⟨B, hB⟩ : ∃ B, B = ((w.alloc (.cells #[.slice r.ra r.racers.length r.rc, .slice r.pa r.pools.length r.pc, .slice r.ta r.protests.length r.tc] 26)).alloc (.cells #[.slice none 0 0, .slice none 0 0, .slice none 0 0] 26)).heap.size := ⟨_, rfl⟩
  have hB1 : w.heap.size + 1 < B := by rw [hB]; exact b1.lt
  rw [← hB] at hCP
  clear hB
  have HCR := Lib.hid (own_G hCP.rr ga3)
  have HRP := Lib.hid (fun y hy => own_G (hCP.rp y hy) ga3)
  have HPR := Lib.hid (own_G hCP.pr ga3)
  have HPT := Lib.hid (fun y hy => own_G (hCP.pt y hy) ga3)
  have HER := Lib.hid hCP.er
  have HEP := Lib.hid hCP.ep
  have HET := Lib.hid hCP.et
  clear hCP hG3 b0 b1 g0 g3 ga3 HCP
  obtain ⟨K, hK⟩ : ∃ K, K = w3.heap.size := ⟨_, rfl⟩
  change Code.wp _ _ _ _ (w3.alloc (.cells #[.slice o.ra o.racers.length o.rc, .slice o.pa o.pools.length o.pc, .slice o.ta o.protests.length o.tc] 26))
  rw [← hK] at bK hKl ⊢
  clear hK
  generalize w3.alloc (.cells #[.slice o.ra o.racers.length o.rc, .slice o.pa o.pools.length o.pc, .slice o.ta o.protests.length o.tc] 26) = W4 at *
  have n2 := bK.cell 2
  have z2 := bK.frozen 2
  have ln := bK.lt
  have HLO := Lib.hid hlo
  clear hlo
  go_upto_region 3 with fail
  clear n2 z2 ln
  have hst : ∀ T z v n' xs, (26 : Nat) ≠ T → W4.ownsRow B T z v n' xs → (W4.setCell ⟨K, 2, none⟩ (.slice none 0 0)).ownsRow B T z v n' xs := fun T z v n' xs hT hv => hv.kept (grownBy_set _ _ _) (.inr (own_ne hv bK hT).symm)
  have g5 := g4.s (p := ⟨K, 2, none⟩) (show w.heap.size ≤ K by omega) (.slice none 0 0)
  have bK5 := bK.set_ 2 (.slice none 0 0)
  simp only [List.setIfInBounds_toArray, List.set_cons_zero, List.set_cons_succ] at bK5
  have hF5 : Fr (fun i => i = K) W4 (W4.setCell ⟨K, 2, none⟩ (.slice none 0 0)) := (Fr.rf (fun i => i = K) W4).s (p := ⟨K, 2, none⟩) (.inl rfl) _
  have b05 := hF5.blk b03 (fun e => by omega)
  have b15 := hF5.blk b13 (fun e => by omega)
  have HCR5 := Lib.hid (hst _ _ _ _ _ (by decide) HCR.out)
  have HRP5 := Lib.hid (fun y hy => hst _ _ _ _ _ (by decide) (HRP.out y hy))
  have HPR5 := Lib.hid (hst _ _ _ _ _ (by decide) HPR.out)
  have HPT5 := Lib.hid (fun y hy => hst _ _ _ _ _ (by decide) (HPT.out y hy))
  generalize W4.setCell ⟨K, 2, none⟩ (.slice none 0 0) = W5 at *
  have HB0 := Lib.hid b05
  have HB1 := Lib.hid b15
  have HBK := Lib.hid bK5
  have hge : ∀ i, o.ra = some ⟨i, 0, none⟩ → B ≤ i := fun i hi => own_base HCR5.out (by rw [hi]; rfl)
  have hneK : ∀ i, o.ra = some ⟨i, 0, none⟩ → i ≠ K := fun i hi e => own_ne HCR5.out HBK.out (by decide) (by rw [hi, e]; rfl)
  have HGE := Lib.hid hge
  have HNK := Lib.hid hneK
  obtain ⟨ps, hps⟩ : ∃ ps, ps = r.protests := ⟨_, rfl⟩
  have hand := i64_and1
  clear hst bK bK5 b03 b13 b05 b15 hF5 HCR HRP HPR HPT g4 hge hneK
  go_wp2_with fail
  go_loopw [6] (fun i wr => ∃ k : Nat, k ≤ r.protests.length ∧ i = .int .i64 k ∧ Hid (wr.ownsRow B 60 5 (.slice o.ra o.racers.length o.rc) o.racers.length (rcV (o.racers.map (outS (stTo r.protests n k))))) ∧ Hid (Fr (fun i => o.ra = some ⟨i, 0, none⟩) W5 wr)) (fun i _ => r.protests.length - (intOf i).toNat)
  case atStart => exact ⟨0, Nat.zero_le _, rfl, by
    show World.ownsRow _ _ _ _ _ _ (rcV (o.racers.map (outS [])))
    rw [show o.racers.map (outS []) = o.racers from by rw [show outS [] = id from funext outS_nil, List.map_id]]
    exact HCR5.out, Fr.rf _ _⟩
  case round =>
    obtain ⟨k, hk, rfl, HRW, HFW⟩ := hrel
    obtain ⟨wo, rfl⟩ : ∃ wo, wo = wr := ⟨_, rfl⟩
    have boK := HFW.out.blk HBK.out (fun e => HNK.out _ e rfl)
    have bo0 := HFW.out.blk HB0.out (fun e => by have := HGE.out _ e; omega)
    have gwo : G w wo := ((G.fr (R := fun _ => False) g5).t2 HFW.out (fun i hi e => by have := HGE.out _ e; omega)).toG (fun _ _ h => h)
    have m0 := bo0.cell 0
    have m1 := bo0.cell 1
    have m2 := bo0.cell 2
    have l0 := bo0.lt
    by_cases hlt : k < r.protests.length
    · have hki : (k : Int) < r.protests.length := by omega
      rcases (HAT.out.keep gwo).ts with hx | ⟨tb, to, hte, htb, htc⟩
      · rw [hx] at hlt; simp at hlt
      have q0 := htc k hlt
      rw [hte] at m2
      have m2' : wo.cell? ⟨w.heap.size, 2, none⟩ = some (.slice (some ⟨tb, to, none⟩) r.protests.length r.tc) := m2
      have hbit := bit_int n k
      have hkn : k ≤ 64 := by omega
      have hk0 : (0 : Int) ≤ k := by omega
      have hk64 : (k : Int) ≤ 64 := by omega
      have hn0 : (0 : Int) ≤ (n : Nat) := by omega
      have hst : stTo r.protests n (k + 1) = if bitB n k = true then stTo r.protests n k ++ [r.protests.getD k 0] else stTo r.protests n k := rfl
      have hhas := ((race_iff r).1 HRB.out).2.2.2.2 k hlt
      obtain ⟨z, hz⟩ : ∃ z, z = r.protests.getD k 0 := ⟨_, rfl⟩
      rw [← hz] at q0 hst hhas
      have HTE := Lib.hid hte
      clear hz htc m2 hte
      cases hb : bitB n k
      · rw [hb] at hbit hst
        have HST := Lib.hid (show stTo r.protests n (k + 1) = stTo r.protests n k by simpa using hst)
        clear hst hb hhas
        go_wp2_with fail
        go_roundw
        case rel => exact ⟨k + 1, by omega, by go_num, by rw [HST.out]; exact HRW.out, HFW.out⟩
        case measure => simp [intOf] <;> omega
      · rw [hb] at hbit hst
        have HST := Lib.hid (show stTo r.protests n (k + 1) = stTo r.protests n k ++ [z] by simpa using hst)
        clear hst hb
        obtain ⟨q, hq, hqb, hqi⟩ := racer_at hhas
        have hqo : q < o.racers.length := by have := HLO.out; omega
        have hob : (o.racers.getD q default).bird = z := by
          have e := congrArg (fun m => m[q]?) HER.out
          simp only [List.getElem?_map] at e
          rw [List.getElem?_eq_getElem hqo, List.getElem?_eq_getElem hq] at e
          simp only [Option.map_some, Option.some.injEq] at e
          have e2 : (o.racers[q]).bird = (r.racers[q]).bird := congrArg (fun q => q.1) e
          rw [List.getD_eq_getElem?_getD, List.getElem?_eq_getElem hqo]
          rw [List.getD_eq_getElem?_getD, List.getElem?_eq_getElem hq] at hqb
          exact e2.trans hqb
        have huo : Uniq o.racers := uniqP_rc HER.out.symm (uniq_of (race_parts HRB.out)).2
        have hrl : wo.ownsRow B 60 5 (.slice o.ra (o.racers.map (outS (stTo r.protests n k))).length o.rc) (o.racers.map (outS (stTo r.protests n k))).length (rcV (o.racers.map (outS (stTo r.protests n k)))) := by rw [List.length_map]; exact HRW.out
        obtain ⟨g, cur, hoa, hgB, hblk, hin, hal⟩ := row_put hrl (i := q) (by rw [List.length_map]; exact hqo)
        have hqoi : (q : Int) < o.racers.length := by omega
        have hq12 : q ≤ 12 := by omega
        have hSk : ∀ W', G wo W' → Blk W' K 26 #[.slice (some ⟨g, 0, none⟩) o.racers.length o.rc, .slice o.pa o.pools.length o.pc, .slice none 0 0] ∧ Blk W' w.heap.size 26 #[.slice r.ra r.racers.length r.rc, .slice r.pa r.pools.length r.pc, .slice r.ta r.protests.length r.tc] ∧ W'.cell? ⟨tb, to + k, none⟩ = some (.int .i64 z) ∧ tb < W'.heap.size := fun W' hW => by
          refine ⟨?_, bo0.keep hW, ((bcellB hW).1 tb _ htb).trans q0, Nat.lt_of_lt_of_le htb hW.size⟩
          have := boK.keep hW
          rw [hoa] at this
          exact this
        have HOA := Lib.hid hoa
        have HOB := Lib.hid hob
        have HUO := Lib.hid huo
        have HQI := Lib.hid hqi
        have HBL := Lib.hid hblk
        clear hal hrl hoa hob huo hqi hblk hqb hhas
        have boK2 := boK
        go_upto_region 7 with fail
        clear m0 m1 m2' l0 q0
        refine wp_region_Y (S := fun W' => Blk W' K 26 #[.slice (some ⟨g, 0, none⟩) o.racers.length o.rc, .slice o.pa o.pools.length o.pc, .slice none 0 0] ∧ Blk W' w.heap.size 26 #[.slice r.ra r.racers.length r.rc, .slice r.pa r.pools.length r.pc, .slice r.ta r.protests.length r.tc] ∧ W'.cell? ⟨tb, to + k, none⟩ = some (.int .i64 z) ∧ tb < W'.heap.size) 10 11 rfl (by kernel_rfl) (hSk _ (G.rf _).d) (fun hS => ?_)
        have gd : G wo wo.drew := (G.rf _).d
        refine wpAnyY_take (i := 0) (v := ?_) rfl (by kernel_rfl) (by kernel_rfl) (by kernel_rfl) (by kernel_rfl) (fun _ _ _ h => h) (Or.inl ⟨by kernel_rfl, ?_⟩) hS ?_
        rotate_left
        · intro w' hSw; go_simp; with_reducible rfl
        try simp only [Act.put, List.getElem_toArray, List.getElem_cons_zero, List.getElem_cons_succ, List.setIfInBounds_toArray, List.set_cons_zero, List.set_cons_succ]
        refine wpAnyY_take (i := 1) (v := ?_) rfl (by kernel_rfl) (by kernel_rfl) (by kernel_rfl) (by kernel_rfl) (fun _ _ _ h => h) (Or.inl ⟨by kernel_rfl, ?_⟩) hS ?_
        rotate_left
        · intro w' hSw; obtain ⟨s1, s2, s3, s4⟩ := hSw; have t0 := s1.cell 0; have t1 := s1.lt; go_simp; with_reducible rfl
        try simp only [Act.put, List.getElem_toArray, List.getElem_cons_zero, List.getElem_cons_succ, List.setIfInBounds_toArray, List.set_cons_zero, List.set_cons_succ]
        refine wpAnyY_take (i := 2) (v := ?_) rfl (by kernel_rfl) (by kernel_rfl) (by kernel_rfl) (by kernel_rfl) (fun _ _ _ h => h) (Or.inl ⟨by kernel_rfl, ?_⟩) hS ?_
        rotate_left
        · intro w' hSw; obtain ⟨s1, s2, s3, s4⟩ := hSw; have t0 := s2.cell 0; have t1 := s2.cell 1; have t2 := s2.cell 2; have t3 := s2.lt; go_simp; with_reducible rfl
        try simp only [Act.put, List.getElem_toArray, List.getElem_cons_zero, List.getElem_cons_succ, List.setIfInBounds_toArray, List.set_cons_zero, List.set_cons_succ]
        refine wpAnyY_take (i := 3) (v := ?_) rfl (by kernel_rfl) (by kernel_rfl) (by kernel_rfl) (by kernel_rfl) (fun _ _ _ h => h) (Or.inl ⟨by kernel_rfl, ?_⟩) hS ?_
        rotate_left
        · intro w' hSw; go_simp; with_reducible rfl
        try simp only [Act.put, List.getElem_toArray, List.getElem_cons_zero, List.getElem_cons_succ, List.setIfInBounds_toArray, List.set_cons_zero, List.set_cons_succ]
        refine wpAnyY_take (i := 4) (v := ?_) rfl (by kernel_rfl) (by kernel_rfl) (by kernel_rfl) (by kernel_rfl) (fun _ _ _ h => h) (Or.inl ⟨by kernel_rfl, ?_⟩) hS ?_
        rotate_left
        · intro w' hSw; obtain ⟨s1, s2, s3, s4⟩ := hSw; have t0 : w'.cell? ⟨w.heap.size, 2, none⟩ = some (.slice (some ⟨tb, to, none⟩) r.protests.length r.tc) := (by have := s2.cell 2; rw [HTE.out] at this; exact this); have t3 := s2.lt; go_simp; with_reducible rfl
        try simp only [Act.put, List.getElem_toArray, List.getElem_cons_zero, List.getElem_cons_succ, List.setIfInBounds_toArray, List.set_cons_zero, List.set_cons_succ]
        refine wpAnyY_take (i := 5) (v := ?_) rfl (by kernel_rfl) (by kernel_rfl) (by kernel_rfl) (by kernel_rfl) (fun _ _ _ h => h) (Or.inl ⟨by kernel_rfl, ?_⟩) hS ?_
        rotate_left
        · intro w' hSw; go_simp; with_reducible rfl
        try simp only [Act.put, List.getElem_toArray, List.getElem_cons_zero, List.getElem_cons_succ, List.setIfInBounds_toArray, List.set_cons_zero, List.set_cons_succ]
        refine wpAnyY_take (i := 6) (v := ?_) rfl (by kernel_rfl) (by kernel_rfl) (by kernel_rfl) (by kernel_rfl) (fun _ _ _ h => h) (Or.inl ⟨by kernel_rfl, ?_⟩) hS ?_
        rotate_left
        · intro w' hSw; go_simp; with_reducible rfl
        try simp only [Act.put, List.getElem_toArray, List.getElem_cons_zero, List.getElem_cons_succ, List.setIfInBounds_toArray, List.set_cons_zero, List.set_cons_succ]
        refine wpAnyY_take (i := 7) (v := ?_) rfl (by kernel_rfl) (by kernel_rfl) (by kernel_rfl) (by kernel_rfl) (fun _ _ _ h => h) (Or.inl ⟨by kernel_rfl, ?_⟩) hS ?_
        rotate_left
        · intro w' hSw; obtain ⟨s1, s2, s3, s4⟩ := hSw; go_simp; with_reducible rfl
        try simp only [Act.put, List.getElem_toArray, List.getElem_cons_zero, List.getElem_cons_succ, List.setIfInBounds_toArray, List.set_cons_zero, List.set_cons_succ]
        refine wpAnyY_oneSW (i := 8) (by kernel_rfl) rfl (by kernel_rfl) (fun K8 hK8 => ?_)
        go_simp
        refine (HRI.out _ (gwo.t gd) z).mono ?_
        rintro e w8 ⟨rfl, hG8⟩
        rw [HQI.out]
        refine hK8.out _ _ (hSk _ (gd.t hG8)) (fun hS => ?_)
        clear hK8
        try simp only [Act.put, List.getElem_toArray, List.getElem_cons_zero, List.getElem_cons_succ, List.setIfInBounds_toArray, List.set_cons_zero, List.set_cons_succ]
        refine wpAnyY_take (i := 9) (v := ?_) rfl (by kernel_rfl) (by kernel_rfl) (by kernel_rfl) (by kernel_rfl) (fun _ _ _ h => h) (Or.inl ⟨by kernel_rfl, ?_⟩) hS ?_
        rotate_left
        · intro w' hSw; go_simp; with_reducible rfl
        try simp only [Act.put, List.getElem_toArray, List.getElem_cons_zero, List.getElem_cons_succ, List.setIfInBounds_toArray, List.set_cons_zero, List.set_cons_succ]
        refine wpAnyY_oneW (i := 10) (by kernel_rfl) rfl (by kernel_rfl) (by kernel_rfl) (fun K10 hK10 => ?_)
        go_simp
        refine hK10.out _ _ ?_
        clear hK10
        try simp only [Act.put, List.getElem_toArray, List.getElem_cons_zero, List.getElem_cons_succ, List.setIfInBounds_toArray, List.set_cons_zero, List.set_cons_succ]
        refine wpAnyY_done (by kernel_rfl) ?_ _
        clear hS hSk
        have g8 := gd.t hG8
        have hbl8 := HBL.out.keep g8
        obtain ⟨u2, hu2⟩ := Option.isSome_iff_exists.1 (blk_has hbl8 (i := q * 5 + 2) (by omega))
        have z2 := hbl8.frozen (q * 5 + 2)
        have lg := hbl8.lt
        have hblk2 := hbl8.set_ (q * 5 + 2) (.int .i64 0)
        obtain ⟨u3, hu3⟩ := Option.isSome_iff_exists.1 (blk_has hblk2 (i := q * 5 + 3) (by rw [Array.size_setIfInBounds]; omega))
        have z3 := hblk2.frozen (q * 5 + 3)
        have HRW8 := Lib.hid (own_G HRW.out g8)
        have HFW8 := Lib.hid (HFW.out.g g8)
        clear hbl8 hblk2 g8 gd hG8 boK boK2 bo0
        go_wp2_with fail
        have hrow := case_row HRW8.out HOA.out HUO.out hqo HOB.out
        rw [← HST.out] at hrow
        have HROW := Lib.hid hrow
        have HFE := Lib.hid ((HFW8.out.s (p := ⟨g, q * 5 + 2, none⟩) (.inl HOA.out) (.int .i64 0)).s (p := ⟨g, q * 5 + 3, none⟩) (.inl HOA.out) (.int .i64 0))
        clear hrow hu2 hu3 z2 z3 lg
        go_roundw
        case rel => exact ⟨k + 1, by omega, by go_num, HROW.out, HFE.out⟩
        case measure => simp [intOf] <;> omega
    · obtain rfl : k = r.protests.length := by omega
      have hki : ¬ ((r.protests.length : Nat) : Int) < r.protests.length := by omega
      have bo1 := HFW.out.blk HB1.out (fun e => by have := HGE.out _ e; omega)
      have e0 := boK.cell 0
      have e1 := boK.cell 1
      have e2 := boK.cell 2
      have le := boK.lt
      have r0 := bo1.cell 0
      have r1 := bo1.cell 1
      have r2 := bo1.cell 2
      have z0 := bo1.frozen 0
      have z1 := bo1.frozen 1
      have z2 := bo1.frozen 2
      have lr := bo1.lt
      go_wp2_with fail
      clear r0 r1 r2 z0 z1 z2 lr e0 e1 e2 le
      have bE := ((bo1.set_ 0 (.slice o.ra o.racers.length o.rc)).set_ 1 (.slice o.pa o.pools.length o.pc)).set_ 2 (.slice none 0 0)
      simp only [List.setIfInBounds_toArray, List.set_cons_zero, List.set_cons_succ] at bE
      have hFE : Fr (fun i => i = w.heap.size + 1) wo (((wo.setCell ⟨w.heap.size + 1, 0, none⟩ (.slice o.ra o.racers.length o.rc)).setCell ⟨w.heap.size + 1, 1, none⟩ (.slice o.pa o.pools.length o.pc)).setCell ⟨w.heap.size + 1, 2, none⟩ (.slice none 0 0)) := (((Fr.rf (fun i => i = w.heap.size + 1) wo).s (p := ⟨w.heap.size + 1, 0, none⟩) (.inl rfl) _).s (p := ⟨w.heap.size + 1, 1, none⟩) (.inl rfl) _).s (p := ⟨w.heap.size + 1, 2, none⟩) (.inl rfl) _
      generalize ((wo.setCell ⟨w.heap.size + 1, 0, none⟩ (.slice o.ra o.racers.length o.rc)).setCell ⟨w.heap.size + 1, 1, none⟩ (.slice o.pa o.pools.length o.pc)).setCell ⟨w.heap.size + 1, 2, none⟩ (.slice none 0 0) = WE at *
      have gE : G w WE := ((G.fr (R := fun _ => False) gwo).t2 hFE (fun i hi e => by omega)).toG (fun _ _ h => h)
      have hrE := own_Fr HRW.out hFE (fun g hg e => by have := own_base HRW.out hg; omega)
      have hF2 : Fr (fun i => o.ra = some ⟨i, 0, none⟩ ∨ i = w.heap.size + 1) W5 WE := ⟨hFE.os.trans HFW.out.os, hFE.tape.trans HFW.out.tape, hFE.output.trans HFW.out.output, Nat.le_trans HFW.out.size hFE.size, fun i hi hn => (hFE.block i (Nat.lt_of_lt_of_le hi HFW.out.size) (fun e => hn (.inr e))).trans (HFW.out.block i hi (fun e => hn (.inl e)))⟩
      have hAE := case_at (S := stOf r.protests n) (HAT.out.keep gE) hF2 hB1 HCR5.out hrE HRP5.out HPR5.out HPT5.out HER.out HEP.out
      have HF := Lib.hid (HP.out o WE gE HER.out HEP.out HET.out hAE)
      refine bodyPost_ret (res30 _ _ (w.heap.size + 1) _ _ _ _ _ _ _ _ _ rfl bE) rfl ?_
      exact HF.out
end Go.Proofs.YtnkmcoljijmgpaaGreat
