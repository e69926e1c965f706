import Derived.Test.YtpjfdfddcnocpaaDe
import Derived.Test.YtpjfdfddcnocpaaTe
import Derived.Laws.AppendOwnNone
set_option linter.unusedSimpArgs false
set_option linter.unusedVariables false
namespace Go.Proofs.Ytpjfdfddcnocpaa
open Go.RowKit
attribute [local go_sem] Oper.semAt_some

theorem ptsV_len2 (P : List (Nat × Nat)) : (ptsV P).length = P.length * 2 := by
  induction P with
  | nil => rfl
  | cons p P ih => simp only [ptsV, List.flatMap_cons, List.length_append, List.length_cons] at *; rw [ih]; simp; omega
theorem ptsV_one2 (P : List (Nat × Nat)) : ∀ u ∈ ptsV P, u.oneCell' = true := by
  intro u hu
  obtain ⟨p, _, hp⟩ := List.mem_flatMap.1 hu
  rcases List.mem_cons.1 hp with rfl | hp
  · rfl
  · rw [List.mem_singleton.1 hp]; rfl
theorem add0 (g j : Nat) : (⟨g, 0, none⟩ : Addr).add j = ⟨g, j, none⟩ := by
  unfold Addr.add
  by_cases h : j = 0
  · subst h; rfl
  · simp [h]
theorem pts_src {W : World} {g : Nat} {P : List (Nat × Nat)} (h : PtsAt W g P) : ∀ j u, (ptsV P)[j]? = some u → W.cell? ((⟨g, 0, none⟩ : Addr).add j) = some u := by
  intro j u hj
  have hlt : j < (ptsV P).length := (List.getElem?_eq_some_iff.1 hj).1
  rw [ptsV_len2] at hlt
  obtain ⟨i, hi⟩ : ∃ i, j = i * 2 ∨ j = i * 2 + 1 := ⟨j / 2, by omega⟩
  have hip : i < P.length := by omega
  obtain ⟨p1, p2⟩ := pts_get P i hip
  obtain ⟨c1, c2⟩ := h i hip
  rcases hi with rfl | rfl
  · have e : some u = some (Value.int .i64 (P.getD i (0, 0)).1) := hj.symm.trans p1
    rw [e, add0]
    exact c1
  · have e : some u = some (Value.int .i64 (P.getD i (0, 0)).2) := hj.symm.trans p2
    rw [e, add0]
    exact c2
/-- a copy of a row of places, the empty one too -/
theorem wp_append_row {o : Oper} {a : Act} {K : Act → World → Prop} {Q : Exit → Act → World → Prop} {W : World} (s x : Operand) (ho : o.op = .call { callee := .builtin .append, args := #[s, x], argTypes := #[36, 36] }) (g0 base : Nat) (hs : a.eval s = .slice (some ⟨g0, 0, none⟩) 0 0) (b0 : Blk W g0 27 #[]) (hb : base ≤ g0)
    {ra : Option Addr} {rc : Nat} {row : List (Nat × Nat)} (hx : a.eval x = .slice ra row.length rc) (hsrc : ra = none ∧ rc = 0 ∧ row = [] ∨ ∃ gj, ra = some ⟨gj, 0, none⟩ ∧ gj < W.heap.size ∧ PtsAt W gj row) (hlen : row.length ≤ 1000)
    (h : ∀ v' w', w'.ownsRow base 27 2 v' row.length (ptsV row) → (∀ wb, G wb W → wb.heap.size ≤ base → G wb w') → (∀ i, i < W.heap.size → i ≠ g0 → w'.heap[i]? = W.heap[i]?) → K (a.put o.dst v') w') : o.wp Try.prog a W K Q := by
  have own := own_weaken (own_empty b0 2) hb
  obtain ⟨i0, hi0, hz0, hz1, hz2⟩ := info_parts info27
  rcases hsrc with ⟨rfl, rfl, rfl⟩ | ⟨gj, rfl, hgj, hp⟩
  · have hrun := run_append_owned_none (P := Try.prog) (w := W) base 36 o.type 27 i0 2 Try.underlying36 hi0 _ 0 [] own
    unfold Oper.wp
    simp [execOp, ho, resolve, invoke, builtin, hs, hx, hrun, Result.andThen]
    exact h _ _ own (fun wb hG _ => hG) (fun _ _ _ => rfl)
  · refine wp_append_own W s x 36 ho base 27 i0 _ 2 16 Try.underlying36 hi0 hz0 hz1 hz2 rfl (by decide) _ 0 [] hs own ⟨gj, 0, none⟩ row.length rc (ptsV row) hx (ptsV_len2 row) (pts_src hp) (ptsV_one2 row) (by unfold maxLen; omega) (by omega) (Nat.le_trans hb (Nat.le_of_lt b0.lt)) ?_
    intro v' w' hown hg _
    rw [Nat.zero_add, List.nil_append] at hown
    exact h v' w' hown (fun wb hG hbb => grow_own hG own hbb hg) (fun i hi hne => hg.block i hi (fun e => hne (by injection e)))
theorem TRows.kept {WX W4 : World} {base n b2 : Nat} {v v2 : Value} {xs : List Value} {R : List (List (Nat × Nat))} (h : TRows WX base v R) (h2 : WX.ownsRow b2 3 1 v2 n xs) (hg : WX.grownBy W4 v2.ownBlock) : TRows W4 base v R := by
  obtain ⟨vs, r1, r2, r3⟩ := h
  exact ⟨vs, r1, r2.kept hg (own_own r2 h2 (by decide)), fun j hj => by obtain ⟨b, hb⟩ := r3 j hj; exact ⟨b, hb.kept hg (own_own hb h2 (by decide))⟩⟩
theorem Blk.kept6 {W W' : World} {g : Nat} {t : TypeId} {cs : Array Value} (h : W'.heap[g]? = W.heap[g]?) (b : Blk W g t cs) : Blk W' g t cs := by
  unfold Blk at *
  rw [h]
  exact b
theorem cells_two {W : World} {g : Nat} {t : TypeId} {a b : Value} (h : Blk W g t #[a, b]) : ∀ j u, [a, b][j]? = some u → W.cell? ((⟨g, 0, none⟩ : Addr).add j) = some u := by
  intro j u hj
  rw [add0, h.cell j]
  simpa using hj
theorem own_one7 {W : World} {base n size : Nat} {e : TypeId} {v : Value} {xs : List Value} (h : W.ownsRow base e size v n xs) : ∀ u ∈ [v], u.oneCell' = true := by
  intro u hu
  rw [List.mem_singleton.1 hu]
  rcases h.2 with ⟨rfl, _⟩ | ⟨g, cap, cur, rfl, _⟩ <;> rfl
theorem own_one {W : World} {g : Nat} {e : TypeId} {x : Value} (b : Blk W g e #[x]) : W.ownsRow g e 1 (.slice (some ⟨g, 0, none⟩) 1 1) 1 [x] :=
  ⟨by simp, .inr ⟨g, 1, #[x], rfl, Nat.le_refl _, b, Nat.le_refl _, by decide, by simp, by simp⟩⟩
theorem own_slice {W : World} {base n size : Nat} {e : TypeId} {v : Value} {xs : List Value} (h : W.ownsRow base e size v n xs) : ∃ ra rc, v = .slice ra n rc := by
  rcases h.2 with ⟨rfl, h0⟩ | ⟨g, cap, cur, rfl, _⟩
  · subst h0; exact ⟨_, _, rfl⟩
  · exact ⟨_, _, rfl⟩
theorem own_baseT {W : World} {base base' : Nat} {v : Value} {R : List (List (Nat × Nat))} (h : TRows W base v R) (hb : base' ≤ base) : TRows W base' v R := by
  obtain ⟨vs, h1, h2, h3⟩ := h
  exact ⟨vs, h1, own_weaken h2 hb, h3⟩
theorem TT_le {c : Nat → Nat × Nat → Nat} {low : Nat → Nat} {wrong : Int} {ls : List Nat} {P : List (Nat × Nat)} {F : Int} (hF : F ≤ wrong) : ∀ i, ∀ x ∈ TT c low wrong ls P F i, x.2 ≤ wrong
  | 0, x, hx => by
    have : x = ([], F) := by simpa [TT] using hx
    subst this
    exact hF
  | i + 1, y, hy => by
    rw [TT_succ, mem_stepT] at hy
    obtain ⟨x, hx, p, hp, hok, rfl⟩ := hy
    unfold okT at hok
    rw [Bool.and_eq_true] at hok
    exact of_decide_eq_true hok.1

section
variable (north wrong : Int) (cols lofts : Nat) (east : List Int) (svs : List Sv) (ls : List Nat) (ea sa la : Option Addr) (ec sc lc : Nat) (w : World)
def TrPost (w : World) (R : List (List (Nat × Nat))) (e : Ending) (w' : World) : Prop := ∃ v, e = .returned v ∧ TRows w' w.heap.size v R ∧ G w w'
set_option maxRecDepth 100000 in
set_option maxHeartbeats 16000000 in
theorem rTruthsOf_any (he : IntsAt w ea east) (hs : SvsAt w sa svs) (hA : IntsAt w la (ls.map fun n : Nat => (n : Int))) (h3 : ls.length = 3) (hlt : ∀ l ∈ ls, l < lofts) (hk : checkE north cols east lofts svs wrong = 0) (hw : ¬ wrong < fewSum north cols east svs lofts) :
    Calls Try.prog 76 #[.agg #[.int .i64 north, .int .i64 cols, .slice ea east.length ec, .int .i64 lofts, .slice sa svs.length sc, .int .i64 wrong], .slice la ls.length lc] w (TrPost w ((TT (cost north east svs) (fun l => lowC north east svs l (allP cols east.length)) wrong ls (allP cols east.length) (fewSum north cols east svs lofts) ls.length).map (·.1))) := by
  have hv := checkE_ok hk
  have hvb := vm_bounds hv
  have hl2 := (checkE_zero hk).2.1
  have HPA := Lib.hid (fun (W : World) => rPlaces_all north wrong cols lofts east.length ea ec (.slice sa svs.length sc) W (by omega) (by omega))
  have HCO := Lib.hid (fun (W : World) (hW : G w W) => rCosts_any north wrong cols lofts east svs ea sa ec sc W (he.below hW) (hs.below hW) hk)
  have HLE := Lib.hid (rLeast_map hk)
  have hsf := sumM_few north cols lofts east svs (by omega) (by omega)
  have hlow : ∀ l, minA (costsL north cols east svs l) = lowC north east svs l (allP cols east.length) := fun l => minA_low north cols east svs l (by omega) (by omega)
  have hfew : fewSum north cols east svs lofts ≤ 128 := Nat.le_trans (fewSum_le north cols east svs lofts hl2) (by omega)
  have hlo8 : lofts ≤ 8 := by omega
  have hPl := allP_len cols east.length
  have hN0 : 0 < (allP cols east.length).length := by
    rw [hPl]; exact Nat.mul_pos (by omega) (by omega)
  have hN1 : (allP cols east.length).length ≤ 100 := by
    rw [hPl]
    have : east.length * cols ≤ 10 * 10 := Nat.mul_le_mul (by omega) (by omega)
    omega
  have hcL : ∀ l k, k < (allP cols east.length).length → (costsL north cols east svs l).getD k 0 = cost north east svs l ((allP cols east.length).getD k (0, 0)) := fun l k hk => by unfold costsL; simp [hk]
  have hc16 : ∀ l p, cost north east svs l p ≤ 16 := fun l p => Nat.le_trans (cost_le _ _ _ _ _) hl2
  have hlw : ∀ l, lowC north east svs l (allP cols east.length) ≤ 16 := fun l => by
    obtain ⟨_, p, _, e⟩ := low_spec north cols east svs l (by omega) (by omega)
    rw [e]; exact hc16 l p
  have hlc : ∀ l, ∀ p ∈ allP cols east.length, lowC north east svs l (allP cols east.length) ≤ cost north east svs l p := fun l p hp => low_le north cols east svs l hp
  have hFw : (fewSum north cols east svs lofts : Int) ≤ wrong := by omega
  have hTR := fun i => TT_row (cost north east svs) (fun l => lowC north east svs l (allP cols east.length)) wrong (ls := ls) (P := allP cols east.length) (F := (fewSum north cols east svs lofts : Int)) hc16 hlw ⟨by omega, by omega⟩ hlc (by omega) i
  have hTW := fun i => TT_le (c := cost north east svs) (low := fun l => lowC north east svs l (allP cols east.length)) (ls := ls) (P := allP cols east.length) hFw i
  have hTL : ∀ i, i < 3 → (TT (cost north east svs) (fun l => lowC north east svs l (allP cols east.length)) wrong ls (allP cols east.length) (fewSum north cols east svs lofts) i).length ≤ 10000 := fun i hi => by
    refine Nat.le_trans (TT_len _ _ _ _ _ _ i) ?_
    refine Nat.le_trans (Nat.pow_le_pow_left hN1 i) ?_
    exact Nat.pow_le_pow_right (by omega) (show i ≤ 2 by omega)
  have hT0 : TT (cost north east svs) (fun l => lowC north east svs l (allP cols east.length)) wrong ls (allP cols east.length) (fewSum north cols east svs lofts) 0 = [([], (fewSum north cols east svs lofts : Int))] := rfl
  have hTS := TT_succ (cost north east svs) (fun l => lowC north east svs l (allP cols east.length)) wrong ls (allP cols east.length) (fewSum north cols east svs lofts)
  have hLs : ∀ i, i < ls.length → ls.getD i 0 < lofts := fun i hi => by
    rw [show ls.getD i 0 = ls[i] by simp [hi]]
    exact hlt _ (List.getElem_mem hi)
  have hlm : (ls.map fun n : Nat => (n : Int)).length = ls.length := by simp
  have hlg : ∀ i, i < ls.length → (ls.map fun n : Nat => (n : Int)).getD i 0 = (ls.getD i 0 : Nat) := fun i hi => by simp [hi]
  rcases hA with hA | ⟨bl, off, rfl, hbl, hcl⟩
  · rw [hA] at hlm; simp at hlm; omega
  rw [hlm] at hcl
  obtain ⟨low, hlo⟩ : ∃ low : Nat → Nat, low = fun l => lowC north east svs l (allP cols east.length) := ⟨_, rfl⟩
  have hlo' : ∀ l, lowC north east svs l (allP cols east.length) = low l := fun l => by rw [hlo]
  simp only [hlo'] at hlow hlw
  rw [← hlo] at hTR hTW hTL hT0 hTS ⊢
  clear hlo hlo' hlc
  obtain ⟨P, hP⟩ : ∃ P, P = allP cols east.length := ⟨_, rfl⟩
  rw [← hP] at hN0 hN1 hcL HPA HCO HLE hTR hTW hTL hT0 hTS ⊢
  generalize cost north east svs = c at *
  have HST := Lib.hid (stpT_snoc c low wrong)
  have HSS := Lib.hid (stepT_snoc c low wrong)
  have HLS := Lib.hid (fun l old => stpT_len c low wrong l old)
  have HLT := Lib.hid (fun l old => stepT_len c low wrong l old P)
  have HNT : Hid (∀ l old x p, nT c low l old x p = if 0 ≤ old then x.2 else x.2 - (low l : Int) + (c l p : Int)) := fun l old x p => rfl
  have HOT : Hid (∀ l old x p, okT c low wrong l old x p = (decide (nT c low l old x p ≤ wrong) && (decide (old < 0) || x.1.getD old.toNat (0, 0) == p))) := fun l old x p => rfl
  have HS0 : Hid (∀ l old x, stpT c low wrong l old x [] = []) := fun l old x => rfl
  have HT00 : Hid (∀ l old Q, stepT c low wrong l old [] Q = []) := fun l old Q => rfl
  generalize hgT : TT c low wrong ls P (fewSum north cols east svs lofts) = tt at *
  clear hgT
  generalize stpT c low wrong = stp at *
  generalize stepT c low wrong = stepA at *
  generalize okT c low wrong = okA at *
  have HTR := Lib.hid hTR
  have HTW := Lib.hid hTW
  have HTL := Lib.hid hTL
  have HT0 := Lib.hid hT0
  have HTS := Lib.hid hTS
  have HCL := Lib.hid hcL
  have HLOW := Lib.hid hlow
  have HSF := Lib.hid hsf
  have HC16 := Lib.hid hc16
  have HLW := Lib.hid hlw
  have HLs := Lib.hid hLs
  have hcl2 : ∀ i, i < ls.length → w.cell? ⟨bl, off + i, none⟩ = some (.int .i64 (ls.getD i 0 : Nat)) := fun i hi => by rw [hcl i hi, hlg i hi]
  have HCl := Lib.hid hcl2
  have H3 := Lib.hid h3
  have HPP : Hid (∀ w' v, TRows w' w.heap.size v ((tt ls.length).map (·.1)) → G w w' → TrPost w ((tt ls.length).map (·.1)) (.returned v) w') := fun w' v h1 h2 => ⟨v, rfl, h1, h2⟩
  generalize TrPost w ((tt ls.length).map (·.1)) = PP at *
  have hl3 : ls.length ≤ 3 := by omega
  have hl30 : 3 ≤ ls.length := by omega
  clear hTR hTW hTL hT0 hTS hcL hlow hsf hc16 hlw hLs hcl2 hcl hPl hk hv hvb hl2 hP he hs hlg hlm hlt hFw hw h3
  have g0 : G w (w.alloc (.cells #[.int .i64 north, .int .i64 cols, .slice ea east.length ec, .int .i64 lofts, .slice sa svs.length sc, .int .i64 wrong] 25)) := (G.rf _).a _
  have b0 := Blk.new w 25 #[.int .i64 north, .int .i64 cols, .slice ea east.length ec, .int .i64 lofts, .slice sa svs.length sc, .int .i64 wrong]
  go_enter Try.func76, Try.ntmps76
  go_wp2_with (first | (go_at_call 71; refine (HCO.out _ g0).mono ?_; rintro e wc ⟨gC, capC, rfl, hgC, hCA, hG1⟩; replace b0 := b0.keep hG1; replace g0 := g0.t hG1; clear hG1; have m0 := b0.cell 0; have m1 := b0.cell 1; have m2 := b0.cell 2; have m3 := b0.cell 3; have m4 := b0.cell 4; have m5 := b0.cell 5; have lM := b0.lt) | (go_at_call 72; refine (HLE.out _ gC capC hgC hCA).mono ?_; rintro e wl ⟨vL, rfl, hownL, hG1⟩; replace b0 := b0.keep hG1; replace g0 := g0.t hG1; have hCA2 := hCA.keep hgC hG1; have hgC2 := Nat.lt_of_lt_of_le hgC hG1.size; clear hG1 hCA hgC; clear m0 m1 m2 m3 m4 m5 lM; have m0 := b0.cell 0; have m1 := b0.cell 1; have m2 := b0.cell 2; have m3 := b0.cell 3; have m4 := b0.cell 4; have m5 := b0.cell 5; have lM := b0.lt) | (go_at_call 75; refine (HPA.out _).mono ?_; rintro e wa ⟨vA, rfl, hownA, hG1⟩; replace b0 := b0.keep hG1; replace g0 := g0.t hG1; have hCA3 := hCA2.keep hgC2 hG1; have hgC3 := Nat.lt_of_lt_of_le hgC2 hG1.size; have hownL3 := own_G hownL hG1; clear hG1 hCA2 hgC2 hownL; clear m0 m1 m2 m3 m4 m5 lM))
  have b1 : Blk ((wa.alloc (.cells #[.slice none 0 0] 36)).alloc (.cells #[.int .i64 (sumM (costsL north cols east svs) lofts : Nat)] 3)) wa.heap.size 36 #[.slice none 0 0] := (Blk.new _ _ _).alloc _
  have b2 : Blk ((wa.alloc (.cells #[.slice none 0 0] 36)).alloc (.cells #[.int .i64 (sumM (costsL north cols east svs) lofts : Nat)] 3)) (wa.heap.size + 1) 3 #[.int .i64 (sumM (costsL north cols east svs) lofts : Nat)] := Blk.newAt (by simp) _ _
  have hG1 : G wa ((wa.alloc (.cells #[.slice none 0 0] 36)).alloc (.cells #[.int .i64 (sumM (costsL north cols east svs) lofts : Nat)] 3)) := ((G.rf _).a _).a _
  have hwaz := g0.size
  replace b0 := b0.keep hG1; replace g0 := g0.t hG1
  have hCA := hCA3.keep hgC3 hG1
  have hgC := Nat.lt_of_lt_of_le hgC3 hG1.size
  have hownL := own_G hownL3 hG1
  replace hownA := own_G hownA hG1
  rw [HSF.out] at b1 b2 hCA hownL hownA b0 g0 hgC hG1 ⊢
  generalize fewSum north cols east svs lofts = F at *
  obtain ⟨W0, hW0⟩ : ∃ W0, W0 = (wa.alloc (.cells #[.slice none 0 0] 36)).alloc (.cells #[.int .i64 (F : Nat)] 3) := ⟨_, rfl⟩
  obtain ⟨na, hna⟩ : ∃ na, na = wa.heap.size := ⟨_, rfl⟩
  rw [← hW0, ← hna] at b1 b2
  rw [← hW0] at hCA hownL hownA b0 g0 hgC hG1 ⊢
  rw [← hna] at hwaz ⊢
  clear hG1 hgC3 hCA3 hownL3 hW0 hna
  obtain ⟨gL, capL, curL, eL, hbL, hgL, htL⟩ := own_some hownL (by have := HLs.out 0 (by omega); omega)
  subst eL
  have cL : ∀ l, l < lofts → W0.cell? ⟨gL, l, none⟩ = some (.int .i64 (low l : Nat)) := fun l hl => take_cell hbL htL (by omega) (by
    rw [← HLOW.out]
    simp [natV, hl])
  obtain ⟨gA, capA, eA, hgA, hpt⟩ := pts_own rfl hownA hN0
  subst eA
  have HcL := Lib.hid cL
  have HPT := Lib.hid hpt
  have HCA := Lib.hid hCA
  have hr0 : TRows W0 w.heap.size (.slice (some ⟨na, 0, none⟩) 1 1) ((tt 0).map (·.1)) := by
    rw [HT0.out]
    refine ⟨[.slice none 0 0], rfl, own_weaken (own_one b1) hwaz, fun j hj => ?_⟩
    obtain rfl : j = 0 := by simpa using hj
    exact ⟨0, World.ownsRow_nil _ _ _ _⟩
  have ho0 : W0.ownsRow w.heap.size 3 1 (.slice (some ⟨na + 1, 0, none⟩) 1 1) (tt 0).length (intV ((tt 0).map (·.2))) := by
    rw [HT0.out]
    exact own_weaken (own_one b2) (by omega)
  have HR0 := Lib.hid hr0
  have HO0 := Lib.hid ho0
  clear cL hpt hCA hr0 ho0 b1 b2 hbL htL hownL hownA HLE HCO HPA HLOW HSF
  go_loopw [9, 10, 11] (fun rv ov i wr => ∃ (k : Nat) (ra oa : Option Addr) (rc oc : Nat), k ≤ ls.length ∧ i = .int .i64 k ∧ rv = .slice ra (tt k).length rc ∧ ov = .slice oa (tt k).length oc ∧ TRows wr w.heap.size (.slice ra (tt k).length rc) ((tt k).map (·.1)) ∧ wr.ownsRow w.heap.size 3 1 (.slice oa (tt k).length oc) (tt k).length (intV ((tt k).map (·.2))) ∧ G W0 wr) (fun _ _ i _ => ls.length - (intOf i).toNat)
  case atStart =>
    have e0 : (tt 0).length = 1 := by rw [HT0.out]; rfl
    exact ⟨0, some ⟨na, 0, none⟩, some ⟨na + 1, 0, none⟩, 1, 1, Nat.zero_le _, rfl, by rw [e0], by rw [e0], by rw [e0]; exact HR0.out, by have := HO0.out; rw [e0] at this ⊢; exact this, G.rf _⟩
  case round =>
    obtain ⟨i, rra, ora, rrc, orc, hi, rfl, rfl, rfl, hTRo, hOVo, hGr⟩ := hrel
    obtain ⟨wo, rfl⟩ : ∃ wo, wo = wr := ⟨_, rfl⟩
    have HRo := Lib.hid hTRo
    have HOo := Lib.hid hOVo
    clear hTRo hOVo HR0 HO0
    by_cases hlt : i < ls.length
    · have hii : (i : Int) < ls.length := by omega
      have hl := HLs.out i hlt
      go_wp2
      go_loopw [14, 15] (fun ov k wx => ∃ j : Nat, j ≤ i ∧ k = .int .i64 j ∧ ov = .int .i64 (oldI ls i j) ∧ G wo wx) (fun _ k _ => i - (intOf k).toNat)
      case atStart => exact ⟨0, Nat.zero_le _, rfl, rfl, G.rf _⟩
      case round =>
        obtain ⟨j, hj, rfl, rfl, hGx⟩ := hrel
        obtain ⟨wx, rfl⟩ : ∃ wx, wx = wr := ⟨_, rfl⟩
        by_cases hjt : j < i
        · have hji : (j : Int) < i := by omega
          have hjl : (j : Int) < ls.length := by omega
          have gx := g0.t (hGr.t hGx)
          have c0 := GW.cell (((bcellB gx).1 bl _ hbl).trans (HCl.out j (by omega))) (Nat.lt_of_lt_of_le hbl gx.size)
          have c1 := GW.cell (((bcellB gx).1 bl _ hbl).trans (HCl.out i hlt)) (Nat.lt_of_lt_of_le hbl gx.size)
          have HS := Lib.hid (oldI_succ ls i j)
          generalize ls.getD j 0 = lj at *
          generalize ls.getD i 0 = li at *
          generalize oldI ls i j = oj at *
          go_wp2
          refine wp_region_quiet_G (by kernel_rfl) (by kernel_rfl) ?_
          repeat (quiet_step (fail))
          refine wpQuiet_nil ?_
          intro _ hw'
          obtain ⟨y, rfl⟩ := hw'
          clear c0 c1
          have gz := hGx.t y.g
          generalize y.w = wz at *
          clear y
          by_cases he : lj = li
          · have q0 : ((lj : Int) == li) = true := by simp [he]
            have H3 := Lib.hid (HS.out.trans (if_pos he))
            clear HS he
            go_wp2
            go_roundw
            case rel => exact ⟨j + 1, by omega, by go_num, by rw [H3.out], gz⟩
            case measure => simp [intOf]; omega
          · have q0 : ((lj : Int) == li) = false := by simp; omega
            have H3 := Lib.hid (HS.out.trans (if_neg he))
            clear HS he
            go_wp2
            go_roundw
            case rel => exact ⟨j + 1, by omega, by go_num, by rw [H3.out], gz⟩
            case measure => simp [intOf]; omega
        · obtain rfl : i = j := by omega
          have hji : ¬ (i : Int) < i := by omega
          have hob := oldI_bd ls i i
          have HTSi := Lib.hid (HTS.out i)
          have hTl := HTL.out i (by omega)
          have HTRi := Lib.hid (HTR.out i)
          have HTWi := Lib.hid (HTW.out i)
          have gx0 := hGr.t hGx
          have HR5 := Lib.hid (HRo.out.keep hGx)
          have HO5 := Lib.hid (own_G HOo.out hGx)
          have HCi := Lib.hid (HCl.out i hlt)
          clear HRo HOo
          generalize tt i = T at *
          generalize oldI ls i i = old at *
          generalize ls.getD i 0 = li at *
          obtain ⟨gi, ci, cCi, hgi, hcc⟩ := HCA.out li hl
          have HCC := Lib.hid hcc
          have hCL := fun k hk => HCL.out li k hk
          have cLi := HcL.out li hl
          have hlwi := HLW.out li
          have HNTi := Lib.hid (fun (x : TRow) (p : Nat × Nat) => HNT.out li old x p)
          generalize low li = lw at *
          have HCLi := Lib.hid hCL
          clear hcc hCL
          go_wp2
          go_loopw [12, 13, 16] (fun v1 v2 r ws => ∃ q : Nat, q ≤ T.length ∧ r = .int .i64 q ∧ TRows ws wx.heap.size v1 ((stepA li old (T.take q) P).map (·.1)) ∧ ws.ownsRow wx.heap.size 3 1 v2 (stepA li old (T.take q) P).length (intV ((stepA li old (T.take q) P).map (·.2))) ∧ G wx ws) (fun _ _ r _ => T.length - (intOf r).toNat)
          case atStart => exact ⟨0, Nat.zero_le _, rfl, by rw [List.take_zero, HT00.out]; exact TRows.nil _ _, by rw [List.take_zero, HT00.out]; exact World.ownsRow_nil _ _ _ _, G.rf _⟩
          case round =>
            obtain ⟨r, hr, rfl, hN1, hN2, hGs⟩ := hrel
            obtain ⟨ws, rfl⟩ : ∃ ws, ws = wr := ⟨_, rfl⟩
            have HN1 := Lib.hid hN1
            have HN2 := Lib.hid hN2
            clear hN1 hN2
            by_cases hrt : r < T.length
            · have hri : (r : Int) < T.length := by omega
              have HSr := Lib.hid (HSS.out li old T P r hrt)
              have hxm : T.getD r ([], 0) ∈ T := by
                rw [show T.getD r ([], 0) = T[r] by simp [hrt]]
                exact List.getElem_mem hrt
              obtain ⟨x1, x2, x3, x4⟩ := HTRi.out _ hxm
              have x5 := HTWi.out _ hxm
              have hDl : (stepA li old (T.take r) P).length ≤ T.length * P.length := by
                refine Nat.le_trans (HLT.out li old (T.take r)) (Nat.mul_le_mul_right _ ?_)
                rw [List.length_take]; omega
              have hTP : T.length * P.length ≤ 10000 * 100 := Nat.mul_le_mul hTl hN1
              obtain ⟨gR, capR, eR, hgR, hTA⟩ := (HR5.out).at (by rw [List.length_map]; omega)
              obtain ⟨rfl, rfl⟩ : rra = some ⟨gR, 0, none⟩ ∧ rrc = capR := by simpa using eR
              obtain ⟨gO, capO, eO, hgO, hcO⟩ := intV_at (by rw [List.length_map]) HO5.out (by omega)
              obtain ⟨rfl, rfl⟩ : ora = some ⟨gO, 0, none⟩ ∧ orc = capO := by simpa using eO
              have hco := hcO r (by rw [List.length_map]; exact hrt)
              obtain ⟨ra, rc, hcr, hsr⟩ := hTA r (by rw [List.length_map]; exact hrt)
              have e1 : (T.map (·.1)).getD r [] = (T.getD r ([], 0)).1 := by simp [hrt]
              have e2 : (T.map (·.2)).getD r 0 = (T.getD r ([], 0)).2 := by simp [hrt]
              rw [e1] at hcr hsr
              rw [e2] at hco
              clear e1 e2 hcO hTA eR eO hxm
              generalize T.getD r ([], 0) = x at *
              obtain ⟨row, ov⟩ := x
              simp only at x1 x2 x3 x4 x5 hco hcr hsr
              have x1a : row.length ≤ i := by omega
              have x1b : i ≤ row.length := by omega
              clear x1
              have HSRC := Lib.hid hsr
              have Hco := Lib.hid hco
              have Hcr := Lib.hid hcr
              clear hsr hco hcr
              generalize stepA li old (T.take r) P = D at *
              go_wp2
              go_loopw [12, 13, 17] (fun v1 v2 k wk => ∃ q : Nat, q ≤ P.length ∧ k = .int .i64 q ∧ TRows wk wx.heap.size v1 ((D ++ stp li old (row, ov) (P.take q)).map (·.1)) ∧ wk.ownsRow wx.heap.size 3 1 v2 (D ++ stp li old (row, ov) (P.take q)).length (intV ((D ++ stp li old (row, ov) (P.take q)).map (·.2))) ∧ G wx wk) (fun _ _ k _ => P.length - (intOf k).toNat)
              case atStart => exact ⟨0, Nat.zero_le _, rfl, by rw [List.take_zero, HS0.out, List.append_nil]; exact HN1.out, by rw [List.take_zero, HS0.out, List.append_nil]; exact HN2.out, hGs⟩
              case round =>
                obtain ⟨k, hk, rfl, hV, hNow, hGk⟩ := hrel
                obtain ⟨wk, rfl⟩ : ∃ wk, wk = wr := ⟨_, rfl⟩
                have HV := Lib.hid hV
                have HNo := Lib.hid hNow
                clear hV hNow
                by_cases hkt : k < P.length
                · have hki : (k : Int) < P.length := by omega
                  have hsn := HST.out li old (row, ov) P k hkt
                  have hpt := HPT.out k hkt
                  have hcc := HCC.out k hkt
                  rw [HCLi.out k hkt] at hcc
                  have h16 := HC16.out li (P.getD k (0, 0))
                  have hok := HOT.out li old (row, ov) (P.getD k (0, 0))
                  have hnt := HNTi.out (row, ov) (P.getD k (0, 0))
                  have hL1 := HLS.out li old (row, ov) (P.take k)
                  rw [List.length_take] at hL1
                  generalize P.getD k (0, 0) = p at *
                  obtain ⟨px, py⟩ := p
                  simp only at hpt hnt hok
                  have hDl2 : (D ++ stp li old (row, ov) (P.take k)).length ≤ 1000100 := by rw [List.length_append]; omega
                  obtain ⟨DN, hDN⟩ : ∃ DN, DN = D ++ stp li old (row, ov) (P.take k) := ⟨_, rfl⟩
                  rw [← hDN] at hDl2 HV HNo
                  have HDN := Lib.hid hDN
                  have Hsn := Lib.hid hsn
                  have Hok := Lib.hid hok
                  have Hnt := Lib.hid hnt
                  clear hsn hok hnt hDN hL1
                  generalize c li (px, py) = cc at *
                  have gk0 := gx0.t hGk
                  have gkw := g0.t gk0
                  have bk := b0.keep gk0
                  have lk := bk.lt
                  have lL := Nat.lt_of_lt_of_le hgL gk0.size
                  have lC := Nat.lt_of_lt_of_le hgC gk0.size
                  have lgi := Nat.lt_of_lt_of_le hgi gk0.size
                  have lA := Nat.lt_of_lt_of_le hgA gk0.size
                  have lO := Nat.lt_of_lt_of_le hgO hGk.size
                  have lR := Nat.lt_of_lt_of_le hgR hGk.size
                  have c0 := GW.cell (((bcellB hGk).1 gO _ hgO).trans Hco.out) lO
                  have c1 := GW.cell (((bcellB gkw).1 bl _ hbl).trans HCi.out) (Nat.lt_of_lt_of_le hbl gkw.size)
                  have c2 := GW.cell (((bcellB gk0).1 gL _ hgL).trans cLi) lL
                  have c3 := GW.cell (((bcellB gk0).1 gC _ hgC).trans cCi) lC
                  have c4 := GW.cell (((bcellB gk0).1 gi _ hgi).trans hcc) lgi
                  have x10 : IntKind.i64.wrap ((ov : Int) - lw) = ov - lw := IntWalk.i64_in _ (by omega)
                  obtain ⟨nn, hnn⟩ : ∃ nn : Int, nn = ov - lw + cc := ⟨_, rfl⟩
                  have x11 : IntKind.i64.wrap (ov - (lw : Int) + cc) = nn := by rw [IntWalk.i64_in _ (by omega), hnn]
                  have hnb : -100 ≤ nn ∧ nn ≤ 300 := by omega
                  have HNN := Lib.hid hnn
                  clear hnn hcc HST HSS HLS HLT HNT HNTi HOT HS0 HT00 HTR HTW HTL HT0 HTS HCL HC16 HLW HLs HCl H3 HPP HcL HPT HCA HTSi HTRi HTWi HR5 HO5 HCC HCLi HN1 HN2 HSr
                  have hlii : (li : Int) < lofts := by omega
                  go_wp2
                  refine wp_region_quiet_G (by kernel_rfl) (by kernel_rfl) ?_
                  repeat (quiet_step (fail))
                  refine wpQuiet_nil ?_
                  intro _ hw'
                  obtain ⟨y, rfl⟩ := hw'
                  clear c0 c1 c2 c3 c4 x10 x11 HCi cLi cCi bk lk lL lC lgi lA lO lR hgi hgC hgL hbl
                  have gz := hGk.t y.g
                  have hgz0 := y.g
                  generalize y.w = wz at *
                  clear y
                  have gz0 := gx0.t gz
                  have bz := b0.keep gz0
                  have lz := bz.lt
                  have cz : wz.cell? ⟨w.heap.size, 5, none⟩ = some (.int .i64 wrong) := bz.cell 5
                  have lzA := Nat.lt_of_lt_of_le hgA gz0.size
                  have lzR := Nat.lt_of_lt_of_le hgR gz.size
                  have lzO := Nat.lt_of_lt_of_le hgO gz.size
                  by_cases hold : old < 0
                  · have Hn2 := Lib.hid (Hnt.out.trans ((if_neg (by omega)).trans HNN.out.symm))
                    clear Hnt HNN
                    by_cases hle : nn ≤ wrong
                    · have hokt : okA li old (row, ov) (px, py) = true := by rw [Hok.out, Hn2.out]; simp [hle, hold]
                      have HE := Lib.hid (Hsn.out.trans (if_pos hokt))
                      clear Hok Hsn hokt
                      have hS26 : ∀ W', G wz W' → W'.cell? ⟨w.heap.size, 5, none⟩ = some (.int .i64 wrong) ∧ True := fun W' hW => ⟨((bcellB hW).1 _ _ lz).trans cz, trivial⟩
                      go_wp2
                      refine wp_region_Y (S := fun W' => W'.cell? ⟨w.heap.size, 5, none⟩ = some (.int .i64 wrong) ∧ True) 21 22 rfl (by kernel_rfl) (hS26 _ (G.rf _).d) (fun hS => ?_)
                      clear cz hS26
                      refine wpAnyY_take (i := 0) (v := ?_) rfl (by kernel_rfl) (by kernel_rfl) (by kernel_rfl) (by kernel_rfl) (fun _ _ _ h => h) (Or.inl ⟨by kernel_rfl, ?_⟩) hS ?_
                      rotate_left
                      · intro w' hSw; go_simp; with_reducible rfl
                      try simp only [Act.put, List.setIfInBounds_toArray, List.set_cons_zero, List.set_cons_succ]
                      refine wpAnyY_take (i := 1) (v := ?_) rfl (by kernel_rfl) (by kernel_rfl) (by kernel_rfl) (by kernel_rfl) (fun _ _ _ h => h) (Or.inl ⟨by kernel_rfl, ?_⟩) hS ?_
                      rotate_left
                      · intro w' hSw; go_simp; with_reducible rfl
                      try simp only [Act.put, List.setIfInBounds_toArray, List.set_cons_zero, List.set_cons_succ]
                      refine wpAnyY_take (i := 2) (v := ?_) rfl (by kernel_rfl) (by kernel_rfl) (by kernel_rfl) (by kernel_rfl) (fun _ _ _ h => h) (Or.inl ⟨by kernel_rfl, ?_⟩) hS ?_
                      rotate_left
                      · intro w' hSw; obtain ⟨y0, y1⟩ := hSw; go_simp; with_reducible rfl
                      try simp only [Act.put, List.setIfInBounds_toArray, List.set_cons_zero, List.set_cons_succ]
                      refine wpAnyY_take (i := 3) (v := ?_) rfl (by kernel_rfl) (by kernel_rfl) (by kernel_rfl) (by kernel_rfl) (fun _ _ _ h => h) (Or.inl ⟨by kernel_rfl, ?_⟩) hS ?_
                      rotate_left
                      · intro w' hSw; go_simp; (try simp only [hleb]); with_reducible rfl
                      try simp only [Act.put, List.setIfInBounds_toArray, List.set_cons_zero, List.set_cons_succ]
                      refine wpAnyY_take (i := 4) (v := ?_) rfl (by kernel_rfl) (by kernel_rfl) (by kernel_rfl) (by kernel_rfl) (fun _ _ _ h => h) (Or.inl ⟨by kernel_rfl, ?_⟩) hS ?_
                      rotate_left
                      · intro w' hSw; go_simp; with_reducible rfl
                      try simp only [Act.put, List.setIfInBounds_toArray, List.set_cons_zero, List.set_cons_succ]
                      refine wpAnyY_take (i := 5) (v := ?_) rfl (by kernel_rfl) (by kernel_rfl) (by kernel_rfl) (by kernel_rfl) (fun _ _ _ h => h) (Or.inl ⟨by kernel_rfl, ?_⟩) hS ?_
                      rotate_left
                      · intro w' hSw; go_simp; with_reducible rfl
                      try simp only [Act.put, List.setIfInBounds_toArray, List.set_cons_zero, List.set_cons_succ]
                      refine wpAnyY_take (i := 6) (v := ?_) rfl (by kernel_rfl) (by kernel_rfl) (by kernel_rfl) (by kernel_rfl) (fun _ _ _ h => h) (Or.inl ⟨by kernel_rfl, ?_⟩) hS ?_
                      rotate_left
                      · intro w' hSw; go_simp; (try simp only [holb]); with_reducible rfl
                      try simp only [Act.put, List.setIfInBounds_toArray, List.set_cons_zero, List.set_cons_succ]
                      refine wpAnyY_take (i := 7) (v := ?_) rfl (by kernel_rfl) (by kernel_rfl) (by kernel_rfl) (by kernel_rfl) (fun _ _ _ h => h) (Or.inl ⟨by kernel_rfl, ?_⟩) hS ?_
                      rotate_left
                      · intro w' hSw; go_simp; with_reducible rfl
                      try simp only [Act.put, List.setIfInBounds_toArray, List.set_cons_zero, List.set_cons_succ]
                      refine wpAnyY_take (i := 8) (v := undef) rfl (by kernel_rfl) (by kernel_rfl) (by kernel_rfl) (by kernel_rfl) (fun _ _ _ h => h) (Or.inr ⟨by kernel_rfl, rfl⟩) hS ?_
                      try simp only [Act.put, List.setIfInBounds_toArray, List.set_cons_zero, List.set_cons_succ]
                      refine wpAnyY_take (i := 9) (v := undef) rfl (by kernel_rfl) (by kernel_rfl) (by kernel_rfl) (by kernel_rfl) (fun _ _ _ h => h) (Or.inr ⟨by kernel_rfl, rfl⟩) hS ?_
                      try simp only [Act.put, List.setIfInBounds_toArray, List.set_cons_zero, List.set_cons_succ]
                      refine wpAnyY_take (i := 10) (v := undef) rfl (by kernel_rfl) (by kernel_rfl) (by kernel_rfl) (by kernel_rfl) (fun _ _ _ h => h) (Or.inr ⟨by kernel_rfl, rfl⟩) hS ?_
                      try simp only [Act.put, List.setIfInBounds_toArray, List.set_cons_zero, List.set_cons_succ]
                      refine wpAnyY_take (i := 11) (v := undef) rfl (by kernel_rfl) (by kernel_rfl) (by kernel_rfl) (by kernel_rfl) (fun _ _ _ h => h) (Or.inr ⟨by kernel_rfl, rfl⟩) hS ?_
                      try simp only [Act.put, List.setIfInBounds_toArray, List.set_cons_zero, List.set_cons_succ]
                      refine wpAnyY_take (i := 12) (v := undef) rfl (by kernel_rfl) (by kernel_rfl) (by kernel_rfl) (by kernel_rfl) (fun _ _ _ h => h) (Or.inr ⟨by kernel_rfl, rfl⟩) hS ?_
                      try simp only [Act.put, List.setIfInBounds_toArray, List.set_cons_zero, List.set_cons_succ]
                      refine wpAnyY_take (i := 13) (v := undef) rfl (by kernel_rfl) (by kernel_rfl) (by kernel_rfl) (by kernel_rfl) (fun _ _ _ h => h) (Or.inr ⟨by kernel_rfl, rfl⟩) hS ?_
                      try simp only [Act.put, List.setIfInBounds_toArray, List.set_cons_zero, List.set_cons_succ]
                      refine wpAnyY_take (i := 14) (v := undef) rfl (by kernel_rfl) (by kernel_rfl) (by kernel_rfl) (by kernel_rfl) (fun _ _ _ h => h) (Or.inr ⟨by kernel_rfl, rfl⟩) hS ?_
                      try simp only [Act.put, List.setIfInBounds_toArray, List.set_cons_zero, List.set_cons_succ]
                      refine wpAnyY_take (i := 15) (v := undef) rfl (by kernel_rfl) (by kernel_rfl) (by kernel_rfl) (by kernel_rfl) (fun _ _ _ h => h) (Or.inr ⟨by kernel_rfl, rfl⟩) hS ?_
                      try simp only [Act.put, List.setIfInBounds_toArray, List.set_cons_zero, List.set_cons_succ]
                      refine wpAnyY_take (i := 16) (v := undef) rfl (by kernel_rfl) (by kernel_rfl) (by kernel_rfl) (by kernel_rfl) (fun _ _ _ h => h) (Or.inr ⟨by kernel_rfl, rfl⟩) hS ?_
                      try simp only [Act.put, List.setIfInBounds_toArray, List.set_cons_zero, List.set_cons_succ]
                      refine wpAnyY_take (i := 17) (v := undef) rfl (by kernel_rfl) (by kernel_rfl) (by kernel_rfl) (by kernel_rfl) (fun _ _ _ h => h) (Or.inr ⟨by kernel_rfl, rfl⟩) hS ?_
                      try simp only [Act.put, List.setIfInBounds_toArray, List.set_cons_zero, List.set_cons_succ]
                      refine wpAnyY_take (i := 18) (v := undef) rfl (by kernel_rfl) (by kernel_rfl) (by kernel_rfl) (by kernel_rfl) (fun _ _ _ h => h) (Or.inr ⟨by kernel_rfl, rfl⟩) hS ?_
                      try simp only [Act.put, List.setIfInBounds_toArray, List.set_cons_zero, List.set_cons_succ]
                      refine wpAnyY_take (i := 19) (v := undef) rfl (by kernel_rfl) (by kernel_rfl) (by kernel_rfl) (by kernel_rfl) (fun _ _ _ h => h) (Or.inr ⟨by kernel_rfl, rfl⟩) hS ?_
                      try simp only [Act.put, List.setIfInBounds_toArray, List.set_cons_zero, List.set_cons_succ]
                      refine wpAnyY_take (i := 20) (v := ?_) rfl (by kernel_rfl) (by kernel_rfl) (by kernel_rfl) (by kernel_rfl) (fun _ _ _ h => h) (Or.inl ⟨by kernel_rfl, ?_⟩) hS ?_
                      rotate_left
                      · intro w' hSw; go_simp; with_reducible rfl
                      try simp only [Act.put, List.setIfInBounds_toArray, List.set_cons_zero, List.set_cons_succ]
                      refine wpAnyY_oneW (i := 21) (by kernel_rfl) rfl (by kernel_rfl) (by kernel_rfl) (fun K21 hK21 => ?_)
                      go_simp
                      refine hK21.out _ _ ?_
                      try simp only [Act.put, List.setIfInBounds_toArray, List.set_cons_zero, List.set_cons_succ]
                      refine wpAnyY_done (by kernel_rfl) ?_ _
                      clear hK21
                      clear hS
                      have gzy : G wz wz.drew := (G.rf _).d
                      generalize wz.drew = wy at *
                      have gwy := gz.t gzy
                      have gky := hgz0.t gzy
                      have gwy0 := gx0.t gwy
                      have hSk : ∀ W', G wy W' → W'.cell? ⟨gR, r, none⟩ = some (.slice ra row.length rc) ∧ W'.cell? ⟨gA, k * 2, none⟩ = some (.int .i64 (px : Nat)) ∧ W'.cell? ⟨gA, k * 2 + 1, none⟩ = some (.int .i64 (py : Nat)) := fun W' hW => ⟨((bcellB (gwy.t hW)).1 gR _ hgR).trans Hcr.out, ((bcellB (gwy0.t hW)).1 gA _ hgA).trans hpt.1, ((bcellB (gwy0.t hW)).1 gA _ hgA).trans hpt.2⟩
                      have hsrc : ∀ W', G wy W' → (ra = none ∧ rc = 0 ∧ row = [] ∨ ∃ gq, ra = some ⟨gq, 0, none⟩ ∧ gq < W'.heap.size ∧ PtsAt W' gq row) := fun W' hW => by
                        rcases HSRC.out with h | ⟨gq, e, hgq, hp⟩
                        · exact .inl h
                        · exact .inr ⟨gq, e, Nat.lt_of_lt_of_le hgq (gwy.t hW).size, hp.keep hgq (gwy.t hW)⟩
                      obtain ⟨vs, r1, r2, r3⟩ := HV.out.keep gky
                      have HNW := Lib.hid (own_G HNo.out gky)
                      obtain ⟨RN, hRN⟩ : ∃ RN, RN = DN.map (·.1) := ⟨_, rfl⟩
                      rw [← hRN] at r1 r2 r3
                      have hRNl : RN.length ≤ 1000100 := by rw [hRN, List.length_map]; exact hDl2
                      have HD1 : Hid ((D ++ stp li old (row, ov) (P.take (k + 1))).map (·.1) = RN ++ [row ++ [(px, py)]]) := by
                        rw [Hid, HE.out, ← List.append_assoc, ← HDN.out, List.map_append, hRN]; rfl
                      have HD2 : Hid ((D ++ stp li old (row, ov) (P.take (k + 1))).length = DN.length + 1) := by
                        rw [Hid, HE.out, ← List.append_assoc, ← HDN.out, List.length_append]; rfl
                      have HD3 : Hid (intV ((D ++ stp li old (row, ov) (P.take (k + 1))).map (·.2)) = intV (DN.map (·.2)) ++ [.int .i64 nn]) := by
                        rw [Hid, HE.out, ← List.append_assoc, ← HDN.out, List.map_append, intV, List.map_append, Hn2.out]; rfl
                      have HV1 := Lib.hid r1
                      have HV2 := Lib.hid r2
                      have HV3 := Lib.hid r3
                      have HSN := Lib.hid (ptsV_snoc row (px, py))
                      have HLN : Hid ((row ++ [(px, py)]).length = row.length + 1) := by rw [Hid, List.length_append]; rfl
                      obtain ⟨i0, hi0, hz0, hz1, hz2⟩ := info_parts info27
                      obtain ⟨j0, hj0, hy0, hy1, hy2⟩ := info_parts info36
                      obtain ⟨k0, hk0, hx0, hx1, hx2⟩ := info_parts info3
                      have hrl : row.length ≤ 3 := by omega
                      clear r1 r2 r3 hRN HE HDN Hn2 HV HNo HSRC gzy hgz0 gz gz0 bz lz lzA lzR lzO
                      go_wp2
                      refine wp_region_Y (S := fun W' => W'.cell? ⟨gR, r, none⟩ = some (.slice ra row.length rc) ∧ W'.cell? ⟨gA, k * 2, none⟩ = some (.int .i64 (px : Nat)) ∧ W'.cell? ⟨gA, k * 2 + 1, none⟩ = some (.int .i64 (py : Nat))) 14 16 rfl (by kernel_rfl) (hSk _ (G.rf _).d) (fun hS => ?_)
                      have gd : G wy wy.drew := (G.rf _).d
                      refine wpAnyY_take (i := 0) (v := ?_) rfl (by kernel_rfl) (by kernel_rfl) (by kernel_rfl) (by kernel_rfl) (fun _ _ _ h => h) (Or.inl ⟨by kernel_rfl, ?_⟩) hS ?_
                      rotate_left
                      · intro w' hSw; go_simp; with_reducible rfl
                      try simp only [Act.put, List.setIfInBounds_toArray, List.set_cons_zero, List.set_cons_succ]
                      refine wpAnyY_take (i := 2) (v := ?_) rfl (by kernel_rfl) (by kernel_rfl) (by kernel_rfl) (by kernel_rfl) (fun _ _ _ h => h) (Or.inl ⟨by kernel_rfl, ?_⟩) hS ?_
                      rotate_left
                      · intro w' hSw; go_simp; with_reducible rfl
                      try simp only [Act.put, List.setIfInBounds_toArray, List.set_cons_zero, List.set_cons_succ]
                      refine wpAnyY_take (i := 3) (v := ?_) rfl (by kernel_rfl) (by kernel_rfl) (by kernel_rfl) (by kernel_rfl) (fun _ _ _ h => h) (Or.inl ⟨by kernel_rfl, ?_⟩) hS ?_
                      rotate_left
                      · intro w' hSw; go_simp; with_reducible rfl
                      try simp only [Act.put, List.setIfInBounds_toArray, List.set_cons_zero, List.set_cons_succ]
                      refine wpAnyY_take (i := 4) (v := ?_) rfl (by kernel_rfl) (by kernel_rfl) (by kernel_rfl) (by kernel_rfl) (fun _ _ _ h => h) (Or.inl ⟨by kernel_rfl, ?_⟩) hS ?_
                      rotate_left
                      · intro w' hSw; go_simp; with_reducible rfl
                      try simp only [Act.put, List.setIfInBounds_toArray, List.set_cons_zero, List.set_cons_succ]
                      refine wpAnyY_take (i := 5) (v := ?_) rfl (by kernel_rfl) (by kernel_rfl) (by kernel_rfl) (by kernel_rfl) (fun _ _ _ h => h) (Or.inl ⟨by kernel_rfl, ?_⟩) hS ?_
                      rotate_left
                      · intro w' hSw; obtain ⟨y0, y1, y2⟩ := hSw; go_simp; with_reducible rfl
                      try simp only [Act.put, List.setIfInBounds_toArray, List.set_cons_zero, List.set_cons_succ]
                      refine wpAnyY_take (i := 7) (v := ?_) rfl (by kernel_rfl) (by kernel_rfl) (by kernel_rfl) (by kernel_rfl) (fun _ _ _ h => h) (Or.inl ⟨by kernel_rfl, ?_⟩) hS ?_
                      rotate_left
                      · intro w' hSw; go_simp; with_reducible rfl
                      try simp only [Act.put, List.setIfInBounds_toArray, List.set_cons_zero, List.set_cons_succ]
                      refine wpAnyY_take (i := 8) (v := ?_) rfl (by kernel_rfl) (by kernel_rfl) (by kernel_rfl) (by kernel_rfl) (fun _ _ _ h => h) (Or.inl ⟨by kernel_rfl, ?_⟩) hS ?_
                      rotate_left
                      · intro w' hSw; go_simp; with_reducible rfl
                      try simp only [Act.put, List.setIfInBounds_toArray, List.set_cons_zero, List.set_cons_succ]
                      refine wpAnyY_take (i := 9) (v := ?_) rfl (by kernel_rfl) (by kernel_rfl) (by kernel_rfl) (by kernel_rfl) (fun _ _ _ h => h) (Or.inl ⟨by kernel_rfl, ?_⟩) hS ?_
                      rotate_left
                      · intro w' hSw; go_simp; with_reducible rfl
                      try simp only [Act.put, List.setIfInBounds_toArray, List.set_cons_zero, List.set_cons_succ]
                      refine wpAnyY_take (i := 10) (v := ?_) rfl (by kernel_rfl) (by kernel_rfl) (by kernel_rfl) (by kernel_rfl) (fun _ _ _ h => h) (Or.inl ⟨by kernel_rfl, ?_⟩) hS ?_
                      rotate_left
                      · intro w' hSw; obtain ⟨y0, y1, y2⟩ := hSw; go_simp; with_reducible rfl
                      try simp only [Act.put, List.setIfInBounds_toArray, List.set_cons_zero, List.set_cons_succ]
                      refine wpAnyY_twoSW (i := 1) (j := 11) (by kernel_rfl) rfl rfl (by kernel_rfl) (by kernel_rfl) (fun K1 hK1 => ?_) (fun K11 hK11 => ?_)
                      · go_simp
                        refine hK1.out _ _ (hSk _ (G.a gd (.cells #[] 27))) (fun hS => ?_)
                        try simp only [Act.put, List.setIfInBounds_toArray, List.set_cons_zero, List.set_cons_succ]
                        refine wpAnyY_twoSW (i := 6) (j := 11) (by kernel_rfl) rfl rfl (by kernel_rfl) (by kernel_rfl) (fun K6 hK6 => ?_) (fun K11 hK11 => ?_)
                        · have g6 := G.a gd (.cells #[] 27)
                          have b6 := Blk.newAt (show wy.drew.heap.size = wy.heap.size by simp) 27 #[]
                          refine wp_append_row _ _ rfl (wy.heap.size) wy.heap.size rfl b6 (by omega) rfl (hsrc _ g6) (by omega) ?_
                          intro v6 w6 hown6 hgr6 hkp6
                          have gw6 : G wy w6 := hgr6 wy g6 (Nat.le_refl _)
                          refine hK6.out _ _ (hSk _ gw6) (fun hS => ?_)
                          try simp only [Act.put, List.setIfInBounds_toArray, List.set_cons_zero, List.set_cons_succ]
                          refine wpAnyY_oneSW (i := 11) (by kernel_rfl) rfl (by kernel_rfl) (fun K11 hK11 => ?_)
                          go_simp
                          refine hK11.out _ _ (hSk _ (G.a gw6 (.cells #[.int .i64 (px : Nat), .int .i64 (py : Nat)] 27))) (fun hS => ?_)
                          try simp only [Act.put, List.setIfInBounds_toArray, List.set_cons_zero, List.set_cons_succ]
                          refine wpAnyY_oneSW (i := 12) (by kernel_rfl) rfl (by kernel_rfl) (fun K12 hK12 => ?_)
                          refine wp_append_own (w6.alloc (.cells #[.int .i64 (px : Nat), .int .i64 (py : Nat)] 27)) _ _ 36 rfl wy.heap.size 27 i0 _ 2 16 Try.underlying36 hi0 hz0 hz1 hz2 rfl (by decide) _ row.length (ptsV row) rfl (own_G hown6 ((G.rf w6).a (.cells #[.int .i64 (px : Nat), .int .i64 (py : Nat)] 27))) ⟨w6.heap.size, 0, none⟩ 1 1 [.int .i64 (px : Nat), .int .i64 (py : Nat)] rfl rfl (cells_two (Blk.new _ _ _)) (by simp [Value.oneCell']) (by unfold maxLen; omega) (by omega) (G.a gw6 (.cells #[.int .i64 (px : Nat), .int .i64 (py : Nat)] 27)).size ?_
                          intro v7 w7 hown7 hg7 _
                          have gw7 : G wy w7 := grow_own (G.a gw6 (.cells #[.int .i64 (px : Nat), .int .i64 (py : Nat)] 27)) (own_G hown6 ((G.rf w6).a (.cells #[.int .i64 (px : Nat), .int .i64 (py : Nat)] 27))) (Nat.le_refl _) hg7
                          obtain ⟨a7, c7, e7⟩ := own_slice hown7
                          rw [← HSN.out, ← HLN.out] at hown7
                          subst e7
                          have HO7 := Lib.hid hown7
                          clear hown7 hg7
                          refine hK12.out _ _ (hSk _ gw7) (fun hS => ?_)
                          try simp only [Act.put, List.setIfInBounds_toArray, List.set_cons_zero, List.set_cons_succ]
                          refine wpAnyY_oneSW (i := 13) (by kernel_rfl) rfl (by kernel_rfl) (fun K13 hK13 => ?_)
                          go_simp
                          refine hK13.out _ _ (hSk _ (gw7.a _)) (fun hS => ?_)
                          try simp only [Act.put, List.setIfInBounds_toArray, List.set_cons_zero, List.set_cons_succ]
                          have g13 : G wy (w7.alloc (.cells #[.slice a7 (row.length + 1) c7] 36)) := gw7.a _
                          refine wpAnyY_oneW (i := 14) (by kernel_rfl) rfl (by kernel_rfl) (by kernel_rfl) (fun K14 hK14 => ?_)
                          refine wp_append_own _ _ _ 103 rfl wx.heap.size 36 j0 (.slice none 0 0) 1 24 Try.underlying103 hj0 hy0 hy1 hy2 rfl (by decide) _ RN.length vs rfl (own_G HV2.out g13) ⟨w7.heap.size, 0, none⟩ 1 1 [.slice a7 (row.length + 1) c7] rfl rfl (cell_one_new _ _ _) (own_one7 HO7.out) (by unfold maxLen; omega) (by omega) (gwy.t g13).size ?_
                          intro v9 w9 hown9 hg9 _
                          have y1 : TRows w9 wx.heap.size v9 (RN ++ [row ++ [(px, py)]]) := TRows.snoc HV1.out (own_G HV2.out g13) (fun j hj => by obtain ⟨b, hb⟩ := HV3.out j hj; exact ⟨b, own_G hb g13⟩) (own_G HO7.out ((G.rf _).a _)) hown9 hg9
                          have y2 : G wx w9 := grow_own (gwy.t g13) (own_G HV2.out g13) (Nat.le_refl _) hg9
                          have y3 := (own_G HNW.out g13).kept hg9 (own_own (own_G HNW.out g13) (own_G HV2.out g13) (by decide))
                          have HY1 := Lib.hid y1
                          have HY3 := Lib.hid y3
                          clear y1 y3 hown9 hg9 HO7 gw7 g13 hS
                          refine hK14.out _ _ ?_
                          try simp only [Act.put, List.setIfInBounds_toArray, List.set_cons_zero, List.set_cons_succ]
                          refine wpAnyY_oneW (i := 15) (by kernel_rfl) rfl (by kernel_rfl) (by kernel_rfl) (fun K15 hK15 => ?_)
                          go_simp
                          refine hK15.out _ _ ?_
                          try simp only [Act.put, List.setIfInBounds_toArray, List.set_cons_zero, List.set_cons_succ]
                          refine wpAnyY_done (by kernel_rfl) ?_ _
                          clear hK12 hK13 hK14 hK15
                          go_wp2_with (at_builtin; refine wpList_append_own _ rfl _ _ 22 rfl wx.heap.size 3 k0 (.int .i64 0) 1 8 Try.underlying22 hk0 hx0 hx1 hx2 rfl (by decide) _ DN.length (intV (DN.map (·.2))) rfl ?hown ⟨_, 0, none⟩ 1 1 [.int .i64 nn] rfl rfl (cell_one_new _ _ _) (by simp [Value.oneCell']) (by unfold maxLen; omega) (by omega) ?hbase ?hrest)
                          case hown => exact own_G HY3.out ((G.rf _).a _)
                          case hbase => exact (y2.a _).size
                          case hrest =>
                            intro v8 w8 hown8 hg8 _
                            have gX : G w9 (w9.alloc (.cells #[.int .i64 nn] 3)) := (G.rf _).a _
                            have z1 : TRows w8 wx.heap.size v9 (RN ++ [row ++ [(px, py)]]) := ((HY1.out).keep gX).kept (own_G HY3.out gX) hg8
                            have z2 : G wx w8 := grow_own (y2.t gX) (own_G HY3.out gX) (Nat.le_refl _) hg8
                            have HZ1 := Lib.hid z1
                            have HZ3 := Lib.hid hown8
                            clear z1 hown8 hg8 gX y2 HY1 HY3
                            go_wp2
                            go_roundw
                            case rel => exact ⟨k + 1, by omega, by go_num, by rw [HD1.out]; exact HZ1.out, by rw [HD2.out, HD3.out]; exact HZ3.out, z2⟩
                            case measure => simp [intOf]; omega
                        · go_simp
                          refine hK11.out _ _ (hSk _ (G.a (G.a gd (.cells #[] 27)) (.cells #[.int .i64 (px : Nat), .int .i64 (py : Nat)] 27))) (fun hS => ?_)
                          try simp only [Act.put, List.setIfInBounds_toArray, List.set_cons_zero, List.set_cons_succ]
                          refine wpAnyY_oneSW (i := 6) (by kernel_rfl) rfl (by kernel_rfl) (fun K6 hK6 => ?_)
                          have g6 := G.a (G.a gd (.cells #[] 27)) (.cells #[.int .i64 (px : Nat), .int .i64 (py : Nat)] 27)
                          have b6 := (Blk.newAt (show wy.drew.heap.size = wy.heap.size by simp) 27 #[]).alloc (.cells #[.int .i64 (px : Nat), .int .i64 (py : Nat)] 27)
                          refine wp_append_row _ _ rfl (wy.heap.size) wy.heap.size rfl b6 (by omega) rfl (hsrc _ g6) (by omega) ?_
                          intro v6 w6 hown6 hgr6 hkp6
                          have gw6 : G wy w6 := hgr6 wy g6 (Nat.le_refl _)
                          refine hK6.out _ _ (hSk _ gw6) (fun hS => ?_)
                          try simp only [Act.put, List.setIfInBounds_toArray, List.set_cons_zero, List.set_cons_succ]
                          have b11 : Blk w6 (wy.heap.size + 1) 27 #[.int .i64 (px : Nat), .int .i64 (py : Nat)] := Blk.kept6 (hkp6 _ (by simp <;> omega) (by omega)) (Blk.newAt (by simp) _ _)
                          refine wpAnyY_oneSW (i := 12) (by kernel_rfl) rfl (by kernel_rfl) (fun K12 hK12 => ?_)
                          refine wp_append_own w6 _ _ 36 rfl wy.heap.size 27 i0 _ 2 16 Try.underlying36 hi0 hz0 hz1 hz2 rfl (by decide) _ row.length (ptsV row) rfl (hown6) ⟨wy.heap.size + 1, 0, none⟩ 1 1 [.int .i64 (px : Nat), .int .i64 (py : Nat)] rfl rfl (cells_two b11) (by simp [Value.oneCell']) (by unfold maxLen; omega) (by omega) (gw6).size ?_
                          intro v7 w7 hown7 hg7 _
                          have gw7 : G wy w7 := grow_own (gw6) (hown6) (Nat.le_refl _) hg7
                          obtain ⟨a7, c7, e7⟩ := own_slice hown7
                          rw [← HSN.out, ← HLN.out] at hown7
                          subst e7
                          have HO7 := Lib.hid hown7
                          clear hown7 hg7
                          refine hK12.out _ _ (hSk _ gw7) (fun hS => ?_)
                          try simp only [Act.put, List.setIfInBounds_toArray, List.set_cons_zero, List.set_cons_succ]
                          refine wpAnyY_oneSW (i := 13) (by kernel_rfl) rfl (by kernel_rfl) (fun K13 hK13 => ?_)
                          go_simp
                          refine hK13.out _ _ (hSk _ (gw7.a _)) (fun hS => ?_)
                          try simp only [Act.put, List.setIfInBounds_toArray, List.set_cons_zero, List.set_cons_succ]
                          have g13 : G wy (w7.alloc (.cells #[.slice a7 (row.length + 1) c7] 36)) := gw7.a _
                          refine wpAnyY_oneW (i := 14) (by kernel_rfl) rfl (by kernel_rfl) (by kernel_rfl) (fun K14 hK14 => ?_)
                          refine wp_append_own _ _ _ 103 rfl wx.heap.size 36 j0 (.slice none 0 0) 1 24 Try.underlying103 hj0 hy0 hy1 hy2 rfl (by decide) _ RN.length vs rfl (own_G HV2.out g13) ⟨w7.heap.size, 0, none⟩ 1 1 [.slice a7 (row.length + 1) c7] rfl rfl (cell_one_new _ _ _) (own_one7 HO7.out) (by unfold maxLen; omega) (by omega) (gwy.t g13).size ?_
                          intro v9 w9 hown9 hg9 _
                          have y1 : TRows w9 wx.heap.size v9 (RN ++ [row ++ [(px, py)]]) := TRows.snoc HV1.out (own_G HV2.out g13) (fun j hj => by obtain ⟨b, hb⟩ := HV3.out j hj; exact ⟨b, own_G hb g13⟩) (own_G HO7.out ((G.rf _).a _)) hown9 hg9
                          have y2 : G wx w9 := grow_own (gwy.t g13) (own_G HV2.out g13) (Nat.le_refl _) hg9
                          have y3 := (own_G HNW.out g13).kept hg9 (own_own (own_G HNW.out g13) (own_G HV2.out g13) (by decide))
                          have HY1 := Lib.hid y1
                          have HY3 := Lib.hid y3
                          clear y1 y3 hown9 hg9 HO7 gw7 g13 hS
                          refine hK14.out _ _ ?_
                          try simp only [Act.put, List.setIfInBounds_toArray, List.set_cons_zero, List.set_cons_succ]
                          refine wpAnyY_oneW (i := 15) (by kernel_rfl) rfl (by kernel_rfl) (by kernel_rfl) (fun K15 hK15 => ?_)
                          go_simp
                          refine hK15.out _ _ ?_
                          try simp only [Act.put, List.setIfInBounds_toArray, List.set_cons_zero, List.set_cons_succ]
                          refine wpAnyY_done (by kernel_rfl) ?_ _
                          clear hK12 hK13 hK14 hK15
                          go_wp2_with (at_builtin; refine wpList_append_own _ rfl _ _ 22 rfl wx.heap.size 3 k0 (.int .i64 0) 1 8 Try.underlying22 hk0 hx0 hx1 hx2 rfl (by decide) _ DN.length (intV (DN.map (·.2))) rfl ?hown ⟨_, 0, none⟩ 1 1 [.int .i64 nn] rfl rfl (cell_one_new _ _ _) (by simp [Value.oneCell']) (by unfold maxLen; omega) (by omega) ?hbase ?hrest)
                          case hown => exact own_G HY3.out ((G.rf _).a _)
                          case hbase => exact (y2.a _).size
                          case hrest =>
                            intro v8 w8 hown8 hg8 _
                            have gX : G w9 (w9.alloc (.cells #[.int .i64 nn] 3)) := (G.rf _).a _
                            have z1 : TRows w8 wx.heap.size v9 (RN ++ [row ++ [(px, py)]]) := ((HY1.out).keep gX).kept (own_G HY3.out gX) hg8
                            have z2 : G wx w8 := grow_own (y2.t gX) (own_G HY3.out gX) (Nat.le_refl _) hg8
                            have HZ1 := Lib.hid z1
                            have HZ3 := Lib.hid hown8
                            clear z1 hown8 hg8 gX y2 HY1 HY3
                            go_wp2
                            go_roundw
                            case rel => exact ⟨k + 1, by omega, by go_num, by rw [HD1.out]; exact HZ1.out, by rw [HD2.out, HD3.out]; exact HZ3.out, z2⟩
                            case measure => simp [intOf]; omega
                      · go_simp
                        refine hK11.out _ _ (hSk _ (G.a gd (.cells #[.int .i64 (px : Nat), .int .i64 (py : Nat)] 27))) (fun hS => ?_)
                        try simp only [Act.put, List.setIfInBounds_toArray, List.set_cons_zero, List.set_cons_succ]
                        refine wpAnyY_oneSW (i := 1) (by kernel_rfl) rfl (by kernel_rfl) (fun K1 hK1 => ?_)
                        go_simp
                        refine hK1.out _ _ (hSk _ (G.a (G.a gd (.cells #[.int .i64 (px : Nat), .int .i64 (py : Nat)] 27)) (.cells #[] 27))) (fun hS => ?_)
                        try simp only [Act.put, List.setIfInBounds_toArray, List.set_cons_zero, List.set_cons_succ]
                        refine wpAnyY_oneSW (i := 6) (by kernel_rfl) rfl (by kernel_rfl) (fun K6 hK6 => ?_)
                        have g6 := G.a (G.a gd (.cells #[.int .i64 (px : Nat), .int .i64 (py : Nat)] 27)) (.cells #[] 27)
                        have b6 := Blk.newAt (show (wy.drew.alloc (.cells #[.int .i64 (px : Nat), .int .i64 (py : Nat)] 27)).heap.size = wy.heap.size + 1 by simp) 27 #[]
                        refine wp_append_row _ _ rfl (wy.heap.size + 1) wy.heap.size rfl b6 (by omega) rfl (hsrc _ g6) (by omega) ?_
                        intro v6 w6 hown6 hgr6 hkp6
                        have gw6 : G wy w6 := hgr6 wy g6 (Nat.le_refl _)
                        refine hK6.out _ _ (hSk _ gw6) (fun hS => ?_)
                        try simp only [Act.put, List.setIfInBounds_toArray, List.set_cons_zero, List.set_cons_succ]
                        have b11 : Blk w6 wy.heap.size 27 #[.int .i64 (px : Nat), .int .i64 (py : Nat)] := Blk.kept6 (hkp6 _ (by simp <;> omega) (by omega)) ((Blk.newAt (show wy.drew.heap.size = wy.heap.size by simp) 27 #[.int .i64 (px : Nat), .int .i64 (py : Nat)]).alloc (.cells #[] 27))
                        refine wpAnyY_oneSW (i := 12) (by kernel_rfl) rfl (by kernel_rfl) (fun K12 hK12 => ?_)
                        refine wp_append_own w6 _ _ 36 rfl wy.heap.size 27 i0 _ 2 16 Try.underlying36 hi0 hz0 hz1 hz2 rfl (by decide) _ row.length (ptsV row) rfl (hown6) ⟨wy.heap.size, 0, none⟩ 1 1 [.int .i64 (px : Nat), .int .i64 (py : Nat)] rfl rfl (cells_two b11) (by simp [Value.oneCell']) (by unfold maxLen; omega) (by omega) (gw6).size ?_
                        intro v7 w7 hown7 hg7 _
                        have gw7 : G wy w7 := grow_own (gw6) (hown6) (Nat.le_refl _) hg7
                        obtain ⟨a7, c7, e7⟩ := own_slice hown7
                        rw [← HSN.out, ← HLN.out] at hown7
                        subst e7
                        have HO7 := Lib.hid hown7
                        clear hown7 hg7
                        refine hK12.out _ _ (hSk _ gw7) (fun hS => ?_)
                        try simp only [Act.put, List.setIfInBounds_toArray, List.set_cons_zero, List.set_cons_succ]
                        refine wpAnyY_oneSW (i := 13) (by kernel_rfl) rfl (by kernel_rfl) (fun K13 hK13 => ?_)
                        go_simp
                        refine hK13.out _ _ (hSk _ (gw7.a _)) (fun hS => ?_)
                        try simp only [Act.put, List.setIfInBounds_toArray, List.set_cons_zero, List.set_cons_succ]
                        have g13 : G wy (w7.alloc (.cells #[.slice a7 (row.length + 1) c7] 36)) := gw7.a _
                        refine wpAnyY_oneW (i := 14) (by kernel_rfl) rfl (by kernel_rfl) (by kernel_rfl) (fun K14 hK14 => ?_)
                        refine wp_append_own _ _ _ 103 rfl wx.heap.size 36 j0 (.slice none 0 0) 1 24 Try.underlying103 hj0 hy0 hy1 hy2 rfl (by decide) _ RN.length vs rfl (own_G HV2.out g13) ⟨w7.heap.size, 0, none⟩ 1 1 [.slice a7 (row.length + 1) c7] rfl rfl (cell_one_new _ _ _) (own_one7 HO7.out) (by unfold maxLen; omega) (by omega) (gwy.t g13).size ?_
                        intro v9 w9 hown9 hg9 _
                        have y1 : TRows w9 wx.heap.size v9 (RN ++ [row ++ [(px, py)]]) := TRows.snoc HV1.out (own_G HV2.out g13) (fun j hj => by obtain ⟨b, hb⟩ := HV3.out j hj; exact ⟨b, own_G hb g13⟩) (own_G HO7.out ((G.rf _).a _)) hown9 hg9
                        have y2 : G wx w9 := grow_own (gwy.t g13) (own_G HV2.out g13) (Nat.le_refl _) hg9
                        have y3 := (own_G HNW.out g13).kept hg9 (own_own (own_G HNW.out g13) (own_G HV2.out g13) (by decide))
                        have HY1 := Lib.hid y1
                        have HY3 := Lib.hid y3
                        clear y1 y3 hown9 hg9 HO7 gw7 g13 hS
                        refine hK14.out _ _ ?_
                        try simp only [Act.put, List.setIfInBounds_toArray, List.set_cons_zero, List.set_cons_succ]
                        refine wpAnyY_oneW (i := 15) (by kernel_rfl) rfl (by kernel_rfl) (by kernel_rfl) (fun K15 hK15 => ?_)
                        go_simp
                        refine hK15.out _ _ ?_
                        try simp only [Act.put, List.setIfInBounds_toArray, List.set_cons_zero, List.set_cons_succ]
                        refine wpAnyY_done (by kernel_rfl) ?_ _
                        clear hK12 hK13 hK14 hK15
                        go_wp2_with (at_builtin; refine wpList_append_own _ rfl _ _ 22 rfl wx.heap.size 3 k0 (.int .i64 0) 1 8 Try.underlying22 hk0 hx0 hx1 hx2 rfl (by decide) _ DN.length (intV (DN.map (·.2))) rfl ?hown ⟨_, 0, none⟩ 1 1 [.int .i64 nn] rfl rfl (cell_one_new _ _ _) (by simp [Value.oneCell']) (by unfold maxLen; omega) (by omega) ?hbase ?hrest)
                        case hown => exact own_G HY3.out ((G.rf _).a _)
                        case hbase => exact (y2.a _).size
                        case hrest =>
                          intro v8 w8 hown8 hg8 _
                          have gX : G w9 (w9.alloc (.cells #[.int .i64 nn] 3)) := (G.rf _).a _
                          have z1 : TRows w8 wx.heap.size v9 (RN ++ [row ++ [(px, py)]]) := ((HY1.out).keep gX).kept (own_G HY3.out gX) hg8
                          have z2 : G wx w8 := grow_own (y2.t gX) (own_G HY3.out gX) (Nat.le_refl _) hg8
                          have HZ1 := Lib.hid z1
                          have HZ3 := Lib.hid hown8
                          clear z1 hown8 hg8 gX y2 HY1 HY3
                          go_wp2
                          go_roundw
                          case rel => exact ⟨k + 1, by omega, by go_num, by rw [HD1.out]; exact HZ1.out, by rw [HD2.out, HD3.out]; exact HZ3.out, z2⟩
                          case measure => simp [intOf]; omega
                    · have hokt : okA li old (row, ov) (px, py) = false := by rw [Hok.out, Hn2.out]; simp [hle]
                      have hleb : decide (nn ≤ wrong) = false := decide_eq_false hle
                      have holb : decide (old < 0) = true := decide_eq_true hold
                      have HE := Lib.hid (Hsn.out.trans (if_neg (by rw [hokt]; simp)))
                      clear Hok Hsn hokt
                      have hS26 : ∀ W', G wz W' → W'.cell? ⟨w.heap.size, 5, none⟩ = some (.int .i64 wrong) ∧ True := fun W' hW => ⟨((bcellB hW).1 _ _ lz).trans cz, trivial⟩
                      go_wp2
                      refine wp_region_Y (S := fun W' => W'.cell? ⟨w.heap.size, 5, none⟩ = some (.int .i64 wrong) ∧ True) 21 22 rfl (by kernel_rfl) (hS26 _ (G.rf _).d) (fun hS => ?_)
                      clear cz hS26
                      refine wpAnyY_take (i := 0) (v := ?_) rfl (by kernel_rfl) (by kernel_rfl) (by kernel_rfl) (by kernel_rfl) (fun _ _ _ h => h) (Or.inl ⟨by kernel_rfl, ?_⟩) hS ?_
                      rotate_left
                      · intro w' hSw; go_simp; with_reducible rfl
                      try simp only [Act.put, List.setIfInBounds_toArray, List.set_cons_zero, List.set_cons_succ]
                      refine wpAnyY_take (i := 1) (v := ?_) rfl (by kernel_rfl) (by kernel_rfl) (by kernel_rfl) (by kernel_rfl) (fun _ _ _ h => h) (Or.inl ⟨by kernel_rfl, ?_⟩) hS ?_
                      rotate_left
                      · intro w' hSw; go_simp; with_reducible rfl
                      try simp only [Act.put, List.setIfInBounds_toArray, List.set_cons_zero, List.set_cons_succ]
                      refine wpAnyY_take (i := 2) (v := ?_) rfl (by kernel_rfl) (by kernel_rfl) (by kernel_rfl) (by kernel_rfl) (fun _ _ _ h => h) (Or.inl ⟨by kernel_rfl, ?_⟩) hS ?_
                      rotate_left
                      · intro w' hSw; obtain ⟨y0, y1⟩ := hSw; go_simp; with_reducible rfl
                      try simp only [Act.put, List.setIfInBounds_toArray, List.set_cons_zero, List.set_cons_succ]
                      refine wpAnyY_take (i := 3) (v := ?_) rfl (by kernel_rfl) (by kernel_rfl) (by kernel_rfl) (by kernel_rfl) (fun _ _ _ h => h) (Or.inl ⟨by kernel_rfl, ?_⟩) hS ?_
                      rotate_left
                      · intro w' hSw; go_simp; (try simp only [hleb]); with_reducible rfl
                      try simp only [Act.put, List.setIfInBounds_toArray, List.set_cons_zero, List.set_cons_succ]
                      refine wpAnyY_take (i := 4) (v := ?_) rfl (by kernel_rfl) (by kernel_rfl) (by kernel_rfl) (by kernel_rfl) (fun _ _ _ h => h) (Or.inl ⟨by kernel_rfl, ?_⟩) hS ?_
                      rotate_left
                      · intro w' hSw; go_simp; with_reducible rfl
                      try simp only [Act.put, List.setIfInBounds_toArray, List.set_cons_zero, List.set_cons_succ]
                      refine wpAnyY_take (i := 5) (v := undef) rfl (by kernel_rfl) (by kernel_rfl) (by kernel_rfl) (by kernel_rfl) (fun _ _ _ h => h) (Or.inr ⟨by kernel_rfl, rfl⟩) hS ?_
                      try simp only [Act.put, List.setIfInBounds_toArray, List.set_cons_zero, List.set_cons_succ]
                      refine wpAnyY_take (i := 6) (v := undef) rfl (by kernel_rfl) (by kernel_rfl) (by kernel_rfl) (by kernel_rfl) (fun _ _ _ h => h) (Or.inr ⟨by kernel_rfl, rfl⟩) hS ?_
                      try simp only [Act.put, List.setIfInBounds_toArray, List.set_cons_zero, List.set_cons_succ]
                      refine wpAnyY_take (i := 7) (v := undef) rfl (by kernel_rfl) (by kernel_rfl) (by kernel_rfl) (by kernel_rfl) (fun _ _ _ h => h) (Or.inr ⟨by kernel_rfl, rfl⟩) hS ?_
                      try simp only [Act.put, List.setIfInBounds_toArray, List.set_cons_zero, List.set_cons_succ]
                      refine wpAnyY_take (i := 8) (v := undef) rfl (by kernel_rfl) (by kernel_rfl) (by kernel_rfl) (by kernel_rfl) (fun _ _ _ h => h) (Or.inr ⟨by kernel_rfl, rfl⟩) hS ?_
                      try simp only [Act.put, List.setIfInBounds_toArray, List.set_cons_zero, List.set_cons_succ]
                      refine wpAnyY_take (i := 9) (v := undef) rfl (by kernel_rfl) (by kernel_rfl) (by kernel_rfl) (by kernel_rfl) (fun _ _ _ h => h) (Or.inr ⟨by kernel_rfl, rfl⟩) hS ?_
                      try simp only [Act.put, List.setIfInBounds_toArray, List.set_cons_zero, List.set_cons_succ]
                      refine wpAnyY_take (i := 10) (v := undef) rfl (by kernel_rfl) (by kernel_rfl) (by kernel_rfl) (by kernel_rfl) (fun _ _ _ h => h) (Or.inr ⟨by kernel_rfl, rfl⟩) hS ?_
                      try simp only [Act.put, List.setIfInBounds_toArray, List.set_cons_zero, List.set_cons_succ]
                      refine wpAnyY_take (i := 11) (v := undef) rfl (by kernel_rfl) (by kernel_rfl) (by kernel_rfl) (by kernel_rfl) (fun _ _ _ h => h) (Or.inr ⟨by kernel_rfl, rfl⟩) hS ?_
                      try simp only [Act.put, List.setIfInBounds_toArray, List.set_cons_zero, List.set_cons_succ]
                      refine wpAnyY_take (i := 12) (v := undef) rfl (by kernel_rfl) (by kernel_rfl) (by kernel_rfl) (by kernel_rfl) (fun _ _ _ h => h) (Or.inr ⟨by kernel_rfl, rfl⟩) hS ?_
                      try simp only [Act.put, List.setIfInBounds_toArray, List.set_cons_zero, List.set_cons_succ]
                      refine wpAnyY_take (i := 13) (v := undef) rfl (by kernel_rfl) (by kernel_rfl) (by kernel_rfl) (by kernel_rfl) (fun _ _ _ h => h) (Or.inr ⟨by kernel_rfl, rfl⟩) hS ?_
                      try simp only [Act.put, List.setIfInBounds_toArray, List.set_cons_zero, List.set_cons_succ]
                      refine wpAnyY_take (i := 14) (v := undef) rfl (by kernel_rfl) (by kernel_rfl) (by kernel_rfl) (by kernel_rfl) (fun _ _ _ h => h) (Or.inr ⟨by kernel_rfl, rfl⟩) hS ?_
                      try simp only [Act.put, List.setIfInBounds_toArray, List.set_cons_zero, List.set_cons_succ]
                      refine wpAnyY_take (i := 15) (v := undef) rfl (by kernel_rfl) (by kernel_rfl) (by kernel_rfl) (by kernel_rfl) (fun _ _ _ h => h) (Or.inr ⟨by kernel_rfl, rfl⟩) hS ?_
                      try simp only [Act.put, List.setIfInBounds_toArray, List.set_cons_zero, List.set_cons_succ]
                      refine wpAnyY_take (i := 16) (v := undef) rfl (by kernel_rfl) (by kernel_rfl) (by kernel_rfl) (by kernel_rfl) (fun _ _ _ h => h) (Or.inr ⟨by kernel_rfl, rfl⟩) hS ?_
                      try simp only [Act.put, List.setIfInBounds_toArray, List.set_cons_zero, List.set_cons_succ]
                      refine wpAnyY_take (i := 17) (v := undef) rfl (by kernel_rfl) (by kernel_rfl) (by kernel_rfl) (by kernel_rfl) (fun _ _ _ h => h) (Or.inr ⟨by kernel_rfl, rfl⟩) hS ?_
                      try simp only [Act.put, List.setIfInBounds_toArray, List.set_cons_zero, List.set_cons_succ]
                      refine wpAnyY_take (i := 18) (v := undef) rfl (by kernel_rfl) (by kernel_rfl) (by kernel_rfl) (by kernel_rfl) (fun _ _ _ h => h) (Or.inr ⟨by kernel_rfl, rfl⟩) hS ?_
                      try simp only [Act.put, List.setIfInBounds_toArray, List.set_cons_zero, List.set_cons_succ]
                      refine wpAnyY_take (i := 19) (v := undef) rfl (by kernel_rfl) (by kernel_rfl) (by kernel_rfl) (by kernel_rfl) (fun _ _ _ h => h) (Or.inr ⟨by kernel_rfl, rfl⟩) hS ?_
                      try simp only [Act.put, List.setIfInBounds_toArray, List.set_cons_zero, List.set_cons_succ]
                      refine wpAnyY_take (i := 20) (v := undef) rfl (by kernel_rfl) (by kernel_rfl) (by kernel_rfl) (by kernel_rfl) (fun _ _ _ h => h) (Or.inr ⟨by kernel_rfl, rfl⟩) hS ?_
                      try simp only [Act.put, List.setIfInBounds_toArray, List.set_cons_zero, List.set_cons_succ]
                      refine wpAnyY_oneW (i := 21) (by kernel_rfl) rfl (by kernel_rfl) (by kernel_rfl) (fun K21 hK21 => ?_)
                      go_simp
                      refine hK21.out _ _ ?_
                      try simp only [Act.put, List.setIfInBounds_toArray, List.set_cons_zero, List.set_cons_succ]
                      refine wpAnyY_done (by kernel_rfl) ?_ _
                      clear hK21
                      clear hS
                      have gzy : G wz wz.drew := (G.rf _).d
                      generalize wz.drew = wy at *
                      have gwy := gz.t gzy
                      have gky := hgz0.t gzy
                      go_wp2
                      go_roundw
                      case rel => exact ⟨k + 1, by omega, by go_num, by rw [HE.out, ← HDN.out]; exact HV.out.keep gky, by rw [HE.out, ← HDN.out]; exact own_G HNo.out gky, gwy⟩
                      case measure => simp [intOf]; omega
                  · have Hn2 := Lib.hid (Hnt.out.trans (if_pos (by omega)))
                    clear Hnt HNN
                    obtain ⟨on, rfl⟩ := Int.eq_ofNat_of_zero_le (show 0 ≤ old by omega)
                    have honr : on < row.length := by omega
                    have honi : (on : Int) < row.length := by omega
                    rcases HSRC.out with ⟨_, _, h⟩ | ⟨gj, rfl, hgj, hpj⟩
                    · rw [h] at honr; simp at honr
                    have lzj := Nat.lt_of_lt_of_le hgj gz.size
                    have czr := ((bcellB gz).1 gR _ hgR).trans Hcr.out
                    obtain ⟨czx, czy⟩ := hpj.keep hgj gz on honr
                    have cz0 := ((bcellB gz0).1 gA _ hgA).trans hpt.1
                    have cz1 := ((bcellB gz0).1 gA _ hgA).trans hpt.2
                    have co2 := ((bcellB gz).1 gO _ hgO).trans Hco.out
                    have hokd : okA li (on : Int) (row, ov) (px, py) = (row.getD on (0, 0) == (px, py)) := by rw [Hok.out, Hn2.out]; simp [x5, show ¬ ((on : Int) < 0) by omega]
                    generalize row.getD on (0, 0) = qq at *
                    obtain ⟨qx, qy⟩ := qq
                    simp only at czx czy
                    have qe := eq27 (qx : Int) qy px py
                    have hleb : decide (ov ≤ wrong) = true := decide_eq_true x5
                    have holb : decide ((on : Int) < 0) = false := decide_eq_false (by omega)
                    by_cases hqp : qx = px ∧ qy = py
                    · obtain ⟨rfl, rfl⟩ := hqp
                      have hokt : okA li (on : Int) (row, ov) (qx, qy) = true := by rw [hokd]; simp
                      have HE := Lib.hid (Hsn.out.trans (if_pos hokt))
                      have qb : (((qx : Nat) : Int) == qx && ((qy : Nat) : Int) == qy) = true := by simp
                      rw [qb] at qe
                      clear Hok Hsn hokt hokd qb
                      have hS26 : ∀ W', G wz W' → W'.cell? ⟨w.heap.size, 5, none⟩ = some (.int .i64 wrong) ∧ W'.cell? ⟨gR, r, none⟩ = some (.slice (some ⟨gj, 0, none⟩) row.length rc) ∧ W'.cell? ⟨gj, on * 2, none⟩ = some (.int .i64 (qx : Nat)) ∧ W'.cell? ⟨gj, on * 2 + 1, none⟩ = some (.int .i64 (qy : Nat)) ∧ W'.cell? ⟨gA, k * 2, none⟩ = some (.int .i64 (qx : Nat)) ∧ W'.cell? ⟨gA, k * 2 + 1, none⟩ = some (.int .i64 (qy : Nat)) := fun W' hW => ⟨((bcellB hW).1 _ _ lz).trans cz, ((bcellB hW).1 gR _ lzR).trans czr, ((bcellB hW).1 gj _ lzj).trans czx, ((bcellB hW).1 gj _ lzj).trans czy, ((bcellB hW).1 gA _ lzA).trans cz0, ((bcellB hW).1 gA _ lzA).trans cz1⟩
                      go_wp2
                      refine wp_region_Y (S := fun W' => W'.cell? ⟨w.heap.size, 5, none⟩ = some (.int .i64 wrong) ∧ W'.cell? ⟨gR, r, none⟩ = some (.slice (some ⟨gj, 0, none⟩) row.length rc) ∧ W'.cell? ⟨gj, on * 2, none⟩ = some (.int .i64 (qx : Nat)) ∧ W'.cell? ⟨gj, on * 2 + 1, none⟩ = some (.int .i64 (qy : Nat)) ∧ W'.cell? ⟨gA, k * 2, none⟩ = some (.int .i64 (qx : Nat)) ∧ W'.cell? ⟨gA, k * 2 + 1, none⟩ = some (.int .i64 (qy : Nat))) 21 22 rfl (by kernel_rfl) (hS26 _ (G.rf _).d) (fun hS => ?_)
                      clear cz czr czx czy cz0 cz1 hS26
                      refine wpAnyY_take (i := 0) (v := ?_) rfl (by kernel_rfl) (by kernel_rfl) (by kernel_rfl) (by kernel_rfl) (fun _ _ _ h => h) (Or.inl ⟨by kernel_rfl, ?_⟩) hS ?_
                      rotate_left
                      · intro w' hSw; go_simp; with_reducible rfl
                      try simp only [Act.put, List.setIfInBounds_toArray, List.set_cons_zero, List.set_cons_succ]
                      refine wpAnyY_take (i := 1) (v := ?_) rfl (by kernel_rfl) (by kernel_rfl) (by kernel_rfl) (by kernel_rfl) (fun _ _ _ h => h) (Or.inl ⟨by kernel_rfl, ?_⟩) hS ?_
                      rotate_left
                      · intro w' hSw; go_simp; with_reducible rfl
                      try simp only [Act.put, List.setIfInBounds_toArray, List.set_cons_zero, List.set_cons_succ]
                      refine wpAnyY_take (i := 2) (v := ?_) rfl (by kernel_rfl) (by kernel_rfl) (by kernel_rfl) (by kernel_rfl) (fun _ _ _ h => h) (Or.inl ⟨by kernel_rfl, ?_⟩) hS ?_
                      rotate_left
                      · intro w' hSw; obtain ⟨y0, y1⟩ := hSw; go_simp; with_reducible rfl
                      try simp only [Act.put, List.setIfInBounds_toArray, List.set_cons_zero, List.set_cons_succ]
                      refine wpAnyY_take (i := 3) (v := ?_) rfl (by kernel_rfl) (by kernel_rfl) (by kernel_rfl) (by kernel_rfl) (fun _ _ _ h => h) (Or.inl ⟨by kernel_rfl, ?_⟩) hS ?_
                      rotate_left
                      · intro w' hSw; go_simp; (try simp only [hleb]); with_reducible rfl
                      try simp only [Act.put, List.setIfInBounds_toArray, List.set_cons_zero, List.set_cons_succ]
                      refine wpAnyY_take (i := 4) (v := ?_) rfl (by kernel_rfl) (by kernel_rfl) (by kernel_rfl) (by kernel_rfl) (fun _ _ _ h => h) (Or.inl ⟨by kernel_rfl, ?_⟩) hS ?_
                      rotate_left
                      · intro w' hSw; go_simp; with_reducible rfl
                      try simp only [Act.put, List.setIfInBounds_toArray, List.set_cons_zero, List.set_cons_succ]
                      refine wpAnyY_take (i := 5) (v := ?_) rfl (by kernel_rfl) (by kernel_rfl) (by kernel_rfl) (by kernel_rfl) (fun _ _ _ h => h) (Or.inl ⟨by kernel_rfl, ?_⟩) hS ?_
                      rotate_left
                      · intro w' hSw; go_simp; with_reducible rfl
                      try simp only [Act.put, List.setIfInBounds_toArray, List.set_cons_zero, List.set_cons_succ]
                      refine wpAnyY_take (i := 6) (v := ?_) rfl (by kernel_rfl) (by kernel_rfl) (by kernel_rfl) (by kernel_rfl) (fun _ _ _ h => h) (Or.inl ⟨by kernel_rfl, ?_⟩) hS ?_
                      rotate_left
                      · intro w' hSw; go_simp; (try simp only [holb]); with_reducible rfl
                      try simp only [Act.put, List.setIfInBounds_toArray, List.set_cons_zero, List.set_cons_succ]
                      refine wpAnyY_take (i := 7) (v := ?_) rfl (by kernel_rfl) (by kernel_rfl) (by kernel_rfl) (by kernel_rfl) (fun _ _ _ h => h) (Or.inl ⟨by kernel_rfl, ?_⟩) hS ?_
                      rotate_left
                      · intro w' hSw; go_simp; with_reducible rfl
                      try simp only [Act.put, List.setIfInBounds_toArray, List.set_cons_zero, List.set_cons_succ]
                      refine wpAnyY_take (i := 8) (v := ?_) rfl (by kernel_rfl) (by kernel_rfl) (by kernel_rfl) (by kernel_rfl) (fun _ _ _ h => h) (Or.inl ⟨by kernel_rfl, ?_⟩) hS ?_
                      rotate_left
                      · intro w' hSw; go_simp; with_reducible rfl
                      try simp only [Act.put, List.setIfInBounds_toArray, List.set_cons_zero, List.set_cons_succ]
                      refine wpAnyY_take (i := 9) (v := ?_) rfl (by kernel_rfl) (by kernel_rfl) (by kernel_rfl) (by kernel_rfl) (fun _ _ _ h => h) (Or.inl ⟨by kernel_rfl, ?_⟩) hS ?_
                      rotate_left
                      · intro w' hSw; go_simp; with_reducible rfl
                      try simp only [Act.put, List.setIfInBounds_toArray, List.set_cons_zero, List.set_cons_succ]
                      refine wpAnyY_take (i := 10) (v := ?_) rfl (by kernel_rfl) (by kernel_rfl) (by kernel_rfl) (by kernel_rfl) (fun _ _ _ h => h) (Or.inl ⟨by kernel_rfl, ?_⟩) hS ?_
                      rotate_left
                      · intro w' hSw; go_simp; with_reducible rfl
                      try simp only [Act.put, List.setIfInBounds_toArray, List.set_cons_zero, List.set_cons_succ]
                      refine wpAnyY_take (i := 11) (v := ?_) rfl (by kernel_rfl) (by kernel_rfl) (by kernel_rfl) (by kernel_rfl) (fun _ _ _ h => h) (Or.inl ⟨by kernel_rfl, ?_⟩) hS ?_
                      rotate_left
                      · intro w' hSw; obtain ⟨y0, y1, y2, y3, y4, y5⟩ := hSw; go_simp; with_reducible rfl
                      try simp only [Act.put, List.setIfInBounds_toArray, List.set_cons_zero, List.set_cons_succ]
                      refine wpAnyY_take (i := 12) (v := ?_) rfl (by kernel_rfl) (by kernel_rfl) (by kernel_rfl) (by kernel_rfl) (fun _ _ _ h => h) (Or.inl ⟨by kernel_rfl, ?_⟩) hS ?_
                      rotate_left
                      · intro w' hSw; go_simp; with_reducible rfl
                      try simp only [Act.put, List.setIfInBounds_toArray, List.set_cons_zero, List.set_cons_succ]
                      refine wpAnyY_take (i := 13) (v := ?_) rfl (by kernel_rfl) (by kernel_rfl) (by kernel_rfl) (by kernel_rfl) (fun _ _ _ h => h) (Or.inl ⟨by kernel_rfl, ?_⟩) hS ?_
                      rotate_left
                      · intro w' hSw; go_simp; with_reducible rfl
                      try simp only [Act.put, List.setIfInBounds_toArray, List.set_cons_zero, List.set_cons_succ]
                      refine wpAnyY_take (i := 14) (v := ?_) rfl (by kernel_rfl) (by kernel_rfl) (by kernel_rfl) (by kernel_rfl) (fun _ _ _ h => h) (Or.inl ⟨by kernel_rfl, ?_⟩) hS ?_
                      rotate_left
                      · intro w' hSw; obtain ⟨y0, y1, y2, y3, y4, y5⟩ := hSw; go_simp; with_reducible rfl
                      try simp only [Act.put, List.setIfInBounds_toArray, List.set_cons_zero, List.set_cons_succ]
                      refine wpAnyY_take (i := 15) (v := ?_) rfl (by kernel_rfl) (by kernel_rfl) (by kernel_rfl) (by kernel_rfl) (fun _ _ _ h => h) (Or.inl ⟨by kernel_rfl, ?_⟩) hS ?_
                      rotate_left
                      · intro w' hSw; go_simp; with_reducible rfl
                      try simp only [Act.put, List.setIfInBounds_toArray, List.set_cons_zero, List.set_cons_succ]
                      refine wpAnyY_take (i := 16) (v := ?_) rfl (by kernel_rfl) (by kernel_rfl) (by kernel_rfl) (by kernel_rfl) (fun _ _ _ h => h) (Or.inl ⟨by kernel_rfl, ?_⟩) hS ?_
                      rotate_left
                      · intro w' hSw; go_simp; with_reducible rfl
                      try simp only [Act.put, List.setIfInBounds_toArray, List.set_cons_zero, List.set_cons_succ]
                      refine wpAnyY_take (i := 17) (v := ?_) rfl (by kernel_rfl) (by kernel_rfl) (by kernel_rfl) (by kernel_rfl) (fun _ _ _ h => h) (Or.inl ⟨by kernel_rfl, ?_⟩) hS ?_
                      rotate_left
                      · intro w' hSw; go_simp; with_reducible rfl
                      try simp only [Act.put, List.setIfInBounds_toArray, List.set_cons_zero, List.set_cons_succ]
                      refine wpAnyY_take (i := 18) (v := ?_) rfl (by kernel_rfl) (by kernel_rfl) (by kernel_rfl) (by kernel_rfl) (fun _ _ _ h => h) (Or.inl ⟨by kernel_rfl, ?_⟩) hS ?_
                      rotate_left
                      · intro w' hSw; obtain ⟨y0, y1, y2, y3, y4, y5⟩ := hSw; go_simp; with_reducible rfl
                      try simp only [Act.put, List.setIfInBounds_toArray, List.set_cons_zero, List.set_cons_succ]
                      refine wpAnyY_take (i := 19) (v := ?_) rfl (by kernel_rfl) (by kernel_rfl) (by kernel_rfl) (by kernel_rfl) (fun _ _ _ h => h) (Or.inl ⟨by kernel_rfl, ?_⟩) hS ?_
                      rotate_left
                      · intro w' hSw; go_simp; with_reducible rfl
                      try simp only [Act.put, List.setIfInBounds_toArray, List.set_cons_zero, List.set_cons_succ]
                      refine wpAnyY_take (i := 20) (v := ?_) rfl (by kernel_rfl) (by kernel_rfl) (by kernel_rfl) (by kernel_rfl) (fun _ _ _ h => h) (Or.inl ⟨by kernel_rfl, ?_⟩) hS ?_
                      rotate_left
                      · intro w' hSw; go_simp; with_reducible rfl
                      try simp only [Act.put, List.setIfInBounds_toArray, List.set_cons_zero, List.set_cons_succ]
                      refine wpAnyY_oneW (i := 21) (by kernel_rfl) rfl (by kernel_rfl) (by kernel_rfl) (fun K21 hK21 => ?_)
                      go_simp
                      refine hK21.out _ _ ?_
                      try simp only [Act.put, List.setIfInBounds_toArray, List.set_cons_zero, List.set_cons_succ]
                      refine wpAnyY_done (by kernel_rfl) ?_ _
                      clear hK21
                      clear hS
                      have gzy : G wz wz.drew := (G.rf _).d
                      generalize wz.drew = wy at *
                      clear qe co2
                      have gwy := gz.t gzy
                      have gky := hgz0.t gzy
                      have gwy0 := gx0.t gwy
                      have hSk : ∀ W', G wy W' → W'.cell? ⟨gR, r, none⟩ = some (.slice (some ⟨gj, 0, none⟩) row.length rc) ∧ W'.cell? ⟨gA, k * 2, none⟩ = some (.int .i64 (qx : Nat)) ∧ W'.cell? ⟨gA, k * 2 + 1, none⟩ = some (.int .i64 (qy : Nat)) := fun W' hW => ⟨((bcellB (gwy.t hW)).1 gR _ hgR).trans Hcr.out, ((bcellB (gwy0.t hW)).1 gA _ hgA).trans hpt.1, ((bcellB (gwy0.t hW)).1 gA _ hgA).trans hpt.2⟩
                      have hsrc : ∀ W', G wy W' → ((some ⟨gj, 0, none⟩ : Option Addr) = none ∧ rc = 0 ∧ row = [] ∨ ∃ gq, (some ⟨gj, 0, none⟩ : Option Addr) = some ⟨gq, 0, none⟩ ∧ gq < W'.heap.size ∧ PtsAt W' gq row) := fun W' hW => by
                        rcases HSRC.out with h | ⟨gq, e, hgq, hp⟩
                        · exact .inl h
                        · exact .inr ⟨gq, e, Nat.lt_of_lt_of_le hgq (gwy.t hW).size, hp.keep hgq (gwy.t hW)⟩
                      obtain ⟨vs, r1, r2, r3⟩ := HV.out.keep gky
                      have HNW := Lib.hid (own_G HNo.out gky)
                      obtain ⟨RN, hRN⟩ : ∃ RN, RN = DN.map (·.1) := ⟨_, rfl⟩
                      rw [← hRN] at r1 r2 r3
                      have hRNl : RN.length ≤ 1000100 := by rw [hRN, List.length_map]; exact hDl2
                      have HD1 : Hid ((D ++ stp li (on : Int) (row, ov) (P.take (k + 1))).map (·.1) = RN ++ [row ++ [(qx, qy)]]) := by
                        rw [Hid, HE.out, ← List.append_assoc, ← HDN.out, List.map_append, hRN]; rfl
                      have HD2 : Hid ((D ++ stp li (on : Int) (row, ov) (P.take (k + 1))).length = DN.length + 1) := by
                        rw [Hid, HE.out, ← List.append_assoc, ← HDN.out, List.length_append]; rfl
                      have HD3 : Hid (intV ((D ++ stp li (on : Int) (row, ov) (P.take (k + 1))).map (·.2)) = intV (DN.map (·.2)) ++ [.int .i64 ov]) := by
                        rw [Hid, HE.out, ← List.append_assoc, ← HDN.out, List.map_append, intV, List.map_append, Hn2.out]; rfl
                      have HV1 := Lib.hid r1
                      have HV2 := Lib.hid r2
                      have HV3 := Lib.hid r3
                      have HSN := Lib.hid (ptsV_snoc row (qx, qy))
                      have HLN : Hid ((row ++ [(qx, qy)]).length = row.length + 1) := by rw [Hid, List.length_append]; rfl
                      obtain ⟨i0, hi0, hz0, hz1, hz2⟩ := info_parts info27
                      obtain ⟨j0, hj0, hy0, hy1, hy2⟩ := info_parts info36
                      obtain ⟨k0, hk0, hx0, hx1, hx2⟩ := info_parts info3
                      have hrl : row.length ≤ 3 := by omega
                      clear r1 r2 r3 hRN HE HDN Hn2 HV HNo HSRC gzy hgz0 gz gz0 bz lz lzA lzR lzO
                      go_wp2
                      refine wp_region_Y (S := fun W' => W'.cell? ⟨gR, r, none⟩ = some (.slice (some ⟨gj, 0, none⟩) row.length rc) ∧ W'.cell? ⟨gA, k * 2, none⟩ = some (.int .i64 (qx : Nat)) ∧ W'.cell? ⟨gA, k * 2 + 1, none⟩ = some (.int .i64 (qy : Nat))) 14 16 rfl (by kernel_rfl) (hSk _ (G.rf _).d) (fun hS => ?_)
                      have gd : G wy wy.drew := (G.rf _).d
                      refine wpAnyY_take (i := 0) (v := ?_) rfl (by kernel_rfl) (by kernel_rfl) (by kernel_rfl) (by kernel_rfl) (fun _ _ _ h => h) (Or.inl ⟨by kernel_rfl, ?_⟩) hS ?_
                      rotate_left
                      · intro w' hSw; go_simp; with_reducible rfl
                      try simp only [Act.put, List.setIfInBounds_toArray, List.set_cons_zero, List.set_cons_succ]
                      refine wpAnyY_take (i := 2) (v := ?_) rfl (by kernel_rfl) (by kernel_rfl) (by kernel_rfl) (by kernel_rfl) (fun _ _ _ h => h) (Or.inl ⟨by kernel_rfl, ?_⟩) hS ?_
                      rotate_left
                      · intro w' hSw; go_simp; with_reducible rfl
                      try simp only [Act.put, List.setIfInBounds_toArray, List.set_cons_zero, List.set_cons_succ]
                      refine wpAnyY_take (i := 3) (v := ?_) rfl (by kernel_rfl) (by kernel_rfl) (by kernel_rfl) (by kernel_rfl) (fun _ _ _ h => h) (Or.inl ⟨by kernel_rfl, ?_⟩) hS ?_
                      rotate_left
                      · intro w' hSw; go_simp; with_reducible rfl
                      try simp only [Act.put, List.setIfInBounds_toArray, List.set_cons_zero, List.set_cons_succ]
                      refine wpAnyY_take (i := 4) (v := ?_) rfl (by kernel_rfl) (by kernel_rfl) (by kernel_rfl) (by kernel_rfl) (fun _ _ _ h => h) (Or.inl ⟨by kernel_rfl, ?_⟩) hS ?_
                      rotate_left
                      · intro w' hSw; go_simp; with_reducible rfl
                      try simp only [Act.put, List.setIfInBounds_toArray, List.set_cons_zero, List.set_cons_succ]
                      refine wpAnyY_take (i := 5) (v := ?_) rfl (by kernel_rfl) (by kernel_rfl) (by kernel_rfl) (by kernel_rfl) (fun _ _ _ h => h) (Or.inl ⟨by kernel_rfl, ?_⟩) hS ?_
                      rotate_left
                      · intro w' hSw; obtain ⟨y0, y1, y2⟩ := hSw; go_simp; with_reducible rfl
                      try simp only [Act.put, List.setIfInBounds_toArray, List.set_cons_zero, List.set_cons_succ]
                      refine wpAnyY_take (i := 7) (v := ?_) rfl (by kernel_rfl) (by kernel_rfl) (by kernel_rfl) (by kernel_rfl) (fun _ _ _ h => h) (Or.inl ⟨by kernel_rfl, ?_⟩) hS ?_
                      rotate_left
                      · intro w' hSw; go_simp; with_reducible rfl
                      try simp only [Act.put, List.setIfInBounds_toArray, List.set_cons_zero, List.set_cons_succ]
                      refine wpAnyY_take (i := 8) (v := ?_) rfl (by kernel_rfl) (by kernel_rfl) (by kernel_rfl) (by kernel_rfl) (fun _ _ _ h => h) (Or.inl ⟨by kernel_rfl, ?_⟩) hS ?_
                      rotate_left
                      · intro w' hSw; go_simp; with_reducible rfl
                      try simp only [Act.put, List.setIfInBounds_toArray, List.set_cons_zero, List.set_cons_succ]
                      refine wpAnyY_take (i := 9) (v := ?_) rfl (by kernel_rfl) (by kernel_rfl) (by kernel_rfl) (by kernel_rfl) (fun _ _ _ h => h) (Or.inl ⟨by kernel_rfl, ?_⟩) hS ?_
                      rotate_left
                      · intro w' hSw; go_simp; with_reducible rfl
                      try simp only [Act.put, List.setIfInBounds_toArray, List.set_cons_zero, List.set_cons_succ]
                      refine wpAnyY_take (i := 10) (v := ?_) rfl (by kernel_rfl) (by kernel_rfl) (by kernel_rfl) (by kernel_rfl) (fun _ _ _ h => h) (Or.inl ⟨by kernel_rfl, ?_⟩) hS ?_
                      rotate_left
                      · intro w' hSw; obtain ⟨y0, y1, y2⟩ := hSw; go_simp; with_reducible rfl
                      try simp only [Act.put, List.setIfInBounds_toArray, List.set_cons_zero, List.set_cons_succ]
                      refine wpAnyY_twoSW (i := 1) (j := 11) (by kernel_rfl) rfl rfl (by kernel_rfl) (by kernel_rfl) (fun K1 hK1 => ?_) (fun K11 hK11 => ?_)
                      · go_simp
                        refine hK1.out _ _ (hSk _ (G.a gd (.cells #[] 27))) (fun hS => ?_)
                        try simp only [Act.put, List.setIfInBounds_toArray, List.set_cons_zero, List.set_cons_succ]
                        refine wpAnyY_twoSW (i := 6) (j := 11) (by kernel_rfl) rfl rfl (by kernel_rfl) (by kernel_rfl) (fun K6 hK6 => ?_) (fun K11 hK11 => ?_)
                        · have g6 := G.a gd (.cells #[] 27)
                          have b6 := Blk.newAt (show wy.drew.heap.size = wy.heap.size by simp) 27 #[]
                          refine wp_append_row _ _ rfl (wy.heap.size) wy.heap.size rfl b6 (by omega) rfl (hsrc _ g6) (by omega) ?_
                          intro v6 w6 hown6 hgr6 hkp6
                          have gw6 : G wy w6 := hgr6 wy g6 (Nat.le_refl _)
                          refine hK6.out _ _ (hSk _ gw6) (fun hS => ?_)
                          try simp only [Act.put, List.setIfInBounds_toArray, List.set_cons_zero, List.set_cons_succ]
                          refine wpAnyY_oneSW (i := 11) (by kernel_rfl) rfl (by kernel_rfl) (fun K11 hK11 => ?_)
                          go_simp
                          refine hK11.out _ _ (hSk _ (G.a gw6 (.cells #[.int .i64 (qx : Nat), .int .i64 (qy : Nat)] 27))) (fun hS => ?_)
                          try simp only [Act.put, List.setIfInBounds_toArray, List.set_cons_zero, List.set_cons_succ]
                          refine wpAnyY_oneSW (i := 12) (by kernel_rfl) rfl (by kernel_rfl) (fun K12 hK12 => ?_)
                          refine wp_append_own (w6.alloc (.cells #[.int .i64 (qx : Nat), .int .i64 (qy : Nat)] 27)) _ _ 36 rfl wy.heap.size 27 i0 _ 2 16 Try.underlying36 hi0 hz0 hz1 hz2 rfl (by decide) _ row.length (ptsV row) rfl (own_G hown6 ((G.rf w6).a (.cells #[.int .i64 (qx : Nat), .int .i64 (qy : Nat)] 27))) ⟨w6.heap.size, 0, none⟩ 1 1 [.int .i64 (qx : Nat), .int .i64 (qy : Nat)] rfl rfl (cells_two (Blk.new _ _ _)) (by simp [Value.oneCell']) (by unfold maxLen; omega) (by omega) (G.a gw6 (.cells #[.int .i64 (qx : Nat), .int .i64 (qy : Nat)] 27)).size ?_
                          intro v7 w7 hown7 hg7 _
                          have gw7 : G wy w7 := grow_own (G.a gw6 (.cells #[.int .i64 (qx : Nat), .int .i64 (qy : Nat)] 27)) (own_G hown6 ((G.rf w6).a (.cells #[.int .i64 (qx : Nat), .int .i64 (qy : Nat)] 27))) (Nat.le_refl _) hg7
                          obtain ⟨a7, c7, e7⟩ := own_slice hown7
                          rw [← HSN.out, ← HLN.out] at hown7
                          subst e7
                          have HO7 := Lib.hid hown7
                          clear hown7 hg7
                          refine hK12.out _ _ (hSk _ gw7) (fun hS => ?_)
                          try simp only [Act.put, List.setIfInBounds_toArray, List.set_cons_zero, List.set_cons_succ]
                          refine wpAnyY_oneSW (i := 13) (by kernel_rfl) rfl (by kernel_rfl) (fun K13 hK13 => ?_)
                          go_simp
                          refine hK13.out _ _ (hSk _ (gw7.a _)) (fun hS => ?_)
                          try simp only [Act.put, List.setIfInBounds_toArray, List.set_cons_zero, List.set_cons_succ]
                          have g13 : G wy (w7.alloc (.cells #[.slice a7 (row.length + 1) c7] 36)) := gw7.a _
                          refine wpAnyY_oneW (i := 14) (by kernel_rfl) rfl (by kernel_rfl) (by kernel_rfl) (fun K14 hK14 => ?_)
                          refine wp_append_own _ _ _ 103 rfl wx.heap.size 36 j0 (.slice none 0 0) 1 24 Try.underlying103 hj0 hy0 hy1 hy2 rfl (by decide) _ RN.length vs rfl (own_G HV2.out g13) ⟨w7.heap.size, 0, none⟩ 1 1 [.slice a7 (row.length + 1) c7] rfl rfl (cell_one_new _ _ _) (own_one7 HO7.out) (by unfold maxLen; omega) (by omega) (gwy.t g13).size ?_
                          intro v9 w9 hown9 hg9 _
                          have y1 : TRows w9 wx.heap.size v9 (RN ++ [row ++ [(qx, qy)]]) := TRows.snoc HV1.out (own_G HV2.out g13) (fun j hj => by obtain ⟨b, hb⟩ := HV3.out j hj; exact ⟨b, own_G hb g13⟩) (own_G HO7.out ((G.rf _).a _)) hown9 hg9
                          have y2 : G wx w9 := grow_own (gwy.t g13) (own_G HV2.out g13) (Nat.le_refl _) hg9
                          have y3 := (own_G HNW.out g13).kept hg9 (own_own (own_G HNW.out g13) (own_G HV2.out g13) (by decide))
                          have HY1 := Lib.hid y1
                          have HY3 := Lib.hid y3
                          clear y1 y3 hown9 hg9 HO7 gw7 g13 hS
                          refine hK14.out _ _ ?_
                          try simp only [Act.put, List.setIfInBounds_toArray, List.set_cons_zero, List.set_cons_succ]
                          refine wpAnyY_oneW (i := 15) (by kernel_rfl) rfl (by kernel_rfl) (by kernel_rfl) (fun K15 hK15 => ?_)
                          go_simp
                          refine hK15.out _ _ ?_
                          try simp only [Act.put, List.setIfInBounds_toArray, List.set_cons_zero, List.set_cons_succ]
                          refine wpAnyY_done (by kernel_rfl) ?_ _
                          clear hK12 hK13 hK14 hK15
                          go_wp2_with (at_builtin; refine wpList_append_own _ rfl _ _ 22 rfl wx.heap.size 3 k0 (.int .i64 0) 1 8 Try.underlying22 hk0 hx0 hx1 hx2 rfl (by decide) _ DN.length (intV (DN.map (·.2))) rfl ?hown ⟨_, 0, none⟩ 1 1 [.int .i64 ov] rfl rfl (cell_one_new _ _ _) (by simp [Value.oneCell']) (by unfold maxLen; omega) (by omega) ?hbase ?hrest)
                          case hown => exact own_G HY3.out ((G.rf _).a _)
                          case hbase => exact (y2.a _).size
                          case hrest =>
                            intro v8 w8 hown8 hg8 _
                            have gX : G w9 (w9.alloc (.cells #[.int .i64 ov] 3)) := (G.rf _).a _
                            have z1 : TRows w8 wx.heap.size v9 (RN ++ [row ++ [(qx, qy)]]) := ((HY1.out).keep gX).kept (own_G HY3.out gX) hg8
                            have z2 : G wx w8 := grow_own (y2.t gX) (own_G HY3.out gX) (Nat.le_refl _) hg8
                            have HZ1 := Lib.hid z1
                            have HZ3 := Lib.hid hown8
                            clear z1 hown8 hg8 gX y2 HY1 HY3
                            go_wp2
                            go_roundw
                            case rel => exact ⟨k + 1, by omega, by go_num, by rw [HD1.out]; exact HZ1.out, by rw [HD2.out, HD3.out]; exact HZ3.out, z2⟩
                            case measure => simp [intOf]; omega
                        · go_simp
                          refine hK11.out _ _ (hSk _ (G.a (G.a gd (.cells #[] 27)) (.cells #[.int .i64 (qx : Nat), .int .i64 (qy : Nat)] 27))) (fun hS => ?_)
                          try simp only [Act.put, List.setIfInBounds_toArray, List.set_cons_zero, List.set_cons_succ]
                          refine wpAnyY_oneSW (i := 6) (by kernel_rfl) rfl (by kernel_rfl) (fun K6 hK6 => ?_)
                          have g6 := G.a (G.a gd (.cells #[] 27)) (.cells #[.int .i64 (qx : Nat), .int .i64 (qy : Nat)] 27)
                          have b6 := (Blk.newAt (show wy.drew.heap.size = wy.heap.size by simp) 27 #[]).alloc (.cells #[.int .i64 (qx : Nat), .int .i64 (qy : Nat)] 27)
                          refine wp_append_row _ _ rfl (wy.heap.size) wy.heap.size rfl b6 (by omega) rfl (hsrc _ g6) (by omega) ?_
                          intro v6 w6 hown6 hgr6 hkp6
                          have gw6 : G wy w6 := hgr6 wy g6 (Nat.le_refl _)
                          refine hK6.out _ _ (hSk _ gw6) (fun hS => ?_)
                          try simp only [Act.put, List.setIfInBounds_toArray, List.set_cons_zero, List.set_cons_succ]
                          have b11 : Blk w6 (wy.heap.size + 1) 27 #[.int .i64 (qx : Nat), .int .i64 (qy : Nat)] := Blk.kept6 (hkp6 _ (by simp <;> omega) (by omega)) (Blk.newAt (by simp) _ _)
                          refine wpAnyY_oneSW (i := 12) (by kernel_rfl) rfl (by kernel_rfl) (fun K12 hK12 => ?_)
                          refine wp_append_own w6 _ _ 36 rfl wy.heap.size 27 i0 _ 2 16 Try.underlying36 hi0 hz0 hz1 hz2 rfl (by decide) _ row.length (ptsV row) rfl (hown6) ⟨wy.heap.size + 1, 0, none⟩ 1 1 [.int .i64 (qx : Nat), .int .i64 (qy : Nat)] rfl rfl (cells_two b11) (by simp [Value.oneCell']) (by unfold maxLen; omega) (by omega) (gw6).size ?_
                          intro v7 w7 hown7 hg7 _
                          have gw7 : G wy w7 := grow_own (gw6) (hown6) (Nat.le_refl _) hg7
                          obtain ⟨a7, c7, e7⟩ := own_slice hown7
                          rw [← HSN.out, ← HLN.out] at hown7
                          subst e7
                          have HO7 := Lib.hid hown7
                          clear hown7 hg7
                          refine hK12.out _ _ (hSk _ gw7) (fun hS => ?_)
                          try simp only [Act.put, List.setIfInBounds_toArray, List.set_cons_zero, List.set_cons_succ]
                          refine wpAnyY_oneSW (i := 13) (by kernel_rfl) rfl (by kernel_rfl) (fun K13 hK13 => ?_)
                          go_simp
                          refine hK13.out _ _ (hSk _ (gw7.a _)) (fun hS => ?_)
                          try simp only [Act.put, List.setIfInBounds_toArray, List.set_cons_zero, List.set_cons_succ]
                          have g13 : G wy (w7.alloc (.cells #[.slice a7 (row.length + 1) c7] 36)) := gw7.a _
                          refine wpAnyY_oneW (i := 14) (by kernel_rfl) rfl (by kernel_rfl) (by kernel_rfl) (fun K14 hK14 => ?_)
                          refine wp_append_own _ _ _ 103 rfl wx.heap.size 36 j0 (.slice none 0 0) 1 24 Try.underlying103 hj0 hy0 hy1 hy2 rfl (by decide) _ RN.length vs rfl (own_G HV2.out g13) ⟨w7.heap.size, 0, none⟩ 1 1 [.slice a7 (row.length + 1) c7] rfl rfl (cell_one_new _ _ _) (own_one7 HO7.out) (by unfold maxLen; omega) (by omega) (gwy.t g13).size ?_
                          intro v9 w9 hown9 hg9 _
                          have y1 : TRows w9 wx.heap.size v9 (RN ++ [row ++ [(qx, qy)]]) := TRows.snoc HV1.out (own_G HV2.out g13) (fun j hj => by obtain ⟨b, hb⟩ := HV3.out j hj; exact ⟨b, own_G hb g13⟩) (own_G HO7.out ((G.rf _).a _)) hown9 hg9
                          have y2 : G wx w9 := grow_own (gwy.t g13) (own_G HV2.out g13) (Nat.le_refl _) hg9
                          have y3 := (own_G HNW.out g13).kept hg9 (own_own (own_G HNW.out g13) (own_G HV2.out g13) (by decide))
                          have HY1 := Lib.hid y1
                          have HY3 := Lib.hid y3
                          clear y1 y3 hown9 hg9 HO7 gw7 g13 hS
                          refine hK14.out _ _ ?_
                          try simp only [Act.put, List.setIfInBounds_toArray, List.set_cons_zero, List.set_cons_succ]
                          refine wpAnyY_oneW (i := 15) (by kernel_rfl) rfl (by kernel_rfl) (by kernel_rfl) (fun K15 hK15 => ?_)
                          go_simp
                          refine hK15.out _ _ ?_
                          try simp only [Act.put, List.setIfInBounds_toArray, List.set_cons_zero, List.set_cons_succ]
                          refine wpAnyY_done (by kernel_rfl) ?_ _
                          clear hK12 hK13 hK14 hK15
                          go_wp2_with (at_builtin; refine wpList_append_own _ rfl _ _ 22 rfl wx.heap.size 3 k0 (.int .i64 0) 1 8 Try.underlying22 hk0 hx0 hx1 hx2 rfl (by decide) _ DN.length (intV (DN.map (·.2))) rfl ?hown ⟨_, 0, none⟩ 1 1 [.int .i64 ov] rfl rfl (cell_one_new _ _ _) (by simp [Value.oneCell']) (by unfold maxLen; omega) (by omega) ?hbase ?hrest)
                          case hown => exact own_G HY3.out ((G.rf _).a _)
                          case hbase => exact (y2.a _).size
                          case hrest =>
                            intro v8 w8 hown8 hg8 _
                            have gX : G w9 (w9.alloc (.cells #[.int .i64 ov] 3)) := (G.rf _).a _
                            have z1 : TRows w8 wx.heap.size v9 (RN ++ [row ++ [(qx, qy)]]) := ((HY1.out).keep gX).kept (own_G HY3.out gX) hg8
                            have z2 : G wx w8 := grow_own (y2.t gX) (own_G HY3.out gX) (Nat.le_refl _) hg8
                            have HZ1 := Lib.hid z1
                            have HZ3 := Lib.hid hown8
                            clear z1 hown8 hg8 gX y2 HY1 HY3
                            go_wp2
                            go_roundw
                            case rel => exact ⟨k + 1, by omega, by go_num, by rw [HD1.out]; exact HZ1.out, by rw [HD2.out, HD3.out]; exact HZ3.out, z2⟩
                            case measure => simp [intOf]; omega
                      · go_simp
                        refine hK11.out _ _ (hSk _ (G.a gd (.cells #[.int .i64 (qx : Nat), .int .i64 (qy : Nat)] 27))) (fun hS => ?_)
                        try simp only [Act.put, List.setIfInBounds_toArray, List.set_cons_zero, List.set_cons_succ]
                        refine wpAnyY_oneSW (i := 1) (by kernel_rfl) rfl (by kernel_rfl) (fun K1 hK1 => ?_)
                        go_simp
                        refine hK1.out _ _ (hSk _ (G.a (G.a gd (.cells #[.int .i64 (qx : Nat), .int .i64 (qy : Nat)] 27)) (.cells #[] 27))) (fun hS => ?_)
                        try simp only [Act.put, List.setIfInBounds_toArray, List.set_cons_zero, List.set_cons_succ]
                        refine wpAnyY_oneSW (i := 6) (by kernel_rfl) rfl (by kernel_rfl) (fun K6 hK6 => ?_)
                        have g6 := G.a (G.a gd (.cells #[.int .i64 (qx : Nat), .int .i64 (qy : Nat)] 27)) (.cells #[] 27)
                        have b6 := Blk.newAt (show (wy.drew.alloc (.cells #[.int .i64 (qx : Nat), .int .i64 (qy : Nat)] 27)).heap.size = wy.heap.size + 1 by simp) 27 #[]
                        refine wp_append_row _ _ rfl (wy.heap.size + 1) wy.heap.size rfl b6 (by omega) rfl (hsrc _ g6) (by omega) ?_
                        intro v6 w6 hown6 hgr6 hkp6
                        have gw6 : G wy w6 := hgr6 wy g6 (Nat.le_refl _)
                        refine hK6.out _ _ (hSk _ gw6) (fun hS => ?_)
                        try simp only [Act.put, List.setIfInBounds_toArray, List.set_cons_zero, List.set_cons_succ]
                        have b11 : Blk w6 wy.heap.size 27 #[.int .i64 (qx : Nat), .int .i64 (qy : Nat)] := Blk.kept6 (hkp6 _ (by simp <;> omega) (by omega)) ((Blk.newAt (show wy.drew.heap.size = wy.heap.size by simp) 27 #[.int .i64 (qx : Nat), .int .i64 (qy : Nat)]).alloc (.cells #[] 27))
                        refine wpAnyY_oneSW (i := 12) (by kernel_rfl) rfl (by kernel_rfl) (fun K12 hK12 => ?_)
                        refine wp_append_own w6 _ _ 36 rfl wy.heap.size 27 i0 _ 2 16 Try.underlying36 hi0 hz0 hz1 hz2 rfl (by decide) _ row.length (ptsV row) rfl (hown6) ⟨wy.heap.size, 0, none⟩ 1 1 [.int .i64 (qx : Nat), .int .i64 (qy : Nat)] rfl rfl (cells_two b11) (by simp [Value.oneCell']) (by unfold maxLen; omega) (by omega) (gw6).size ?_
                        intro v7 w7 hown7 hg7 _
                        have gw7 : G wy w7 := grow_own (gw6) (hown6) (Nat.le_refl _) hg7
                        obtain ⟨a7, c7, e7⟩ := own_slice hown7
                        rw [← HSN.out, ← HLN.out] at hown7
                        subst e7
                        have HO7 := Lib.hid hown7
                        clear hown7 hg7
                        refine hK12.out _ _ (hSk _ gw7) (fun hS => ?_)
                        try simp only [Act.put, List.setIfInBounds_toArray, List.set_cons_zero, List.set_cons_succ]
                        refine wpAnyY_oneSW (i := 13) (by kernel_rfl) rfl (by kernel_rfl) (fun K13 hK13 => ?_)
                        go_simp
                        refine hK13.out _ _ (hSk _ (gw7.a _)) (fun hS => ?_)
                        try simp only [Act.put, List.setIfInBounds_toArray, List.set_cons_zero, List.set_cons_succ]
                        have g13 : G wy (w7.alloc (.cells #[.slice a7 (row.length + 1) c7] 36)) := gw7.a _
                        refine wpAnyY_oneW (i := 14) (by kernel_rfl) rfl (by kernel_rfl) (by kernel_rfl) (fun K14 hK14 => ?_)
                        refine wp_append_own _ _ _ 103 rfl wx.heap.size 36 j0 (.slice none 0 0) 1 24 Try.underlying103 hj0 hy0 hy1 hy2 rfl (by decide) _ RN.length vs rfl (own_G HV2.out g13) ⟨w7.heap.size, 0, none⟩ 1 1 [.slice a7 (row.length + 1) c7] rfl rfl (cell_one_new _ _ _) (own_one7 HO7.out) (by unfold maxLen; omega) (by omega) (gwy.t g13).size ?_
                        intro v9 w9 hown9 hg9 _
                        have y1 : TRows w9 wx.heap.size v9 (RN ++ [row ++ [(qx, qy)]]) := TRows.snoc HV1.out (own_G HV2.out g13) (fun j hj => by obtain ⟨b, hb⟩ := HV3.out j hj; exact ⟨b, own_G hb g13⟩) (own_G HO7.out ((G.rf _).a _)) hown9 hg9
                        have y2 : G wx w9 := grow_own (gwy.t g13) (own_G HV2.out g13) (Nat.le_refl _) hg9
                        have y3 := (own_G HNW.out g13).kept hg9 (own_own (own_G HNW.out g13) (own_G HV2.out g13) (by decide))
                        have HY1 := Lib.hid y1
                        have HY3 := Lib.hid y3
                        clear y1 y3 hown9 hg9 HO7 gw7 g13 hS
                        refine hK14.out _ _ ?_
                        try simp only [Act.put, List.setIfInBounds_toArray, List.set_cons_zero, List.set_cons_succ]
                        refine wpAnyY_oneW (i := 15) (by kernel_rfl) rfl (by kernel_rfl) (by kernel_rfl) (fun K15 hK15 => ?_)
                        go_simp
                        refine hK15.out _ _ ?_
                        try simp only [Act.put, List.setIfInBounds_toArray, List.set_cons_zero, List.set_cons_succ]
                        refine wpAnyY_done (by kernel_rfl) ?_ _
                        clear hK12 hK13 hK14 hK15
                        go_wp2_with (at_builtin; refine wpList_append_own _ rfl _ _ 22 rfl wx.heap.size 3 k0 (.int .i64 0) 1 8 Try.underlying22 hk0 hx0 hx1 hx2 rfl (by decide) _ DN.length (intV (DN.map (·.2))) rfl ?hown ⟨_, 0, none⟩ 1 1 [.int .i64 ov] rfl rfl (cell_one_new _ _ _) (by simp [Value.oneCell']) (by unfold maxLen; omega) (by omega) ?hbase ?hrest)
                        case hown => exact own_G HY3.out ((G.rf _).a _)
                        case hbase => exact (y2.a _).size
                        case hrest =>
                          intro v8 w8 hown8 hg8 _
                          have gX : G w9 (w9.alloc (.cells #[.int .i64 ov] 3)) := (G.rf _).a _
                          have z1 : TRows w8 wx.heap.size v9 (RN ++ [row ++ [(qx, qy)]]) := ((HY1.out).keep gX).kept (own_G HY3.out gX) hg8
                          have z2 : G wx w8 := grow_own (y2.t gX) (own_G HY3.out gX) (Nat.le_refl _) hg8
                          have HZ1 := Lib.hid z1
                          have HZ3 := Lib.hid hown8
                          clear z1 hown8 hg8 gX y2 HY1 HY3
                          go_wp2
                          go_roundw
                          case rel => exact ⟨k + 1, by omega, by go_num, by rw [HD1.out]; exact HZ1.out, by rw [HD2.out, HD3.out]; exact HZ3.out, z2⟩
                          case measure => simp [intOf]; omega
                    · have hokt : okA li (on : Int) (row, ov) (px, py) = false := by
                        rw [hokd]
                        simp only [beq_eq_false_iff_ne, ne_eq, Prod.mk.injEq]
                        exact hqp
                      have HE := Lib.hid (Hsn.out.trans (if_neg (by rw [hokt]; simp)))
                      have qb : (((qx : Nat) : Int) == px && ((qy : Nat) : Int) == py) = false := by
                        simp
                        omega
                      rw [qb] at qe
                      clear Hok Hsn hokt hokd qb
                      have hS26 : ∀ W', G wz W' → W'.cell? ⟨w.heap.size, 5, none⟩ = some (.int .i64 wrong) ∧ W'.cell? ⟨gR, r, none⟩ = some (.slice (some ⟨gj, 0, none⟩) row.length rc) ∧ W'.cell? ⟨gj, on * 2, none⟩ = some (.int .i64 (qx : Nat)) ∧ W'.cell? ⟨gj, on * 2 + 1, none⟩ = some (.int .i64 (qy : Nat)) ∧ W'.cell? ⟨gA, k * 2, none⟩ = some (.int .i64 (px : Nat)) ∧ W'.cell? ⟨gA, k * 2 + 1, none⟩ = some (.int .i64 (py : Nat)) := fun W' hW => ⟨((bcellB hW).1 _ _ lz).trans cz, ((bcellB hW).1 gR _ lzR).trans czr, ((bcellB hW).1 gj _ lzj).trans czx, ((bcellB hW).1 gj _ lzj).trans czy, ((bcellB hW).1 gA _ lzA).trans cz0, ((bcellB hW).1 gA _ lzA).trans cz1⟩
                      go_wp2
                      refine wp_region_Y (S := fun W' => W'.cell? ⟨w.heap.size, 5, none⟩ = some (.int .i64 wrong) ∧ W'.cell? ⟨gR, r, none⟩ = some (.slice (some ⟨gj, 0, none⟩) row.length rc) ∧ W'.cell? ⟨gj, on * 2, none⟩ = some (.int .i64 (qx : Nat)) ∧ W'.cell? ⟨gj, on * 2 + 1, none⟩ = some (.int .i64 (qy : Nat)) ∧ W'.cell? ⟨gA, k * 2, none⟩ = some (.int .i64 (px : Nat)) ∧ W'.cell? ⟨gA, k * 2 + 1, none⟩ = some (.int .i64 (py : Nat))) 21 22 rfl (by kernel_rfl) (hS26 _ (G.rf _).d) (fun hS => ?_)
                      clear cz czr czx czy cz0 cz1 hS26
                      refine wpAnyY_take (i := 0) (v := ?_) rfl (by kernel_rfl) (by kernel_rfl) (by kernel_rfl) (by kernel_rfl) (fun _ _ _ h => h) (Or.inl ⟨by kernel_rfl, ?_⟩) hS ?_
                      rotate_left
                      · intro w' hSw; go_simp; with_reducible rfl
                      try simp only [Act.put, List.setIfInBounds_toArray, List.set_cons_zero, List.set_cons_succ]
                      refine wpAnyY_take (i := 1) (v := ?_) rfl (by kernel_rfl) (by kernel_rfl) (by kernel_rfl) (by kernel_rfl) (fun _ _ _ h => h) (Or.inl ⟨by kernel_rfl, ?_⟩) hS ?_
                      rotate_left
                      · intro w' hSw; go_simp; with_reducible rfl
                      try simp only [Act.put, List.setIfInBounds_toArray, List.set_cons_zero, List.set_cons_succ]
                      refine wpAnyY_take (i := 2) (v := ?_) rfl (by kernel_rfl) (by kernel_rfl) (by kernel_rfl) (by kernel_rfl) (fun _ _ _ h => h) (Or.inl ⟨by kernel_rfl, ?_⟩) hS ?_
                      rotate_left
                      · intro w' hSw; obtain ⟨y0, y1⟩ := hSw; go_simp; with_reducible rfl
                      try simp only [Act.put, List.setIfInBounds_toArray, List.set_cons_zero, List.set_cons_succ]
                      refine wpAnyY_take (i := 3) (v := ?_) rfl (by kernel_rfl) (by kernel_rfl) (by kernel_rfl) (by kernel_rfl) (fun _ _ _ h => h) (Or.inl ⟨by kernel_rfl, ?_⟩) hS ?_
                      rotate_left
                      · intro w' hSw; go_simp; (try simp only [hleb]); with_reducible rfl
                      try simp only [Act.put, List.setIfInBounds_toArray, List.set_cons_zero, List.set_cons_succ]
                      refine wpAnyY_take (i := 4) (v := ?_) rfl (by kernel_rfl) (by kernel_rfl) (by kernel_rfl) (by kernel_rfl) (fun _ _ _ h => h) (Or.inl ⟨by kernel_rfl, ?_⟩) hS ?_
                      rotate_left
                      · intro w' hSw; go_simp; with_reducible rfl
                      try simp only [Act.put, List.setIfInBounds_toArray, List.set_cons_zero, List.set_cons_succ]
                      refine wpAnyY_take (i := 5) (v := ?_) rfl (by kernel_rfl) (by kernel_rfl) (by kernel_rfl) (by kernel_rfl) (fun _ _ _ h => h) (Or.inl ⟨by kernel_rfl, ?_⟩) hS ?_
                      rotate_left
                      · intro w' hSw; go_simp; with_reducible rfl
                      try simp only [Act.put, List.setIfInBounds_toArray, List.set_cons_zero, List.set_cons_succ]
                      refine wpAnyY_take (i := 6) (v := ?_) rfl (by kernel_rfl) (by kernel_rfl) (by kernel_rfl) (by kernel_rfl) (fun _ _ _ h => h) (Or.inl ⟨by kernel_rfl, ?_⟩) hS ?_
                      rotate_left
                      · intro w' hSw; go_simp; (try simp only [holb]); with_reducible rfl
                      try simp only [Act.put, List.setIfInBounds_toArray, List.set_cons_zero, List.set_cons_succ]
                      refine wpAnyY_take (i := 7) (v := ?_) rfl (by kernel_rfl) (by kernel_rfl) (by kernel_rfl) (by kernel_rfl) (fun _ _ _ h => h) (Or.inl ⟨by kernel_rfl, ?_⟩) hS ?_
                      rotate_left
                      · intro w' hSw; go_simp; with_reducible rfl
                      try simp only [Act.put, List.setIfInBounds_toArray, List.set_cons_zero, List.set_cons_succ]
                      refine wpAnyY_take (i := 8) (v := ?_) rfl (by kernel_rfl) (by kernel_rfl) (by kernel_rfl) (by kernel_rfl) (fun _ _ _ h => h) (Or.inl ⟨by kernel_rfl, ?_⟩) hS ?_
                      rotate_left
                      · intro w' hSw; go_simp; with_reducible rfl
                      try simp only [Act.put, List.setIfInBounds_toArray, List.set_cons_zero, List.set_cons_succ]
                      refine wpAnyY_take (i := 9) (v := ?_) rfl (by kernel_rfl) (by kernel_rfl) (by kernel_rfl) (by kernel_rfl) (fun _ _ _ h => h) (Or.inl ⟨by kernel_rfl, ?_⟩) hS ?_
                      rotate_left
                      · intro w' hSw; go_simp; with_reducible rfl
                      try simp only [Act.put, List.setIfInBounds_toArray, List.set_cons_zero, List.set_cons_succ]
                      refine wpAnyY_take (i := 10) (v := ?_) rfl (by kernel_rfl) (by kernel_rfl) (by kernel_rfl) (by kernel_rfl) (fun _ _ _ h => h) (Or.inl ⟨by kernel_rfl, ?_⟩) hS ?_
                      rotate_left
                      · intro w' hSw; go_simp; with_reducible rfl
                      try simp only [Act.put, List.setIfInBounds_toArray, List.set_cons_zero, List.set_cons_succ]
                      refine wpAnyY_take (i := 11) (v := ?_) rfl (by kernel_rfl) (by kernel_rfl) (by kernel_rfl) (by kernel_rfl) (fun _ _ _ h => h) (Or.inl ⟨by kernel_rfl, ?_⟩) hS ?_
                      rotate_left
                      · intro w' hSw; obtain ⟨y0, y1, y2, y3, y4, y5⟩ := hSw; go_simp; with_reducible rfl
                      try simp only [Act.put, List.setIfInBounds_toArray, List.set_cons_zero, List.set_cons_succ]
                      refine wpAnyY_take (i := 12) (v := ?_) rfl (by kernel_rfl) (by kernel_rfl) (by kernel_rfl) (by kernel_rfl) (fun _ _ _ h => h) (Or.inl ⟨by kernel_rfl, ?_⟩) hS ?_
                      rotate_left
                      · intro w' hSw; go_simp; with_reducible rfl
                      try simp only [Act.put, List.setIfInBounds_toArray, List.set_cons_zero, List.set_cons_succ]
                      refine wpAnyY_take (i := 13) (v := ?_) rfl (by kernel_rfl) (by kernel_rfl) (by kernel_rfl) (by kernel_rfl) (fun _ _ _ h => h) (Or.inl ⟨by kernel_rfl, ?_⟩) hS ?_
                      rotate_left
                      · intro w' hSw; go_simp; with_reducible rfl
                      try simp only [Act.put, List.setIfInBounds_toArray, List.set_cons_zero, List.set_cons_succ]
                      refine wpAnyY_take (i := 14) (v := ?_) rfl (by kernel_rfl) (by kernel_rfl) (by kernel_rfl) (by kernel_rfl) (fun _ _ _ h => h) (Or.inl ⟨by kernel_rfl, ?_⟩) hS ?_
                      rotate_left
                      · intro w' hSw; obtain ⟨y0, y1, y2, y3, y4, y5⟩ := hSw; go_simp; with_reducible rfl
                      try simp only [Act.put, List.setIfInBounds_toArray, List.set_cons_zero, List.set_cons_succ]
                      refine wpAnyY_take (i := 15) (v := ?_) rfl (by kernel_rfl) (by kernel_rfl) (by kernel_rfl) (by kernel_rfl) (fun _ _ _ h => h) (Or.inl ⟨by kernel_rfl, ?_⟩) hS ?_
                      rotate_left
                      · intro w' hSw; go_simp; with_reducible rfl
                      try simp only [Act.put, List.setIfInBounds_toArray, List.set_cons_zero, List.set_cons_succ]
                      refine wpAnyY_take (i := 16) (v := ?_) rfl (by kernel_rfl) (by kernel_rfl) (by kernel_rfl) (by kernel_rfl) (fun _ _ _ h => h) (Or.inl ⟨by kernel_rfl, ?_⟩) hS ?_
                      rotate_left
                      · intro w' hSw; go_simp; with_reducible rfl
                      try simp only [Act.put, List.setIfInBounds_toArray, List.set_cons_zero, List.set_cons_succ]
                      refine wpAnyY_take (i := 17) (v := ?_) rfl (by kernel_rfl) (by kernel_rfl) (by kernel_rfl) (by kernel_rfl) (fun _ _ _ h => h) (Or.inl ⟨by kernel_rfl, ?_⟩) hS ?_
                      rotate_left
                      · intro w' hSw; go_simp; with_reducible rfl
                      try simp only [Act.put, List.setIfInBounds_toArray, List.set_cons_zero, List.set_cons_succ]
                      refine wpAnyY_take (i := 18) (v := ?_) rfl (by kernel_rfl) (by kernel_rfl) (by kernel_rfl) (by kernel_rfl) (fun _ _ _ h => h) (Or.inl ⟨by kernel_rfl, ?_⟩) hS ?_
                      rotate_left
                      · intro w' hSw; obtain ⟨y0, y1, y2, y3, y4, y5⟩ := hSw; go_simp; with_reducible rfl
                      try simp only [Act.put, List.setIfInBounds_toArray, List.set_cons_zero, List.set_cons_succ]
                      refine wpAnyY_take (i := 19) (v := ?_) rfl (by kernel_rfl) (by kernel_rfl) (by kernel_rfl) (by kernel_rfl) (fun _ _ _ h => h) (Or.inl ⟨by kernel_rfl, ?_⟩) hS ?_
                      rotate_left
                      · intro w' hSw; go_simp; with_reducible rfl
                      try simp only [Act.put, List.setIfInBounds_toArray, List.set_cons_zero, List.set_cons_succ]
                      refine wpAnyY_take (i := 20) (v := ?_) rfl (by kernel_rfl) (by kernel_rfl) (by kernel_rfl) (by kernel_rfl) (fun _ _ _ h => h) (Or.inl ⟨by kernel_rfl, ?_⟩) hS ?_
                      rotate_left
                      · intro w' hSw; go_simp; with_reducible rfl
                      try simp only [Act.put, List.setIfInBounds_toArray, List.set_cons_zero, List.set_cons_succ]
                      refine wpAnyY_oneW (i := 21) (by kernel_rfl) rfl (by kernel_rfl) (by kernel_rfl) (fun K21 hK21 => ?_)
                      go_simp
                      refine hK21.out _ _ ?_
                      try simp only [Act.put, List.setIfInBounds_toArray, List.set_cons_zero, List.set_cons_succ]
                      refine wpAnyY_done (by kernel_rfl) ?_ _
                      clear hK21
                      clear hS
                      have gzy : G wz wz.drew := (G.rf _).d
                      generalize wz.drew = wy at *
                      clear qe co2
                      have gwy := gz.t gzy
                      have gky := hgz0.t gzy
                      go_wp2
                      go_roundw
                      case rel => exact ⟨k + 1, by omega, by go_num, by rw [HE.out, ← HDN.out]; exact HV.out.keep gky, by rw [HE.out, ← HDN.out]; exact own_G HNo.out gky, gwy⟩
                      case measure => simp [intOf]; omega
                · have hki : ¬ (k : Int) < P.length := by omega
                  have hT : P.take k = P := List.take_of_length_le (by omega)
                  rw [hT, ← HSr.out] at HV HNo
                  clear hT
                  go_wp2
                  go_roundw
                  case rel => exact ⟨r + 1, by omega, by go_num, HV.out, HNo.out, hGk⟩
                  case measure => simp [intOf]; omega
            · obtain rfl : r = T.length := by omega
              have hri : ¬ ((T.length : Nat) : Int) < T.length := by omega
              have hT : T.take T.length = T := List.take_length
              rw [hT] at HN1 HN2
              rw [← HTSi.out] at HN1 HN2
              clear hT
              have HM1 := Lib.hid (HN1.out)
              obtain ⟨ra, rc, ev⟩ : ∃ ra rc, u12 = Value.slice ra (tt (i + 1)).length rc := by
                obtain ⟨vs, _, h2, _⟩ := HM1.out
                obtain ⟨ra, rc, e⟩ := own_slice h2
                exact ⟨ra, rc, by rw [e]; simp⟩
              obtain ⟨oa, oc, eo⟩ := own_slice HN2.out
              subst ev eo
              clear HM1
              go_wp2
              go_roundw
              case rel => exact ⟨i + 1, ra, oa, rc, oc, by omega, by go_num, rfl, rfl, own_baseT HN1.out (Nat.le_trans g0.size gx0.size), own_weaken HN2.out (Nat.le_trans g0.size gx0.size), gx0.t hGs⟩
              case measure => simp [intOf]; omega
    · obtain rfl : i = ls.length := by omega
      have hii : ¬ ((ls.length : Nat) : Int) < ls.length := by omega
      have HFn := Lib.hid (HPP.out wo _ HRo.out (g0.t hGr))
      go_wp2
      exact HFn.out
end
end Go.Proofs.Ytpjfdfddcnocpaa
