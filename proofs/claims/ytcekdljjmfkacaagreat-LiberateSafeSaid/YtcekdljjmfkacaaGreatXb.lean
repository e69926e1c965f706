import Derived.Test.YtcekdljjmfkacaaGreatLg
import Derived.Test.YtcekdljjmfkacaaGreatMe
import Derived.Test.YtcekdljjmfkacaaGreatLk
import Derived.Test.YtcekdljjmfkacaaGreatKc
set_option linter.unusedSimpArgs false
set_option linter.unusedVariables false
namespace Go.Proofs.YtcekdljjmfkacaaGreat
open Go.RowKit
attribute [local go_sem] Oper.semAt_some

section
variable (north wrong lw lg lh hours dark : Int) (cols lofts bx bY hx hy sl sh m hi : Nat) (east : List Int) (svs : List Sv) (n k : Nat) (h f : Nat → Nat → Int) (ea sa ha fa : Option Addr) (ec sc hc fc : Nat) (w : World)
set_option maxRecDepth 100000 in
set_option maxHeartbeats 4000000 in
theorem Passes_ok (he : IntsAt w ea east) (hs : SvsAt w sa svs) (hk : checkE north cols east lofts svs wrong = 0) (hr : RelOk cols east.length bx bY sl sh lw lg lh hours dark n h) (hH : RowAt w ha n 2 h) (hF : RowAt w fa k 12 f) (hk12 : k ≤ 12) (hfo : ∀ i, i < k → FrontOk cols east.length hours (f i))
    (hin : hi < n) (h0 : h hi 0 = (hx : Nat)) (h1 : h hi 1 = (hy : Nat)) (hm : m ≤ 9999) :
    Calls Tryz.prog 13 #[.agg #[.int .i64 north, .int .i64 (cols : Nat), .slice ea east.length ec, .int .i64 (lofts : Nat), .slice sa svs.length sc, .int .i64 wrong, .int .i64 (bx : Nat), .int .i64 (bY : Nat), .slice ha n hc, .int .i64 (sl : Nat), .int .i64 (sh : Nat), .slice fa k fc, .int .i64 lw, .int .i64 lg, .int .i64 lh, .int .i64 hours, .int .i64 dark], .int .i64 hi, .int .i64 m] w (PaPost w (spV north east (pbK bx bY hx hy (stepsN bx bY hx hy) (stepsN bx bY hx hy)) sl sh m (stepsN bx bY hx hy + 1)) (stepsN bx bY hx hy + 1)) := by
  have hvb := vm_bounds (checkE_ok hk)
  have hsp := hr.speed
  have hbase := hr.base
  have hhome := hr.homes hi hin
  have hn6 := hr.many
  rw [h0, h1] at hhome
  unfold spanB at hsp
  simp only [Bool.and_eq_true, decide_eq_true_eq] at hsp
  unfold isPlaceB isInB at hbase hhome
  simp only [Bool.and_eq_true, decide_eq_true_eq] at hbase hhome
  have hI := fun (W : World) => isHome_any north cols lofts wrong bx bY sl sh lw lg lh hours dark ea east.length ec (.slice sa svs.length sc) (.slice fa k fc) n ha hc hi W (by omega)
  rw [show isInB (hi : Int) 0 ((n : Int) - 1) = true by simp [isInB]; omega] at hI
  have hM := fun (W : World) => lMinute_any m W
  rw [show isInB (m : Int) 0 9999 = true by simp [isInB]; omega] at hM
  have HQ := (fun (W : World) (hW : G w W) => relQuestion_ok north cols lofts wrong bx bY sl sh lw lg lh hours dark east svs n k h f ea sa ha fa ec sc hc fc W (he.below hW) (hs.below hW) hk hr (hH.below hW) (hF.below hW) hk12 hfo)
  have HST := (fun (W : World) (hW : G w W) => stopsTo_ok north wrong lw lg lh hours dark cols lofts bx bY hx hy sl sh east svs n k ea sa ha fa ec sc hc fc W (he.below hW) (hs.below hW) hk (by omega) (by omega) (by omega) (by omega) (by omega) (by omega))
  unfold StPost at HST
  rw [← pbK_len bx bY hx hy (stepsN bx bY hx hy) (stepsN bx bY hx hy)]
  have hPl := pbK_len bx bY hx hy (stepsN bx bY hx hy) (stepsN bx bY hx hy)
  have hst99 : stepsN bx bY hx hy ≤ 99 := by unfold stepsN dst; omega
  have hPm := pbK_mem (fx := bx) (fy := bY) (tx := hx) (ty := hy) (n := stepsN bx bY hx hy) (k := stepsN bx bY hx hy) (cols := cols) (rows := east.length) (Nat.le_refl _) (by omega) (by omega) (by omega) (by omega)
  obtain ⟨P, hP⟩ : ∃ P, P = pbK bx bY hx hy (stepsN bx bY hx hy) (stepsN bx bY hx hy) := ⟨_, rfl⟩
  rw [← hP] at HST hPm hPl ⊢
  have hgm : ∀ i, i < P.length → (P.getD i (0, 0)).1 < cols ∧ (P.getD i (0, 0)).2 < east.length := fun i hi => hPm _ (by
    rw [show P.getD i (0, 0) = P[i] by simp [hi]]
    exact List.getElem_mem hi)
  have hsq : ∀ i, i < P.length → lenS north east P i ≤ 100000000 := fun i hi => by
    have h1 := hgm i hi
    have h2 := hgm (min (i + 1) (P.length - 1)) (by omega)
    have := sq_bd (ax := (P.getD i (0, 0)).1) (bx := (P.getD (min (i + 1) (P.length - 1)) (0, 0)).1) (checkE_ok hk) h1.2 h2.2 (inB h1.1) (inB h2.1)
    exact rnd0_le _ (by omega)
  have hfar : ∀ i, i ≤ P.length → farL north east P i ≤ i * 100000000 := by
    intro i
    induction i with
    | zero => intro _; simp [farL]
    | succ i ih =>
      intro hi
      have := ih (by omega)
      have := hsq i (by omega)
      rw [farL_succ]
      omega
  have hbd : ∀ i, i < P.length → loT north east P sh i ≤ 20000000000 ∧ hiT north east P sl i ≤ 20000000000 := fun i hi => by
    have a := hsq i hi
    have b := hfar i (by omega)
    have c := Nat.div_le_self (farL north east P i) sh
    have d := Nat.div_le_self (farL north east P i + lenS north east P i + sl - 1) sl
    unfold loT hiT
    omega
  have hP1 : 1 ≤ P.length := by omega
  have hP100 : P.length ≤ 100 := by omega
  rcases hH with hH | ⟨gH, oH, rfl, hgH, hcH⟩
  · omega
  have e0 := hcH hi hin 0 (by omega)
  have e1 := hcH hi hin 1 (by omega)
  rw [h0, Nat.add_zero] at e0
  rw [h1] at e1
  exact Passes_walk hx hy m hi n hc w #[.int .i64 north, .int .i64 (cols : Nat), .slice ea east.length ec, .int .i64 (lofts : Nat), .slice sa svs.length sc, .int .i64 wrong, .int .i64 (bx : Nat), .int .i64 (bY : Nat), .slice (some ⟨gH, oH, none⟩) n hc, .int .i64 (sl : Nat), .int .i64 (sh : Nat), .slice fa k fc, .int .i64 lw, .int .i64 lg, .int .i64 lh, .int .i64 hours, .int .i64 dark] gH oH (fun i => ((P.getD i (0, 0)).1 : Nat)) (fun i => ((P.getD i (0, 0)).2 : Nat)) (fun i => (loT north east P sh i : Nat)) (fun i => (hiT north east P sl i : Nat)) P.length ⟨hP1, hP100⟩ hm
    (fun i hi => by have := hbd i hi; omega)
    { isrel := ⟨_, _, _, _, _, _, _, _, _, _, _, _, _, _, _, _, _, _, _, _, _, _, _, _, _, rfl⟩, home := hI, minute := hM, question := HQ, stops := HST, cell := rfl, lt := hgH, c0 := e0, c1 := e1, hin := hin }
end
end Go.Proofs.YtcekdljjmfkacaaGreat
set_option linter.unusedSimpArgs false
set_option linter.unusedVariables false
namespace Go.Proofs.YtcekdljjmfkacaaGreat
open Go.RowKit

/-- a frame whose slots (second) hold what the operations (first) yield -/
def TP (ds : List (Nat × Nat)) (tm : Array Value) (f : Nat → Value) : Array Value := ds.foldl (fun t p => t.setIfInBounds p.2 (f p.1)) tm
theorem TP_comm (d : Nat) (v : Value) : ∀ (ds : List (Nat × Nat)) (tm : Array Value) (f : Nat → Value), d ∉ ds.map (·.2) → (TP ds tm f).setIfInBounds d v = TP ds (tm.setIfInBounds d v) f
  | [], _, _, _ => rfl
  | p :: ds, tm, f, h => by
    have h1 : d ≠ p.2 := fun e => h (by simp [e])
    have h2 : d ∉ ds.map (·.2) := fun e => h (by simp only [List.map_cons, List.mem_cons]; exact .inr e)
    show (TP ds (tm.setIfInBounds p.2 (f p.1)) f).setIfInBounds d v = TP ds ((tm.setIfInBounds d v).setIfInBounds p.2 (f p.1)) f
    rw [TP_comm d v ds _ f h2, Array.setIfInBounds_comm _ _ (Ne.symm h1)]
theorem TP_upd (j : Nat) (v : Value) : ∀ (ds : List (Nat × Nat)) (tm : Array Value) (f : Nat → Value), j ∉ ds.map (·.1) → TP ds tm (upd f j v) = TP ds tm f
  | [], _, _, _ => rfl
  | p :: ds, tm, f, h => by
    have h1 : p.1 ≠ j := fun e => h (by simp [e])
    have h2 : j ∉ ds.map (·.1) := fun e => h (by simp only [List.map_cons, List.mem_cons]; exact .inr e)
    show TP ds (tm.setIfInBounds p.2 (upd f j v p.1)) (upd f j v) = TP ds (tm.setIfInBounds p.2 (f p.1)) f
    rw [TP_upd j v ds _ f h2, show upd f j v p.1 = f p.1 from if_neg h1]
theorem TP_set (j d : Nat) (v : Value) : ∀ (ds : List (Nat × Nat)) (tm : Array Value) (f : Nat → Value), (ds.map (·.1)).Nodup → (ds.map (·.2)).Nodup → (j, d) ∈ ds → (TP ds tm f).setIfInBounds d v = TP ds tm (upd f j v)
  | [], _, _, _, _, h => by cases h
  | p :: ds, tm, f, n1, n2, h => by
    simp only [List.map_cons, List.nodup_cons] at n1 n2
    rcases List.mem_cons.1 h with rfl | h
    · show (TP ds (tm.setIfInBounds d (f j)) f).setIfInBounds d v = TP ds (tm.setIfInBounds d (upd f j v j)) (upd f j v)
      rw [TP_comm d v ds _ f n2.1, TP_upd j v ds _ f n1.1, show upd f j v j = v from if_pos rfl]
      congr 1
      refine Array.ext_getElem? fun k => ?_
      simp only [Array.getElem?_setIfInBounds, Array.size_setIfInBounds]
      by_cases hk : d = k
      · subst hk; simp
      · simp [hk]
    · have h1 : p.1 ≠ j := fun e => n1.1 (by rw [e]; exact List.mem_map.2 ⟨_, h, rfl⟩)
      show (TP ds (tm.setIfInBounds p.2 (f p.1)) f).setIfInBounds d v = TP ds (tm.setIfInBounds p.2 (upd f j v p.1)) (upd f j v)
      rw [TP_set j d v ds _ f n1.2 n2.2 h, show upd f j v p.1 = f p.1 from if_neg h1]

/-- all orders of some operations: whoever is ready is one of them, those that it leans on are done, and at the end lF is listed -/
def permOK (md : Region.Mode) (ops : Array Oper) (deps : List (Nat × Nat)) : Nat → List Nat → List Nat → Array Bool → Array Bool → Bool
  | 0, pend, _, l, lF => pend.isEmpty && l == lF
  | n + 1, pend, done, l, lF => !(Region.ready md ops l).isEmpty && (Region.ready md ops l).all fun j => pend.contains j && (deps.all fun p => p.1 != j || done.contains p.2) && permOK md ops deps n (pend.erase j) (j :: done) (l.setIfInBounds j true) lF
section
variable {P : Program} {ops : Array Oper} {md : Region.Mode} {Q : Exit → Act → World → Prop} {S : World → Prop} {z : Nat}
theorem wpAnyY_perm {fuel N : Nat} {l lF : Array Bool} {w0 : World} (ds deps : List (Nat × Nat)) (tm : Array Value) (R : Nat → Value → World → Prop) (hN : N = ds.length)
    (hok : permOK md ops deps N (ds.map (·.1)) [] l lF = true) (h1 : (ds.map (·.1)).Nodup) (h2 : (ds.map (·.2)).Nodup) (htm : TP ds tm (fun _ => undef) = tm)
    (hS : ∀ W, G w0 W → S W) (hR : ∀ p ∈ ds, ∀ v W W', R p.1 v W → G W W' → R p.1 v W')
    (hop : ∀ p ∈ ds, ∀ (f : Nat → Value) (W : World) (K' : Act → World → Prop), G w0 W → (∀ q ∈ deps, q.1 = p.1 → R q.2 (f q.2) W) →
      (∀ v W', G W W' → R p.1 v W' → K' ⟨(TP ds tm f).setIfInBounds p.2 v, []⟩ W') → ∃ o, ops[p.1]? = some o ∧ Region.wanted o (yielded ops (TP ds tm f)) = true ∧ Oper.wp P o ⟨TP ds tm f, []⟩ W K' Q)
    (hfin : ∀ (f : Nat → Value) (W : World), G w0 W → (∀ p ∈ ds, R p.1 (f p.1) W) → wpAnyY P md ops Q S z fuel lF ⟨TP ds tm f, []⟩ W) :
    wpAnyY P md ops Q S z (fuel + N) l ⟨tm, []⟩ w0 := by
  suffices key : ∀ (n : Nat) (pend done : List Nat) (l : Array Bool) (f : Nat → Value) (W : World), permOK md ops deps n pend done l lF = true → G w0 W → (∀ j ∈ done, R j (f j) W) → (∀ p ∈ ds, p.1 ∈ pend ∨ p.1 ∈ done) → (∀ j ∈ pend, ∃ d, (j, d) ∈ ds) → (∀ j ∈ done, ∃ d, (j, d) ∈ ds) → (∀ j ∈ pend, j ∉ done) → pend.Nodup →
      wpAnyY P md ops Q S z (fuel + n) l ⟨TP ds tm f, []⟩ W by
    have := key N (ds.map (·.1)) [] l (fun _ => undef) w0 hok (G.rf _) (fun _ h => by cases h) (fun p hp => .inl (List.mem_map.2 ⟨p, hp, rfl⟩)) (fun j hj => by obtain ⟨p, hp, rfl⟩ := List.mem_map.1 hj; exact ⟨p.2, hp⟩) (fun _ h => by cases h) (fun _ _ h => by cases h) h1
    rwa [htm] at this
  intro n
  induction n with
  | zero =>
    intro pend done l f W hk hG hd hall _ _ _ _
    simp only [permOK, Bool.and_eq_true, List.isEmpty_iff, beq_iff_eq] at hk
    obtain ⟨rfl, rfl⟩ := hk
    refine hfin f W hG fun p hp => ?_
    rcases hall p hp with h | h
    · cases h
    · exact hd _ h
  | succ n ih =>
    intro pend done l f W hk hG hd hall hpd hdd hnd hnp
    simp only [permOK, Bool.and_eq_true, Bool.not_eq_true', List.all_eq_true] at hk
    obtain ⟨hne, hrd⟩ := hk
    refine ⟨fun h0 => absurd hne (by rw [h0]; simp), fun j hj => ?_⟩
    obtain ⟨⟨hjp, hjd⟩, hrest⟩ := hrd j hj
    have hjp : j ∈ pend := by simpa using hjp
    obtain ⟨d, hjds⟩ := hpd j hjp
    obtain ⟨o, ho, hw, hwp⟩ := hop (j, d) hjds f W (fun a' w' => ((l.setIfInBounds j true).getD z false = false → S w') ∧ wpAnyY P md ops Q S z (fuel + n) (l.setIfInBounds j true) a' w') hG (fun q hq hqj => by
      have := hjd q hq
      simp only [Bool.or_eq_true, bne_iff_ne, ne_eq, List.contains_eq_mem, decide_eq_true_eq] at this
      exact hd _ (this.resolve_left fun h => h hqj)) (fun v W' hG' hv => by
      refine ⟨fun _ => hS _ (hG.t hG'), ?_⟩
      rw [TP_set j d v ds tm f h1 h2 hjds]
      refine ih (pend.erase j) (j :: done) _ (upd f j v) W' hrest (hG.t hG') (fun i hi => ?_) (fun p hp => ?_) (fun i hi => hpd i (List.mem_of_mem_erase hi)) (fun i hi => ?_) (fun i hi hid => ?_) (hnp.erase j)
      · rcases List.mem_cons.1 hi with rfl | hi
        · show R i (upd f i v i) W'
          rw [show upd f i v i = v from if_pos rfl]
          exact hv
        · have hij : i ≠ j := fun e => hnd j hjp (e ▸ hi)
          obtain ⟨di, hdi⟩ := hdd i hi
          rw [show upd f j v i = f i from if_neg hij]
          exact hR (i, di) hdi _ _ _ (hd i hi) hG'
      · by_cases e : p.1 = j
        · exact .inr (by rw [e]; exact List.mem_cons_self)
        · rcases hall p hp with h | h
          · exact .inl ((List.mem_erase_of_ne e).2 h)
          · exact .inr (List.mem_cons_of_mem _ h)
      · rcases List.mem_cons.1 hi with rfl | hi
        · exact ⟨d, hjds⟩
        · exact hdd i hi
      · rcases List.mem_cons.1 hid with rfl | hid
        · exact hnp.not_mem_erase hi
        · exact hnd i (List.mem_of_mem_erase hi) hid)
    exact wpOp_step ho fun K' hK' => by
      rw [if_pos hw]
      exact Oper.wp_mono (fun a w h => hK' a w h) hwp
end
end Go.Proofs.YtcekdljjmfkacaaGreat
