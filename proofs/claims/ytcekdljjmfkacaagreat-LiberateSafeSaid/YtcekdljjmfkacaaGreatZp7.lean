import Derived.Test.YtcekdljjmfkacaaGreatZp6
set_option linter.unusedSimpArgs false
set_option linter.unusedVariables false
namespace Go.Proofs.YtcekdljjmfkacaaGreat
open Go.RowKit Go.Shelf
attribute [local go_sem] Oper.semAt_some wide_fn wide_dep wideR_fn wideR_dep
section
variable {P : Program} {ops : Array Oper} {md : Region.Mode} {Q : Exit → Act → World → Prop} {S : World → Prop} {z : Nat}
theorem wpAnyY_perm0 {fuel N : Nat} {l lF : Array Bool} {w0 : World} (ds deps : List (Nat × Nat)) (tm : Array Value) (R : Nat → Value → World → Prop) (hN : N = ds.length)
    (hok : permOK md ops deps N (ds.map (·.1)) [] l lF = true) (h1 : (ds.map (·.1)).Nodup) (h2 : (ds.map (·.2)).Nodup) (f0 : Nat → Value) (htm : TP ds tm f0 = tm)
    (hS : ∀ W, G w0 W → S W) (hR : ∀ p ∈ ds, ∀ v W W', R p.1 v W → G W W' → R p.1 v W')
    (hop : ∀ p ∈ ds, ∀ (f : Nat → Value) (W : World) (K' : Act → World → Prop), G w0 W → (∀ q ∈ deps, q.1 = p.1 → R q.2 (f q.2) W) →
      (∀ v W', G W W' → R p.1 v W' → K' ⟨(TP ds tm f).setIfInBounds p.2 v, []⟩ W') → ∃ o, ops[p.1]? = some o ∧ Region.wanted o (yielded ops (TP ds tm f)) = true ∧ Oper.wp P o ⟨TP ds tm f, []⟩ W K' Q)
    (hfin : ∀ (f : Nat → Value) (W : World), G w0 W → (∀ p ∈ ds, R p.1 (f p.1) W) → wpAnyY P md ops Q S z fuel lF ⟨TP ds tm f, []⟩ W) :
    wpAnyY P md ops Q S z (fuel + N) l ⟨tm, []⟩ w0 := by
  suffices key : ∀ (n : Nat) (pend done : List Nat) (l : Array Bool) (f : Nat → Value) (W : World), permOK md ops deps n pend done l lF = true → G w0 W → (∀ j ∈ done, R j (f j) W) → (∀ p ∈ ds, p.1 ∈ pend ∨ p.1 ∈ done) → (∀ j ∈ pend, ∃ d, (j, d) ∈ ds) → (∀ j ∈ done, ∃ d, (j, d) ∈ ds) → (∀ j ∈ pend, j ∉ done) → pend.Nodup →
      wpAnyY P md ops Q S z (fuel + n) l ⟨TP ds tm f, []⟩ W by
    have := key N (ds.map (·.1)) [] l f0 w0 hok (G.rf _) (fun _ h => by cases h) (fun p hp => .inl (List.mem_map.2 ⟨p, hp, rfl⟩)) (fun j hj => by obtain ⟨p, hp, rfl⟩ := List.mem_map.1 hj; exact ⟨p.2, hp⟩) (fun _ h => by cases h) (fun _ _ h => by cases h) h1
    rwa [htm] at this
  intro n
  induction n with
  | zero =>
    intro pend done l f W hk hG hd hall _ _ _ _
    simp only [permOK, Bool.and_eq_true, List.isEmpty_iff, beq_iff_eq] at hk
    obtain ⟨rfl, rfl⟩ := hk
    refine hfin f W hG fun p hp => ?_
    rcases hall p hp with h | h
    · cases h
    · exact hd _ h
  | succ n ih =>
    intro pend done l f W hk hG hd hall hpd hdd hnd hnp
    simp only [permOK, Bool.and_eq_true, Bool.not_eq_true', List.all_eq_true] at hk
    obtain ⟨hne, hrd⟩ := hk
    refine ⟨fun h0 => absurd hne (by rw [h0]; simp), fun j hj => ?_⟩
    obtain ⟨⟨hjp, hjd⟩, hrest⟩ := hrd j hj
    have hjp : j ∈ pend := by simpa using hjp
    obtain ⟨d, hjds⟩ := hpd j hjp
    obtain ⟨o, ho, hw, hwp⟩ := hop (j, d) hjds f W (fun a' w' => ((l.setIfInBounds j true).getD z false = false → S w') ∧ wpAnyY P md ops Q S z (fuel + n) (l.setIfInBounds j true) a' w') hG (fun q hq hqj => by
      have := hjd q hq
      simp only [Bool.or_eq_true, bne_iff_ne, ne_eq, List.contains_eq_mem, decide_eq_true_eq] at this
      exact hd _ (this.resolve_left fun h => h hqj)) (fun v W' hG' hv => by
      refine ⟨fun _ => hS _ (hG.t hG'), ?_⟩
      rw [TP_set j d v ds tm f h1 h2 hjds]
      refine ih (pend.erase j) (j :: done) _ (upd f j v) W' hrest (hG.t hG') (fun i hi => ?_) (fun p hp => ?_) (fun i hi => hpd i (List.mem_of_mem_erase hi)) (fun i hi => ?_) (fun i hi hid => ?_) (hnp.erase j)
      · rcases List.mem_cons.1 hi with rfl | hi
        · show R i (upd f i v i) W'
          rw [show upd f i v i = v from if_pos rfl]
          exact hv
        · have hij : i ≠ j := fun e => hnd j hjp (e ▸ hi)
          obtain ⟨di, hdi⟩ := hdd i hi
          rw [show upd f j v i = f i from if_neg hij]
          exact hR (i, di) hdi _ _ _ (hd i hi) hG'
      · by_cases e : p.1 = j
        · exact .inr (by rw [e]; exact List.mem_cons_self)
        · rcases hall p hp with h | h
          · exact .inl ((List.mem_erase_of_ne e).2 h)
          · exact .inr (List.mem_cons_of_mem _ h)
      · rcases List.mem_cons.1 hi with rfl | hi
        · exact ⟨d, hjds⟩
        · exact hdd i hi
      · rcases List.mem_cons.1 hid with rfl | hid
        · exact hnp.not_mem_erase hi
        · exact hnd i (List.mem_of_mem_erase hi) hid)
    exact wpOp_step ho fun K' hK' => by
      rw [if_pos hw]
      exact Oper.wp_mono (fun a w h => hK' a w h) hwp
end
def RS (sk : Sk) (b : Nat) (j : Nat) (v : Value) (W : World) : Prop := (j = 6 → v = .agg sk.v) ∧ (j = 7 → ∃ g, v = .pointer (some ⟨g, 0, none⟩) ∧ b ≤ g ∧ Blk W g 49 sk0.v)
theorem RS_keep {sk : Sk} {b j : Nat} {v : Value} {W W' : World} (h : RS sk b j v W) (k : G W W') : RS sk b j v W' := by
  refine ⟨h.1, fun e => ?_⟩
  obtain ⟨g, a, c, d⟩ := h.2 e
  exact ⟨g, a, c, d.keep k⟩
def sumS (lw lg lh : Int) (f : Nat → Nat → Int) (kk : Nat) (P : List (Nat × Nat)) (lo hi : Nat → Nat) : Int :=
  if ((List.range P.length).all fun k => hB (okP lw lg lh f kk P k) (lo k / 60) (hi k / 60 + 1 - lo k / 60)) = true then 1 else if ((List.range P.length).any fun k => hB (ouP lw lg lh f kk P k) (lo k / 60) (hi k / 60 + 1 - lo k / 60)) = true then 2 else 3
section
variable (i mi kk fc : Nat) (lw lg lh : Int) (P : List (Nat × Nat)) (L : List Value) (lo hi : Nat → Nat) (f : Nat → Nat → Int) (fa : Option Addr) (REL : Array Value) (w : World)
def allTo (k : Nat) : Bool := (List.range k).all fun k => hB (okP lw lg lh f kk P k) (lo k / 60) (hi k / 60 + 1 - lo k / 60)
def anyTo (k : Nat) : Bool := (List.range k).any fun k => hB (ouP lw lg lh f kk P k) (lo k / 60) (hi k / 60 + 1 - lo k / 60)
theorem allTo_succ (k : Nat) : allTo kk lw lg lh P lo hi f (k + 1) = (allTo kk lw lg lh P lo hi f k && hB (okP lw lg lh f kk P k) (lo k / 60) (hi k / 60 + 1 - lo k / 60)) := by
  unfold allTo
  rw [List.range_succ]
  simp
theorem anyTo_succ (k : Nat) : anyTo kk lw lg lh P lo hi f (k + 1) = (anyTo kk lw lg lh P lo hi f k || hB (ouP lw lg lh f kk P k) (lo k / 60) (hi k / 60 + 1 - lo k / 60)) := by
  unfold anyTo
  rw [List.range_succ]
  simp
set_option maxRecDepth 100000 in
set_option maxHeartbeats 8000000 in
theorem rSafeN_walk (hIs : IsRel REL) (h11 : REL[11]? = some (.slice fa kk fc)) (h12 : REL[12]? = some (.int .i64 lw)) (h13 : REL[13]? = some (.int .i64 lg)) (h14 : REL[14]? = some (.int .i64 lh)) (hR : RowAt w fa kk 12 f) (hkk : kk ≤ 1000) (hN : 1 ≤ P.length ∧ P.length ≤ 1000) (hbd : ∀ k, k < P.length → lo k ≤ 100000000000 ∧ hi k ≤ 100000000000)
    (hW : ∀ W, G w W → Calls Tryz.prog 42 #[.agg REL, .int .i64 (i : Nat)] W (PbPost W P)) (hPs : ∀ W, G w W → Calls Tryz.prog 47 #[.agg REL, .int .i64 (i : Nat), .int .i64 (mi : Nat)] W (SpPost W L P.length))
    (hL : ∀ k, k < P.length → L[k * 2]? = some (.int .i64 (lo k : Nat)) ∧ L[k * 2 + 1]? = some (.int .i64 (hi k : Nat)))
    : Calls Tryz.prog 57 #[.agg REL, .int .i64 (i : Nat), .int .i64 (mi : Nat)] w fun e w' => e = .returned (.int .i64 (sumS lw lg lh f kk P lo hi)) ∧ G w w' := by
  have HFIN : Hid (∀ w' (A B : Bool), A = allTo kk lw lg lh P lo hi f P.length → B = anyTo kk lw lg lh P lo hi f P.length → G w w' → (fun e w' => e = .returned (.int .i64 (sumS lw lg lh f kk P lo hi)) ∧ G w w' : Ending → World → Prop) (.returned (.int .i64 (if A = true then 1 else if B = true then 2 else 3))) w') := fun w' A B a b g => ⟨by rw [a, b]; rfl, g⟩
  generalize (fun e w' => e = .returned (.int .i64 (sumS lw lg lh f kk P lo hi)) ∧ G w w' : Ending → World → Prop) = PP at *
  have HKn := Lib.hid (fun (W : World) (hW : G w W) (x y t : Int) => rKnown_any REL f x y t kk fc fa W h11 (hR.below hW) hkk)
  have HIN := Lib.hid (fun (s : Sk) (W : World) => rInside_any lw lg lh s W)
  have HOU := Lib.hid (fun (s : Sk) (W : World) => rOutside_any lw lg lh s W)
  have HIS := Lib.hid hIs
  have H12 := Lib.hid h12
  have H13 := Lib.hid h13
  have H14 := Lib.hid h14
  have H12' := Lib.hid h12
  have H13' := Lib.hid h13
  have H14' := Lib.hid h14
  have HBD := Lib.hid hbd
  have HW := Lib.hid hW
  have HPS := Lib.hid hPs
  have HL := Lib.hid hL
  clear hIs h11 h12 h13 h14 hR hbd hW hPs hL
  have g0 : G w (w.alloc (.cells REL 35)) := (G.rf _).a _
  have b0 : Blk (w.alloc (.cells REL 35)) w.heap.size 35 REL := Blk.new w 35 REL
  go_enter Tryz.func57, Tryz.ntmps57
  go_upto_region 1 with fail
  change Code.wp _ _ _ _ (w.alloc (.cells REL 35))
  generalize w.alloc (.cells REL 35) = w1 at *
  refine wp_region_Y (S := fun W' => Blk W' w.heap.size 35 REL) 8 9 rfl (by kernel_rfl) (b0.keep (G.rf _).d) (fun hS => ?_)
  have gd := (G.rf w1).d
  refine wpAnyY_take (i := 0) (v := .agg REL) rfl (by kernel_rfl) (by kernel_rfl) (by kernel_rfl) (by kernel_rfl) (fun _ _ _ h => h) (Or.inl ⟨by kernel_rfl, ?_⟩) hS ?_
  · intro w' hSw; exact load46o w' w.heap.size 3 HIS.out _ _ rfl (by kernel_rfl) hSw
  try simp only [Act.put, List.getElem_toArray, List.getElem_cons_zero, List.getElem_cons_succ, List.setIfInBounds_toArray, List.set_cons_zero, List.set_cons_succ]
  refine wpAnyY_take (i := 1) (v := ?_) rfl (by kernel_rfl) (by kernel_rfl) (by kernel_rfl) (by kernel_rfl) (fun _ _ _ h => h) (Or.inl ⟨by kernel_rfl, ?_⟩) hS ?_
  rotate_left
  · intro w' hSw; go_simp; with_reducible rfl
  try simp only [Act.put, List.getElem_toArray, List.getElem_cons_zero, List.getElem_cons_succ, List.setIfInBounds_toArray, List.set_cons_zero, List.set_cons_succ]
  refine wpAnyY_take (i := 3) (v := .agg REL) rfl (by kernel_rfl) (by kernel_rfl) (by kernel_rfl) (by kernel_rfl) (fun _ _ _ h => h) (Or.inl ⟨by kernel_rfl, ?_⟩) hS ?_
  · intro w' hSw; exact load46o w' w.heap.size 3 HIS.out _ _ rfl (by kernel_rfl) hSw
  try simp only [Act.put, List.getElem_toArray, List.getElem_cons_zero, List.getElem_cons_succ, List.setIfInBounds_toArray, List.set_cons_zero, List.set_cons_succ]
  refine wpAnyY_take (i := 4) (v := ?_) rfl (by kernel_rfl) (by kernel_rfl) (by kernel_rfl) (by kernel_rfl) (fun _ _ _ h => h) (Or.inl ⟨by kernel_rfl, ?_⟩) hS ?_
  rotate_left
  · intro w' hSw; go_simp; with_reducible rfl
  try simp only [Act.put, List.getElem_toArray, List.getElem_cons_zero, List.getElem_cons_succ, List.setIfInBounds_toArray, List.set_cons_zero, List.set_cons_succ]
  refine wpAnyY_take (i := 5) (v := ?_) rfl (by kernel_rfl) (by kernel_rfl) (by kernel_rfl) (by kernel_rfl) (fun _ _ _ h => h) (Or.inl ⟨by kernel_rfl, ?_⟩) hS ?_
  rotate_left
  · intro w' hSw; go_simp; with_reducible rfl
  try simp only [Act.put, List.getElem_toArray, List.getElem_cons_zero, List.getElem_cons_succ, List.setIfInBounds_toArray, List.set_cons_zero, List.set_cons_succ]
  refine wpAnyY_perm (fuel := 2) (N := 2) (lF := #[true, true, true, true, true, true, true, false, false]) [(2, 17), (6, 21)] [] _ (RB P lo hi) rfl (by kernel_rfl) (by decide) (by decide) (by kernel_rfl) (fun W hW => b0.keep (gd.t hW)) (fun p _ v W W' h k => RB_keep h k) ?_ ?_
  · intro p hp f W K' hW hd hK
    simp only [List.mem_cons, List.not_mem_nil, or_false] at hp
    rcases hp with rfl | rfl
    · simp only [TP, List.foldl_cons, List.foldl_nil, List.setIfInBounds_toArray, List.set_cons_zero, List.set_cons_succ] at hK ⊢
      have HK := Lib.hid hK
      clear hK
      refine ⟨_, rfl, by kernel_rfl, ?_⟩
      go_simp
      refine (HW.out _ (g0.t (gd.t hW))).mono ?_
      rintro e w3 ⟨v, rfl, hown, hG3⟩
      obtain ⟨gA, capA, eA, hgA, hpt⟩ := pts_own rfl hown (by omega)
      try simp only [Act.put, List.getElem_toArray, List.getElem_cons_zero, List.getElem_cons_succ, List.setIfInBounds_toArray, List.set_cons_zero, List.set_cons_succ]
      exact HK.out _ _ hG3 ⟨fun _ => ⟨gA, capA, eA, hgA, hpt⟩, fun e => absurd e (by decide)⟩
    · simp only [TP, List.foldl_cons, List.foldl_nil, List.setIfInBounds_toArray, List.set_cons_zero, List.set_cons_succ] at hK ⊢
      have HK := Lib.hid hK
      clear hK
      refine ⟨_, rfl, by kernel_rfl, ?_⟩
      go_simp
      refine (HPS.out _ (g0.t (gd.t hW))).mono ?_
      rintro e w3 ⟨v, rfl, hown, hG3⟩
      try simp only [Act.put, List.getElem_toArray, List.getElem_cons_zero, List.getElem_cons_succ, List.setIfInBounds_toArray, List.set_cons_zero, List.set_cons_succ]
      exact HK.out _ _ hG3 ⟨fun e => absurd e (by decide), fun _ => sp_own hown (by omega) HL.out⟩
  intro f' W hW hf
  obtain ⟨gA, capA, eA, hgA, hpt⟩ := (hf (2, 17) (by simp)).1 rfl
  obtain ⟨gT, capT, eT, hgT, hsp⟩ := (hf (6, 21) (by simp)).2 rfl
  have gw := gd.t hW
  replace b0 := b0.keep gw
  replace g0 := g0.t gw
  have HPT := Lib.hid hpt
  have HSP := Lib.hid hsp
  clear hf hpt hsp HW HPS gw gd hW
  simp only at eA eT
  simp only [TP, List.foldl_cons, List.foldl_nil, List.setIfInBounds_toArray, List.set_cons_zero, List.set_cons_succ]
  rw [eA, eT]
  clear eA eT hS
  have hS := b0
  refine wpAnyY_take (i := 7) (v := ?_) rfl (by kernel_rfl) (by kernel_rfl) (by kernel_rfl) (by kernel_rfl) (fun _ _ _ h => h) (Or.inl ⟨by kernel_rfl, ?_⟩) hS ?_
  rotate_left
  · intro w' hSw; go_simp; with_reducible rfl
  try simp only [Act.put, List.getElem_toArray, List.getElem_cons_zero, List.getElem_cons_succ, List.setIfInBounds_toArray, List.set_cons_zero, List.set_cons_succ]
  refine wpAnyY_oneW (i := 8) (by kernel_rfl) rfl (by kernel_rfl) (by kernel_rfl) (fun K8 hK8 => ?_)
  go_simp
  refine hK8.out _ _ ?_
  try simp only [Act.put, List.getElem_toArray, List.getElem_cons_zero, List.getElem_cons_succ, List.setIfInBounds_toArray, List.set_cons_zero, List.set_cons_succ]
  refine wpAnyY_done (by kernel_rfl) ?_ _
  clear hS hK8
  go_wp2_with fail
  go_loopw [9, 10, 11] (fun a n q wr => ∃ k : Nat, k ≤ P.length ∧ a = .bool (allTo kk lw lg lh P lo hi f k) ∧ n = .bool (anyTo kk lw lg lh P lo hi f k) ∧ q = .int .i64 (k : Nat) ∧ G W wr) (fun _ _ q _ => P.length - (intOf q).toNat)
  case atStart => exact ⟨0, Nat.zero_le _, rfl, rfl, rfl, G.rf _⟩
  case round =>
    obtain ⟨k, hk, rfl, rfl, rfl, hG⟩ := hrel
    obtain ⟨wo, rfl⟩ : ∃ wo, wo = wr := ⟨_, rfl⟩
    by_cases hlt : k < P.length
    · have hki : (k : Int) < P.length := by omega
      obtain ⟨s0, s1⟩ := (HSP.out.keep hgT hG) k hlt
      have hbk := HBD.out k hlt
      have HAS := Lib.hid (allTo_succ kk lw lg lh P lo hi f k)
      have HNS := Lib.hid (anyTo_succ kk lw lg lh P lo hi f k)
      obtain ⟨b, hb⟩ : ∃ b, b = hi k := ⟨_, rfl⟩
      have HB := Lib.hid hb
      obtain ⟨ta, hta⟩ : ∃ ta, ta = lo k / 60 := ⟨_, rfl⟩
      obtain ⟨tb, htb⟩ : ∃ tb, tb = b / 60 := ⟨_, rfl⟩
      have x1 : ((lo k : Nat) : Int).tdiv 60 = (ta : Nat) := by rw [hta]; exact tdiv60 _
      have x2 : ((b : Nat) : Int).tdiv 60 = (tb : Nat) := by rw [htb]; exact tdiv60 _
      rw [← hb] at s1 hbk
      rw [← hb, ← hta, ← htb] at HAS HNS
      have hbt : tb ≤ 100000000000 := by omega
      have hat : ta ≤ 100000000000 := by omega
      have x3 : IntKind.i64.wrap ((ta : Nat) : Int) = (ta : Nat) := IntWalk.i64_in _ (by omega)
      have x4 : IntKind.i64.wrap ((tb : Nat) : Int) = (tb : Nat) := IntWalk.i64_in _ (by omega)
      clear hb hta htb
      have lT := Nat.lt_of_lt_of_le hgT hG.size
      obtain ⟨A, hA⟩ : ∃ A, A = allTo kk lw lg lh P lo hi f k := ⟨_, rfl⟩
      obtain ⟨B, hBB⟩ : ∃ B, B = anyTo kk lw lg lh P lo hi f k := ⟨_, rfl⟩
      rw [← hA] at HAS ⊢
      rw [← hBB] at HNS ⊢
      clear hA hBB
      go_wp2_with fail
      clear s0 s1 lT x1
      go_loopw [9, 12, 13] (fun a u q wr => ∃ n : Nat, (n ≤ tb + 1 - ta) ∧ a = .bool (A && hB (okP lw lg lh f kk P k) ta n) ∧ u = .bool (hB (ouP lw lg lh f kk P k) ta n) ∧ q = .int .i64 ((ta + n : Nat) : Int) ∧ G W wr) (fun _ _ q _ => tb + 1 - (intOf q).toNat)
      case atStart => exact ⟨0, Nat.zero_le _, by simp [hB], rfl, by go_num, hG⟩
      case round =>
        clear hG
        obtain ⟨n, hn, rfl, rfl, rfl, hG⟩ := hrel
        obtain ⟨wo, rfl⟩ : ∃ wo, wo = wr := ⟨_, rfl⟩
        have s1 := ((HSP.out.keep hgT hG) k hlt).2
        rw [← HB.out] at s1
        have lT := Nat.lt_of_lt_of_le hgT hG.size
        obtain ⟨t, ht⟩ : ∃ t, t = ta + n := ⟨_, rfl⟩
        have HT := Lib.hid ht
        rw [← ht]
        clear ht
        by_cases hle : n < tb + 1 - ta
        · have hmi : (t : Int) ≤ tb := by have := HT.out; omega
          obtain ⟨p0, p1⟩ := (HPT.out.keep hgA hG) k hlt
          obtain ⟨px, hpx⟩ : ∃ px, px = (P.getD k (0, 0)).1 := ⟨_, rfl⟩
          obtain ⟨py, hpy⟩ : ∃ py, py = (P.getD k (0, 0)).2 := ⟨_, rfl⟩
          have hok : okP lw lg lh f kk P k t = lInB lw lg lh (known f px py (t : Nat) kk) := by rw [hpx, hpy]; rfl
          have hou : ouP lw lg lh f kk P k t = lOutB lw lg lh (known f px py (t : Nat) kk) := by rw [hpx, hpy]; rfl
          rw [← hpx] at p0
          rw [← hpy] at p1
          clear hpx hpy
          have hAS := hB_succ (okP lw lg lh f kk P k) ta n
          have hNS := hB_succ (ouP lw lg lh f kk P k) ta n
          rw [← HT.out, hok] at hAS
          rw [← HT.out, hou] at hNS
          have HAT := Lib.hid hAS
          have HNT := Lib.hid hNS
          clear hAS hNS hok hou
          have lA := Nat.lt_of_lt_of_le hgA hG.size
          have bq := b0.keep hG
          have hSk : ∀ W', G wo W' → Blk W' w.heap.size 35 REL ∧ (W'.cell? ⟨gA, k * 2, none⟩ = some (.int .i64 (px : Nat)) ∧ W'.cell? ⟨gA, k * 2 + 1, none⟩ = some (.int .i64 (py : Nat))) := fun W' hW => ⟨bq.keep hW, ⟨((bcellB hW).1 gA _ lA).trans p0, ((bcellB hW).1 gA _ lA).trans p1⟩⟩
          clear p0 p1
          go_upto_region 10 with fail
          clear s1 lT
          refine wp_region_Y (S := fun W' => Blk W' w.heap.size 35 REL ∧ (W'.cell? ⟨gA, k * 2, none⟩ = some (.int .i64 (px : Nat)) ∧ W'.cell? ⟨gA, k * 2 + 1, none⟩ = some (.int .i64 (py : Nat)))) 8 9 rfl (by kernel_rfl) (hSk _ (G.rf _).d) (fun hS => ?_)
          have gd := (G.rf wo).d
          obtain ⟨sk, hsk⟩ : ∃ sk, sk = known f px py t kk := ⟨_, rfl⟩
          have HKS := Lib.hid (fun (W : World) (hW : G w W) => HKn.out W hW px py t)
          rw [← hsk] at HAT HNT HKS
          clear hsk
          refine wpAnyY_take (i := 0) (v := .agg REL) rfl (by kernel_rfl) (by kernel_rfl) (by kernel_rfl) (by kernel_rfl) (fun _ _ _ h => h) (Or.inl ⟨by kernel_rfl, ?_⟩) hS ?_
          · intro w' hSw; exact load46o w' w.heap.size 3 HIS.out _ _ rfl (by kernel_rfl) hSw.1
          try simp only [Act.put, List.getElem_toArray, List.getElem_cons_zero, List.getElem_cons_succ, List.setIfInBounds_toArray, List.set_cons_zero, List.set_cons_succ]
          refine wpAnyY_take (i := 1) (v := ?_) rfl (by kernel_rfl) (by kernel_rfl) (by kernel_rfl) (by kernel_rfl) (fun _ _ _ h => h) (Or.inl ⟨by kernel_rfl, ?_⟩) hS ?_
          rotate_left
          · intro w' hSw; go_simp; with_reducible rfl
          try simp only [Act.put, List.getElem_toArray, List.getElem_cons_zero, List.getElem_cons_succ, List.setIfInBounds_toArray, List.set_cons_zero, List.set_cons_succ]
          refine wpAnyY_take (i := 2) (v := ?_) rfl (by kernel_rfl) (by kernel_rfl) (by kernel_rfl) (by kernel_rfl) (fun _ _ _ h => h) (Or.inl ⟨by kernel_rfl, ?_⟩) hS ?_
          rotate_left
          · intro w' hSw; go_simp; with_reducible rfl
          try simp only [Act.put, List.getElem_toArray, List.getElem_cons_zero, List.getElem_cons_succ, List.setIfInBounds_toArray, List.set_cons_zero, List.set_cons_succ]
          refine wpAnyY_take (i := 3) (v := ?_) rfl (by kernel_rfl) (by kernel_rfl) (by kernel_rfl) (by kernel_rfl) (fun _ _ _ h => h) (Or.inl ⟨by kernel_rfl, ?_⟩) hS ?_
          rotate_left
          · intro w' hSw; go_simp; with_reducible rfl
          try simp only [Act.put, List.getElem_toArray, List.getElem_cons_zero, List.getElem_cons_succ, List.setIfInBounds_toArray, List.set_cons_zero, List.set_cons_succ]
          refine wpAnyY_take (i := 4) (v := ?_) rfl (by kernel_rfl) (by kernel_rfl) (by kernel_rfl) (by kernel_rfl) (fun _ _ _ h => h) (Or.inl ⟨by kernel_rfl, ?_⟩) hS ?_
          rotate_left
          · intro w' hSw; obtain ⟨y0, y1⟩ := hSw.2; go_simp; with_reducible rfl
          try simp only [Act.put, List.getElem_toArray, List.getElem_cons_zero, List.getElem_cons_succ, List.setIfInBounds_toArray, List.set_cons_zero, List.set_cons_succ]
          refine wpAnyY_take (i := 5) (v := ?_) rfl (by kernel_rfl) (by kernel_rfl) (by kernel_rfl) (by kernel_rfl) (fun _ _ _ h => h) (Or.inl ⟨by kernel_rfl, ?_⟩) hS ?_
          rotate_left
          · intro w' hSw; go_simp; with_reducible rfl
          try simp only [Act.put, List.getElem_toArray, List.getElem_cons_zero, List.getElem_cons_succ, List.setIfInBounds_toArray, List.set_cons_zero, List.set_cons_succ]
          refine wpAnyY_perm0 (fuel := 1) (N := 2) (lF := #[true, true, true, true, true, true, true, true, false]) [(6, 50), (7, 14)] [] _ (RS sk wo.heap.size) rfl (by kernel_rfl) (by decide) (by decide) (fun j => if j = 6 then u50 else u14) (by kernel_rfl) (fun W hW => hSk _ (gd.t hW)) (fun p _ v W W' h k => RS_keep h k) ?_ ?_
          · intro p hp f' W' K' hW' hd hK
            simp only [List.mem_cons, List.not_mem_nil, or_false] at hp
            rcases hp with rfl | rfl
            · simp only [TP, List.foldl_cons, List.foldl_nil, List.setIfInBounds_toArray, List.set_cons_zero, List.set_cons_succ] at hK ⊢
              have HK := Lib.hid hK
              clear hK
              refine ⟨_, rfl, by kernel_rfl, ?_⟩
              go_simp
              refine (HKS.out _ ((g0.t hG).t (gd.t hW'))).mono ?_
              rintro e w3 ⟨rfl, hG3⟩
              try simp only [Act.put, List.getElem_toArray, List.getElem_cons_zero, List.getElem_cons_succ, List.setIfInBounds_toArray, List.set_cons_zero, List.set_cons_succ]
              exact HK.out _ _ hG3 ⟨fun _ => rfl, fun e => absurd e (by decide)⟩
            · simp only [TP, List.foldl_cons, List.foldl_nil, List.setIfInBounds_toArray, List.set_cons_zero, List.set_cons_succ] at hK ⊢
              have HK := Lib.hid hK
              clear hK
              refine ⟨_, rfl, by kernel_rfl, ?_⟩
              go_simp
              try simp only [Act.put, List.getElem_toArray, List.getElem_cons_zero, List.getElem_cons_succ, List.setIfInBounds_toArray, List.set_cons_zero, List.set_cons_succ]
              exact HK.out _ _ ((G.rf W').a _) ⟨fun e => absurd e (by decide), fun _ => ⟨_, rfl, (gd.t hW').size, Blk.new W' 49 _⟩⟩
          intro f' W' hW' hf
          have e6 := (hf (6, 50) (by simp)).1 rfl
          obtain ⟨gS, e7, lS, bS⟩ := (hf (7, 14) (by simp)).2 rfl
          replace gd := gd.t hW'
          simp only at e6 e7
          simp only [TP, List.foldl_cons, List.foldl_nil, List.setIfInBounds_toArray, List.set_cons_zero, List.set_cons_succ]
          rw [e6, e7]
          clear e6 e7 hf hW' hS HKS
          obtain ⟨x0, x1, x2, x3, x4, x5⟩ := sk
          have bR := b0.keep (hG.t gd)
          have gW := (hG.t gd)
          have lW : W.heap.size ≤ gS := Nat.le_trans hG.size lS
          have n6 : Blk (W6 W' gS (.int .i64 x0) (.int .i64 x1) (.int .i64 x2) (.int .i64 x3) (.int .i64 x4) (.int .i64 x5)) gS 49 #[.int .i64 x0, .int .i64 x1, .int .i64 x2, .int .i64 x3, .int .i64 x4, .int .i64 x5] := W6_blk bS _ _ _ _ _ _
          have nR : Blk (W6 W' gS (.int .i64 x0) (.int .i64 x1) (.int .i64 x2) (.int .i64 x3) (.int .i64 x4) (.int .i64 x5)) w.heap.size 35 REL := Blk.apart bR bS (by decide) (W6_heap _ _ _ _ _ _ _ _)
          have nG : G W (W6 W' gS (.int .i64 x0) (.int .i64 x1) (.int .i64 x2) (.int .i64 x3) (.int .i64 x4) (.int .i64 x5)) := W6_G lW gW _ _ _ _ _ _
          have eW : ((((((W'.setCell ⟨gS, 0, none⟩ (.int .i64 x0)).setCell ⟨gS, 1, none⟩ (.int .i64 x1)).setCell ⟨gS, 2, none⟩ (.int .i64 x2)).setCell ⟨gS, 3, none⟩ (.int .i64 x3)).setCell ⟨gS, 4, none⟩ (.int .i64 x4)).setCell ⟨gS, 5, none⟩ (.int .i64 x5)) = W6 W' gS (.int .i64 x0) (.int .i64 x1) (.int .i64 x2) (.int .i64 x3) (.int .i64 x4) (.int .i64 x5) := rfl
          have q0 : W'.cell? ⟨gS, 0, none⟩ = some (.int .i64 0) := bS.cell 0
          have z0 := bS.frozen 0
          have q1 : W'.cell? ⟨gS, 1, none⟩ = some (.int .i64 0) := bS.cell 1
          have z1 := bS.frozen 1
          have q2 : W'.cell? ⟨gS, 2, none⟩ = some (.int .i64 0) := bS.cell 2
          have z2 := bS.frozen 2
          have q3 : W'.cell? ⟨gS, 3, none⟩ = some (.int .i64 0) := bS.cell 3
          have z3 := bS.frozen 3
          have q4 : W'.cell? ⟨gS, 4, none⟩ = some (.int .i64 0) := bS.cell 4
          have z4 := bS.frozen 4
          have q5 : W'.cell? ⟨gS, 5, none⟩ = some (.int .i64 0) := bS.cell 5
          have z5 := bS.frozen 5
          have lr := bS.lt
          refine wpAnyY_oneW (i := 8) (by kernel_rfl) rfl (by kernel_rfl) (by kernel_rfl) (fun K8 hK8 => ?_)
          try simp only [Sk.v]
          go_simp
          refine hK8.out _ _ ?_
          try simp only [Act.put, List.getElem_toArray, List.getElem_cons_zero, List.getElem_cons_succ, List.setIfInBounds_toArray, List.set_cons_zero, List.set_cons_succ]
          refine wpAnyY_done (by kernel_rfl) ?_ _
          try rw [eW]
          generalize W6 W' gS (.int .i64 x0) (.int .i64 x1) (.int .i64 x2) (.int .i64 x3) (.int .i64 x4) (.int .i64 x5) = wq at *
          clear eW q0 q1 q2 q3 q4 q5 z0 z1 z2 z3 z4 z5 lr bS bR gW lW gd hSk lS bq lA hK8
          have m12 := (nR.cell 12).trans H12.out
          have m13 := (nR.cell 13).trans H13.out
          have m14 := (nR.cell 14).trans H14.out
          have q0 : wq.cell? ⟨gS, 0, none⟩ = some (.int .i64 x0) := n6.cell 0
          have q1 : wq.cell? ⟨gS, 1, none⟩ = some (.int .i64 x1) := n6.cell 1
          have q2 : wq.cell? ⟨gS, 2, none⟩ = some (.int .i64 x2) := n6.cell 2
          have q3 : wq.cell? ⟨gS, 3, none⟩ = some (.int .i64 x3) := n6.cell 3
          have q4 : wq.cell? ⟨gS, 4, none⟩ = some (.int .i64 x4) := n6.cell 4
          have q5 : wq.cell? ⟨gS, 5, none⟩ = some (.int .i64 x5) := n6.cell 5
          have lR := nR.lt
          have l6 := n6.lt
          have HI1 := Lib.hid (fun W : World => HIN.out ⟨x0, x1, x2, x3, x4, x5⟩ W)
          have HO1 := Lib.hid (fun W : World => HOU.out ⟨x0, x1, x2, x3, x4, x5⟩ W)
          have HA2 : Hid ((A && hB (okP lw lg lh f kk P k) ta (n + 1)) = ((A && hB (okP lw lg lh f kk P k) ta n) && lInB lw lg lh ⟨x0, x1, x2, x3, x4, x5⟩)) := by
            show _ = _
            rw [HAT.out, Bool.and_assoc]
          have HN2 : Hid (hB (ouP lw lg lh f kk P k) ta (n + 1) = (hB (ouP lw lg lh f kk P k) ta n && lOutB lw lg lh ⟨x0, x1, x2, x3, x4, x5⟩)) := HNT.out
          clear HAT HNT
          obtain ⟨X, hX⟩ : ∃ X, X = (A && hB (okP lw lg lh f kk P k) ta n) := ⟨_, rfl⟩
          obtain ⟨Y, hY⟩ : ∃ Y, Y = hB (ouP lw lg lh f kk P k) ta n := ⟨_, rfl⟩
          rw [← hX] at HA2 ⊢
          rw [← hY] at HN2 ⊢
          clear hX hY HIN HOU HKn H12 H13 H14 HBD HPT HSP HFIN HAS HNS
          cases X <;> cases Y
          all_goals
            go_wp2_with (first | (go_at_call 86; refine (HI1.out _).mono ?_; rintro e w5 ⟨rfl, hG5⟩; clear q0 q1 q2 q3 q4 q5 lR l6 m12 m13 m14; replace n6 := n6.keep hG5; replace nR := nR.keep hG5; replace nG := nG.t hG5; clear hG5; have m12 := (nR.cell 12).trans H12'.out; have m13 := (nR.cell 13).trans H13'.out; have m14 := (nR.cell 14).trans H14'.out; have q0 : w5.cell? ⟨gS, 0, none⟩ = some (.int .i64 x0) := n6.cell 0; have q1 : w5.cell? ⟨gS, 1, none⟩ = some (.int .i64 x1) := n6.cell 1; have q2 : w5.cell? ⟨gS, 2, none⟩ = some (.int .i64 x2) := n6.cell 2; have q3 : w5.cell? ⟨gS, 3, none⟩ = some (.int .i64 x3) := n6.cell 3; have q4 : w5.cell? ⟨gS, 4, none⟩ = some (.int .i64 x4) := n6.cell 4; have q5 : w5.cell? ⟨gS, 5, none⟩ = some (.int .i64 x5) := n6.cell 5; have lR := nR.lt; have l6 := n6.lt) | (go_at_call 87; refine (HO1.out _).mono ?_; rintro e w6 ⟨rfl, hG6⟩; replace nG := nG.t hG6; clear hG6))
            go_roundw
            case rel => exact ⟨n + 1, by omega, by rw [HA2.out]; rfl, by rw [HN2.out]; rfl, by rw [HT.out]; go_num, nG⟩
            case measure => have := HT.out; simp [intOf]; omega
        · have hmi : ¬ (t : Int) ≤ tb := by have := HT.out; omega
          obtain rfl : n = tb + 1 - ta := by omega
          have HAS2 : Hid (allTo kk lw lg lh P lo hi f (k + 1) = (A && hB (okP lw lg lh f kk P k) ta (tb + 1 - ta))) := HAS.out
          have HNS2 : Hid (anyTo kk lw lg lh P lo hi f (k + 1) = (B || hB (ouP lw lg lh f kk P k) ta (tb + 1 - ta))) := HNS.out
          obtain ⟨X, hX⟩ : ∃ X, X = (A && hB (okP lw lg lh f kk P k) ta (tb + 1 - ta)) := ⟨_, rfl⟩
          obtain ⟨Y, hY⟩ : ∃ Y, Y = hB (ouP lw lg lh f kk P k) ta (tb + 1 - ta) := ⟨_, rfl⟩
          rw [← hX] at HAS2 ⊢
          rw [← hY] at HNS2 ⊢
          clear hX hY HIN HOU HKn H12 H13 H14 HBD HPT HSP HFIN HAS HNS
          cases B
          all_goals
            go_wp2_with fail
            go_roundw
            case rel => exact ⟨k + 1, by omega, by rw [HAS2.out], by rw [HNS2.out]; rfl, by go_num, hG⟩
            case measure => simp [intOf]; omega
    · obtain rfl : k = P.length := by omega
      have HF := Lib.hid (fun w' (A B : Bool) (a : A = _) (b : B = _) (g : G W w') => HFIN.out w' A B a b (g0.t g))
      clear HFIN
      obtain ⟨A, hA⟩ : ∃ A, A = allTo kk lw lg lh P lo hi f P.length := ⟨_, rfl⟩
      obtain ⟨B, hBB⟩ : ∃ B, B = anyTo kk lw lg lh P lo hi f P.length := ⟨_, rfl⟩
      have HFF := Lib.hid (HF.out wo A B hA hBB hG)
      rw [← hA, ← hBB]
      clear hA hBB HF
      cases A
      · cases B
        · go_wp2_with fail
          exact HFF.out
        · go_wp2_with fail
          exact HFF.out
      · go_wp2_with fail
        exact HFF.out

end
end Go.Proofs.YtcekdljjmfkacaaGreat
