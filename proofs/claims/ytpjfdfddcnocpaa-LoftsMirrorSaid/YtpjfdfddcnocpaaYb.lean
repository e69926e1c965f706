import Derived.Test.YtpjfdfddcnocpaaYa
set_option linter.unusedSimpArgs false
set_option linter.unusedVariables false
namespace Go.Proofs.Ytpjfdfddcnocpaa
open Go.RowKit
attribute [local go_sem] Oper.semAt_some

/-- some cells of a block are written, one behind the other -/
theorem Blk.setTen {g : Nat} {t : TypeId} : ∀ (vs : List Value) (o : Nat) {W : World} {cs : Array Value}, Blk W g t cs →
    ∃ cs', Blk (W.setCells g o vs) g t cs' ∧ cs'.size = cs.size ∧ ∀ k, cs'[k]? = if o ≤ k ∧ k < o + vs.length ∧ k < cs.size then vs[k - o]? else cs[k]?
  | [], o, W, cs, h => ⟨cs, h, rfl, fun k => by rw [if_neg (by simp; omega)]⟩
  | v :: r, o, W, cs, h => by
    obtain ⟨cs', h1, h2, h3⟩ := Blk.setTen r (o + 1) (h.set_ o v)
    refine ⟨cs', h1, by simpa using h2, fun k => ?_⟩
    rw [h3 k]
    simp only [List.length_cons, Array.size_setIfInBounds]
    by_cases e : k = o
    · subst e
      rw [if_neg (by omega)]
      by_cases hk : k < cs.size
      · rw [if_pos (by omega)]
        simp [hk]
      · rw [if_neg (by omega)]
        simp [hk]
    · by_cases hk : o + 1 ≤ k ∧ k < o + 1 + r.length ∧ k < cs.size
      · rw [if_pos hk, if_pos (by omega)]
        rw [show k - o = (k - (o + 1)) + 1 by omega]
        simp
      · rw [if_neg hk, if_neg (by omega), Array.getElem?_setIfInBounds, if_neg (fun h => e h.symm)]
def rotA (svs : List Sv) (t j : Nat) : Sv := svs.getD ((j + t) % svs.length) default
def rotL (svs : List Sv) (t : Nat) : List Sv := (List.range svs.length).map (rotA svs t)
theorem rotL_len (svs : List Sv) (t : Nat) : (rotL svs t).length = svs.length := by simp [rotL]
theorem rotL_get (svs : List Sv) (t j : Nat) (h : j < svs.length) : (rotL svs t).getD j default = rotA svs t j := by simp [rotL, h]
theorem rotL_perm (svs : List Sv) (t : Nat) : (rotL svs t).Perm svs := by
  by_cases h0 : svs.length = 0
  · rw [List.eq_nil_of_length_eq_zero h0]; exact List.Perm.refl _
  have hk : t % svs.length < svs.length := Nat.mod_lt _ (by omega)
  have e : rotL svs t = svs.drop (t % svs.length) ++ svs.take (t % svs.length) := by
    refine List.ext_getElem (by simp [rotL]; omega) fun j h1 h2 => ?_
    have hj : j < svs.length := by rw [rotL_len] at h1; exact h1
    have hm : (j + t) % svs.length = if j + t % svs.length < svs.length then j + t % svs.length else j + t % svs.length - svs.length := by
      rw [← Nat.add_mod_mod]
      split
      · exact Nat.mod_eq_of_lt (by assumption)
      · rw [Nat.mod_eq_sub_mod (by omega), Nat.mod_eq_of_lt (by omega)]
    generalize t % svs.length = k at *
    have e1 : (rotL svs t)[j] = svs.getD ((j + t) % svs.length) default := by simp [rotL, rotA]
    rw [e1, hm]
    by_cases h3 : j + k < svs.length
    · rw [if_pos h3, List.getElem_append_left (by simp; omega)]
      have : (svs.drop k)[j]'(by simp; omega) = svs[k + j]'(by omega) := by simp
      rw [this, List.getD_eq_getElem?_getD, List.getElem?_eq_getElem h3]
      simp [Nat.add_comm]
    · rw [if_neg h3, List.getElem_append_right (by simp; omega)]
      rw [List.getD_eq_getElem?_getD, List.getElem?_eq_getElem (by omega)]
      simp
      congr 1
      omega
  rw [e]
  exact List.perm_append_comm.trans (by rw [List.take_append_drop])
/-- the loop: the first k rows are written -/
def OrdI (gS cap n : Nat) (A B : Nat → Sv) (W2 : World) (k : Nat) (wr : World) : Prop :=
  (∃ cur, Blk wr gS 56 cur ∧ cur.size = cap * 10 ∧ ∀ j, j < n → ∀ q, q < 10 → cur[j * 10 + q]? = (svC (if j < k then A j else B j))[q]?) ∧ Fr (fun i => i = gS) W2 wr

theorem ord_step {gS cap n k : Nat} {A B : Nat → Sv} {W2 wr : World} {s : Sv} (h : OrdI gS cap n A B W2 k wr) (hk : k < n) (hn : n ≤ cap) (hs : s = A k) :
    OrdI gS cap n A B W2 (k + 1) ((((((((((wr.setCell ⟨gS, k * 10, none⟩ (.int .i64 s.loft)).setCell ⟨gS, k * 10 + 1, none⟩ (.int .i64 s.kind)).setCell ⟨gS, k * 10 + 2, none⟩ (.int .i64 s.xl)).setCell ⟨gS, k * 10 + 3, none⟩ (.int .i64 s.xh)).setCell ⟨gS, k * 10 + 4, none⟩ (.int .i64 s.yl)).setCell ⟨gS, k * 10 + 5, none⟩ (.int .i64 s.yh)).setCell ⟨gS, k * 10 + 6, none⟩ (.int .i64 s.ax)).setCell ⟨gS, k * 10 + 7, none⟩ (.int .i64 s.ay)).setCell ⟨gS, k * 10 + 8, none⟩ (.int .i64 s.dl)).setCell ⟨gS, k * 10 + 9, none⟩ (.int .i64 s.dh)).drew := by
  obtain ⟨⟨cur, hB, hz, hc⟩, hf⟩ := h
  obtain ⟨cs', h1, h2, h3⟩ := Blk.setTen (svC s) (k * 10) hB
  have e : wr.setCells gS (k * 10) (svC s) = ((((((((((wr.setCell ⟨gS, k * 10, none⟩ (.int .i64 s.loft)).setCell ⟨gS, k * 10 + 1, none⟩ (.int .i64 s.kind)).setCell ⟨gS, k * 10 + 2, none⟩ (.int .i64 s.xl)).setCell ⟨gS, k * 10 + 3, none⟩ (.int .i64 s.xh)).setCell ⟨gS, k * 10 + 4, none⟩ (.int .i64 s.yl)).setCell ⟨gS, k * 10 + 5, none⟩ (.int .i64 s.yh)).setCell ⟨gS, k * 10 + 6, none⟩ (.int .i64 s.ax)).setCell ⟨gS, k * 10 + 7, none⟩ (.int .i64 s.ay)).setCell ⟨gS, k * 10 + 8, none⟩ (.int .i64 s.dl)).setCell ⟨gS, k * 10 + 9, none⟩ (.int .i64 s.dh)) := by
    simp only [svC, World.setCells, Nat.add_assoc, Nat.reduceAdd]
  rw [e] at h1
  refine ⟨⟨cs', h1.keep (G.rf _).d, by rw [h2, hz], fun j hj q hq => ?_⟩, ?_⟩
  · rw [h3]
    have hl : (svC s).length = 10 := rfl
    by_cases hjk : j = k
    · have c1 : k * 10 ≤ j * 10 + q ∧ j * 10 + q < k * 10 + (svC s).length ∧ j * 10 + q < cur.size := by rw [hl, hz]; omega
      have c2 : j < k + 1 := by omega
      rw [if_pos c1, if_pos c2, hjk, ← hs, show k * 10 + q - k * 10 = q by omega]
    · have c1 : ¬ (k * 10 ≤ j * 10 + q ∧ j * 10 + q < k * 10 + (svC s).length ∧ j * 10 + q < cur.size) := by rw [hl]; omega
      rw [if_neg c1, hc j hj q hq]
      by_cases h4 : j < k
      · rw [if_pos h4, if_pos (by omega)]
      · rw [if_neg h4, if_neg (by omega)]
  · exact ((((((((((hf.s (.inl rfl) _).s (.inl rfl) _).s (.inl rfl) _).s (.inl rfl) _).s (.inl rfl) _).s (.inl rfl) _).s (.inl rfl) _).s (.inl rfl) _).s (.inl rfl) _).s (.inl rfl) _).d

section
variable (north wrong r rc px py qx qy : Int) (cols lofts o a b t : Nat) (east : List Int) (svs : List Sv) (ea sa : Option Addr) (ec sc : Nat) (w : World)
set_option maxRecDepth 100000 in
set_option maxHeartbeats 8000000 in
theorem order_main (he : IntsAt w ea east) (hs : SvsAt w sa svs) (hn : sa = none → sc = 0) (hl : east.length ≤ 9223372036854775807) (hl2 : svs.length ≤ 9223372036854775807) (hv : validB north cols east lofts svs wrong = true) (hk : checkE north cols east lofts svs wrong = 0) (ht : t ≤ 100) (ho : o < lofts) (ha : a < lofts) (hb : b < lofts) :
    OrderGoal north cols lofts wrong t o a b r rc px py qx qy east svs ea sa ec sc w := by
  obtain ⟨g0, b0, b2⟩ := w2_spec w #[.int .i64 north, .int .i64 cols, .slice ea east.length ec, .int .i64 lofts, .slice sa svs.length sc, .int .i64 wrong] #[.int .i64 o, .int .i64 a, .int .i64 b, .int .i64 r, .int .i64 rc, .int .i64 px, .int .i64 py, .int .i64 qx, .int .i64 qy] 25 38
  have hsl := (checkE_zero hk).2.1
  have vb := vm_bounds (checkE_ok hk)
  have hV := fun (W : World) (hW : G w W) => valid_any north cols lofts wrong east svs ea sa ec sc W (he.below hW) (hs.below hW) hl hl2
  rw [hv] at hV
  have HV := Lib.hid hV
  have HCp := Lib.hid (fun (W : World) (hW : G w W) => Copy_full north cols lofts wrong east svs ea sa ec sc W (he.below hW) (hs.below hW) (by omega) (by omega) (by omega) hn)
  have hp := rotL_perm svs t
  have hk2 := checkE_perm (north := north) (east := east) hp hk
  obtain ⟨es, ef⟩ := spots_perm (north := north) (cols := cols) (east := east) hp
  have hAl := fun (W : World) (hW : G w W) (gE capE gS capS : Nat) (he2 : IntsAt W (some ⟨gE, 0, none⟩) east) (hs2 : SvsAt W (some ⟨gS, 0, none⟩) (rotL svs t)) =>
    alike_of north wrong r rc px py qx qy cols lofts o a b east svs (rotL svs t) ea sa (some ⟨gE, 0, none⟩) (some ⟨gS, 0, none⟩) ec sc capE capS W (he.below hW) (hs.below hW) he2 hs2 hk hk2 ho ha hb (by unfold manyV; rw [es, ef]) (by rw [ef]) (by rw [es, ef]) (by rw [es, ef]) (by rw [es, ef]) (by rw [es, ef])
  unfold AlikeGoal at hAl
  simp only [rotL_len] at hAl
  have HAl := Lib.hid hAl
  have q1 : (decide (0 ≤ (a : Int)) && decide ((a : Int) < lofts)) = true := by simp; omega
  have q2 : (decide (0 ≤ (b : Int)) && decide ((b : Int) < lofts)) = true := by simp; omega
  have q3 : (decide (0 ≤ (o : Int)) && decide ((o : Int) < lofts)) = true := by simp; omega
  have ht0 : ¬ (t : Int) < 0 := by omega
  have ht1 : ¬ (100 : Int) < t := by omega
  clear hV hAl es ef hk2 hp vb hk hv
  unfold OrderGoal
  go_enter Try.func7, Try.ntmps7
  go_wp2_with (first | (go_at_call 19; refine (HV.out _ g0).mono ?_; rintro e w1 ⟨rfl, hG1⟩; replace b0 := b0.keep hG1; replace b2 := b2.keep hG1; replace g0 := g0.t hG1; clear hG1; have m0 := b0.cell 0; have m1 := b0.cell 1; have m2 := b0.cell 2; have m3 := b0.cell 3; have m4 := b0.cell 4; have m5 := b0.cell 5; have a0 := b2.cell 0; have a1 := b2.cell 1; have a2 := b2.cell 2; have lM := b0.lt; have lA := b2.lt) | (go_at_call 21; refine (lawLoft_any _ _ _ _ _ _ _ _).mono ?_; rintro e w1 ⟨rfl, hG1⟩; clear m0 m1 m2 m3 m4 m5 a0 a1 a2 lM lA; replace b0 := b0.keep hG1; replace b2 := b2.keep hG1; replace g0 := g0.t hG1; clear hG1; have m0 := b0.cell 0; have m1 := b0.cell 1; have m2 := b0.cell 2; have m3 := b0.cell 3; have m4 := b0.cell 4; have m5 := b0.cell 5; have a0 := b2.cell 0; have a1 := b2.cell 1; have a2 := b2.cell 2; have lM := b0.lt; have lA := b2.lt) | (go_at_call 28; refine (HCp.out _ g0).mono ?_; rintro e w4 ⟨gE, capE, curE, gS, capS, curS, rfl, hgE, bE, hcE, hG1, hgS, bS⟩; clear m0 m1 m2 m3 m4 m5 a0 a1 a2 lM lA; have lb2 := b2.lt; replace b0 := b0.keep hG1; replace b2 := b2.keep hG1; replace g0 := g0.t hG1; clear hG1; have m0 := b0.cell 0; have m1 := b0.cell 1; have m2 := b0.cell 2; have m3 := b0.cell 3; have m4 := b0.cell 4; have m5 := b0.cell 5; have a0 := b2.cell 0; have a1 := b2.cell 1; have a2 := b2.cell 2; have lM := b0.lt; have lA := b2.lt))
  obtain ⟨N, hN⟩ : ∃ N, N = w4.heap.size := ⟨_, rfl⟩
  rw [← hN]
  have b5 := b0.alloc (.cells #[.int .i64 north, .int .i64 cols, .slice (some ⟨gE, 0, none⟩) east.length capE, .int .i64 lofts, .slice (some ⟨gS, 0, none⟩) svs.length capS, .int .i64 wrong] 25)
  have b6 := b2.alloc (.cells #[.int .i64 north, .int .i64 cols, .slice (some ⟨gE, 0, none⟩) east.length capE, .int .i64 lofts, .slice (some ⟨gS, 0, none⟩) svs.length capS, .int .i64 wrong] 25)
  have bO : Blk (w4.alloc (.cells #[.int .i64 north, .int .i64 cols, .slice (some ⟨gE, 0, none⟩) east.length capE, .int .i64 lofts, .slice (some ⟨gS, 0, none⟩) svs.length capS, .int .i64 wrong] 25)) N 25 _ := Blk.newAt hN.symm _ _
  have g5 := g0.a (.cells #[.int .i64 north, .int .i64 cols, .slice (some ⟨gE, 0, none⟩) east.length capE, .int .i64 lofts, .slice (some ⟨gS, 0, none⟩) svs.length capS, .int .i64 wrong] 25)
  have bE5 := bE.alloc (.cells #[.int .i64 north, .int .i64 cols, .slice (some ⟨gE, 0, none⟩) east.length capE, .int .i64 lofts, .slice (some ⟨gS, 0, none⟩) svs.length capS, .int .i64 wrong] 25)
  have bS5 := bS.keep ((G.rf w4).a (.cells #[.int .i64 north, .int .i64 cols, .slice (some ⟨gE, 0, none⟩) east.length capE, .int .i64 lofts, .slice (some ⟨gS, 0, none⟩) svs.length capS, .int .i64 wrong] 25))
  generalize w4.alloc (.cells #[.int .i64 north, .int .i64 cols, .slice (some ⟨gE, 0, none⟩) east.length capE, .int .i64 lofts, .slice (some ⟨gS, 0, none⟩) svs.length capS, .int .i64 wrong] 25) = W5 at *
  have HNN := Lib.hid hN
  clear m0 m1 m2 m3 m4 m5 a0 a1 a2 lM lA hN b0 b2 g0 bE bS
  have nS1 := b5.ne bS5.1 (by decide)
  have nS2 := bO.ne bS5.1 (by decide)
  have nS3 := bE5.ne bS5.1 (by decide)
  have nS4 := b6.ne bS5.1 (by decide)
  have hwS : w.heap.size ≤ gS := by omega
  have lg5 := g5.size
  obtain ⟨lS5, hcap1, hcap2, hcs, hct⟩ := bS5
  go_loopw [8] (fun i wr => ∃ k : Nat, k ≤ svs.length ∧ i = .int .i64 k ∧ OrdI gS capS svs.length (rotA svs t) (fun j => svs.getD j default) W5 k wr) (fun i _ => svs.length - (intOf i).toNat)
  case atStart =>
    refine ⟨0, Nat.zero_le _, rfl, ⟨curS, lS5, hcs, fun j hj q hq => ?_⟩, Fr.rf _ _⟩
    rw [if_neg (by omega), ← svCells_get svs j q hj hq, ← hct, List.getElem?_take_of_lt (by omega)]
    simp
  case round =>
    obtain ⟨k, hkn, rfl, hOI⟩ := hrel
    have HOI := Lib.hid hOI
    obtain ⟨⟨cur, bC, hcz, hcu⟩, hfr⟩ := hOI
    have e0 := hfr.blk b5 nS1
    have eO := hfr.blk bO nS2
    have eE := hfr.blk bE5 nS3
    have e2 := hfr.blk b6 nS4
    have k4 := e0.cell 4
    have gr : G w wr := ((G.fr (R := fun _ => False) g5).t2 hfr (fun i hi h => by replace h : i = gS := h; omega)).toG (fun _ _ h => h)
    by_cases hlt : k < svs.length
    · rcases hs.below gr with rfl | ⟨bb, off, rfl, hbb, hcc⟩
      · simp at hlt
      have hs0 : ∀ q, q < 10 → cur[k * 10 + q]? = (svC (svs.getD k default))[q]? := fun q hq => by
        have := hcu k hlt q hq
        rwa [if_neg (Nat.lt_irrefl k)] at this
      obtain ⟨s0, hdst⟩ : ∃ s0, SvCells wr gS (k * 10) s0 := ⟨_, SvCells.of fun q hq => (bC.cell _).trans (hs0 q hq)⟩
      have HDST := Lib.hid hdst
      have HCU := Lib.hid hcu
      clear hs0 hcu hdst
      have hq : (k + t) % svs.length < svs.length := Nat.mod_lt _ (by omega)
      have hsrc := hcc _ hq
      have hrot : svs.getD ((k + t) % svs.length) default = rotA svs t k := rfl
      rw [hrot] at hsrc
      obtain ⟨s, hsv⟩ : ∃ s, s = rotA svs t k := ⟨_, rfl⟩
      rw [← hsv] at hsrc
      have x1 : IntKind.i64.wrap ((k : Int) + (t : Int)) = ((k + t : Nat) : Int) := by rw [IntWalk.i64_in _ (by omega)]; rfl
      have X1 := Lib.hid x1
      have HSV := Lib.hid hsv
      clear hcc x1 hrot hsv
      obtain ⟨q, hqq⟩ : ∃ q, q = (k + t) % svs.length := ⟨_, rfl⟩
      rw [← hqq] at hsrc hq
      have HQQ := Lib.hid hqq
      have hne : ¬ svs = [] := fun h => by rw [h] at hlt; simp at hlt
      have HTM : Hid ((IntKind.i64.wrap ((k : Int) + (t : Int))).tmod (svs.length : Int) = (q : Int)) := by unfold Hid; rw [X1.out, hqq]; exact (Int.ofNat_tmod _ _).symm
      clear hqq
      go_wp2_with fail
      refine wp_region_Y (S := fun W' => Blk W' w.heap.size 25 #[.int .i64 north, .int .i64 cols, .slice ea east.length ec, .int .i64 lofts, .slice (some ⟨bb, off, none⟩) svs.length sc, .int .i64 wrong] ∧ Blk W' N 25 #[.int .i64 north, .int .i64 cols, .slice (some ⟨gE, 0, none⟩) east.length capE, .int .i64 lofts, .slice (some ⟨gS, 0, none⟩) svs.length capS, .int .i64 wrong] ∧ SvCells W' bb (off + q * 10) s) 15 16 rfl (by kernel_rfl) ⟨e0.keep (G.rf _).d, eO.keep (G.rf _).d, hsrc.below (G.rf _).d hbb⟩ (fun hS => ?_)
      have f1 : ∀ W', (Blk W' w.heap.size 25 #[.int .i64 north, .int .i64 cols, .slice ea east.length ec, .int .i64 lofts, .slice (some ⟨bb, off, none⟩) svs.length sc, .int .i64 wrong] ∧ Blk W' N 25 #[.int .i64 north, .int .i64 cols, .slice (some ⟨gE, 0, none⟩) east.length capE, .int .i64 lofts, .slice (some ⟨gS, 0, none⟩) svs.length capS, .int .i64 wrong] ∧ SvCells W' bb (off + q * 10) s) → W'.cell? ⟨w.heap.size, 4, none⟩ = some (.slice (some ⟨bb, off, none⟩) svs.length sc) := fun W' h => h.1.cell 4
      have f2 : ∀ W', (Blk W' w.heap.size 25 #[.int .i64 north, .int .i64 cols, .slice ea east.length ec, .int .i64 lofts, .slice (some ⟨bb, off, none⟩) svs.length sc, .int .i64 wrong] ∧ Blk W' N 25 #[.int .i64 north, .int .i64 cols, .slice (some ⟨gE, 0, none⟩) east.length capE, .int .i64 lofts, .slice (some ⟨gS, 0, none⟩) svs.length capS, .int .i64 wrong] ∧ SvCells W' bb (off + q * 10) s) → W'.cell? ⟨N, 4, none⟩ = some (.slice (some ⟨gS, 0, none⟩) svs.length capS) := fun W' h => h.2.1.cell 4
      have fx0 : ∀ W', (Blk W' w.heap.size 25 #[.int .i64 north, .int .i64 cols, .slice ea east.length ec, .int .i64 lofts, .slice (some ⟨bb, off, none⟩) svs.length sc, .int .i64 wrong] ∧ Blk W' N 25 #[.int .i64 north, .int .i64 cols, .slice (some ⟨gE, 0, none⟩) east.length capE, .int .i64 lofts, .slice (some ⟨gS, 0, none⟩) svs.length capS, .int .i64 wrong] ∧ SvCells W' bb (off + q * 10) s) → W'.cell? ⟨bb, off + q * 10, none⟩ = some (.int .i64 s.loft) := fun W' h => h.2.2.1
      have fx1 : ∀ W', (Blk W' w.heap.size 25 #[.int .i64 north, .int .i64 cols, .slice ea east.length ec, .int .i64 lofts, .slice (some ⟨bb, off, none⟩) svs.length sc, .int .i64 wrong] ∧ Blk W' N 25 #[.int .i64 north, .int .i64 cols, .slice (some ⟨gE, 0, none⟩) east.length capE, .int .i64 lofts, .slice (some ⟨gS, 0, none⟩) svs.length capS, .int .i64 wrong] ∧ SvCells W' bb (off + q * 10) s) → W'.cell? ⟨bb, off + q * 10 + 1, none⟩ = some (.int .i64 s.kind) := fun W' h => h.2.2.2.1
      have fx2 : ∀ W', (Blk W' w.heap.size 25 #[.int .i64 north, .int .i64 cols, .slice ea east.length ec, .int .i64 lofts, .slice (some ⟨bb, off, none⟩) svs.length sc, .int .i64 wrong] ∧ Blk W' N 25 #[.int .i64 north, .int .i64 cols, .slice (some ⟨gE, 0, none⟩) east.length capE, .int .i64 lofts, .slice (some ⟨gS, 0, none⟩) svs.length capS, .int .i64 wrong] ∧ SvCells W' bb (off + q * 10) s) → W'.cell? ⟨bb, off + q * 10 + 2, none⟩ = some (.int .i64 s.xl) := fun W' h => h.2.2.2.2.1
      have fx3 : ∀ W', (Blk W' w.heap.size 25 #[.int .i64 north, .int .i64 cols, .slice ea east.length ec, .int .i64 lofts, .slice (some ⟨bb, off, none⟩) svs.length sc, .int .i64 wrong] ∧ Blk W' N 25 #[.int .i64 north, .int .i64 cols, .slice (some ⟨gE, 0, none⟩) east.length capE, .int .i64 lofts, .slice (some ⟨gS, 0, none⟩) svs.length capS, .int .i64 wrong] ∧ SvCells W' bb (off + q * 10) s) → W'.cell? ⟨bb, off + q * 10 + 3, none⟩ = some (.int .i64 s.xh) := fun W' h => h.2.2.2.2.2.1
      have fx4 : ∀ W', (Blk W' w.heap.size 25 #[.int .i64 north, .int .i64 cols, .slice ea east.length ec, .int .i64 lofts, .slice (some ⟨bb, off, none⟩) svs.length sc, .int .i64 wrong] ∧ Blk W' N 25 #[.int .i64 north, .int .i64 cols, .slice (some ⟨gE, 0, none⟩) east.length capE, .int .i64 lofts, .slice (some ⟨gS, 0, none⟩) svs.length capS, .int .i64 wrong] ∧ SvCells W' bb (off + q * 10) s) → W'.cell? ⟨bb, off + q * 10 + 4, none⟩ = some (.int .i64 s.yl) := fun W' h => h.2.2.2.2.2.2.1
      have fx5 : ∀ W', (Blk W' w.heap.size 25 #[.int .i64 north, .int .i64 cols, .slice ea east.length ec, .int .i64 lofts, .slice (some ⟨bb, off, none⟩) svs.length sc, .int .i64 wrong] ∧ Blk W' N 25 #[.int .i64 north, .int .i64 cols, .slice (some ⟨gE, 0, none⟩) east.length capE, .int .i64 lofts, .slice (some ⟨gS, 0, none⟩) svs.length capS, .int .i64 wrong] ∧ SvCells W' bb (off + q * 10) s) → W'.cell? ⟨bb, off + q * 10 + 5, none⟩ = some (.int .i64 s.yh) := fun W' h => h.2.2.2.2.2.2.2.1
      have fx6 : ∀ W', (Blk W' w.heap.size 25 #[.int .i64 north, .int .i64 cols, .slice ea east.length ec, .int .i64 lofts, .slice (some ⟨bb, off, none⟩) svs.length sc, .int .i64 wrong] ∧ Blk W' N 25 #[.int .i64 north, .int .i64 cols, .slice (some ⟨gE, 0, none⟩) east.length capE, .int .i64 lofts, .slice (some ⟨gS, 0, none⟩) svs.length capS, .int .i64 wrong] ∧ SvCells W' bb (off + q * 10) s) → W'.cell? ⟨bb, off + q * 10 + 6, none⟩ = some (.int .i64 s.ax) := fun W' h => h.2.2.2.2.2.2.2.2.1
      have fx7 : ∀ W', (Blk W' w.heap.size 25 #[.int .i64 north, .int .i64 cols, .slice ea east.length ec, .int .i64 lofts, .slice (some ⟨bb, off, none⟩) svs.length sc, .int .i64 wrong] ∧ Blk W' N 25 #[.int .i64 north, .int .i64 cols, .slice (some ⟨gE, 0, none⟩) east.length capE, .int .i64 lofts, .slice (some ⟨gS, 0, none⟩) svs.length capS, .int .i64 wrong] ∧ SvCells W' bb (off + q * 10) s) → W'.cell? ⟨bb, off + q * 10 + 7, none⟩ = some (.int .i64 s.ay) := fun W' h => h.2.2.2.2.2.2.2.2.2.1
      have fx8 : ∀ W', (Blk W' w.heap.size 25 #[.int .i64 north, .int .i64 cols, .slice ea east.length ec, .int .i64 lofts, .slice (some ⟨bb, off, none⟩) svs.length sc, .int .i64 wrong] ∧ Blk W' N 25 #[.int .i64 north, .int .i64 cols, .slice (some ⟨gE, 0, none⟩) east.length capE, .int .i64 lofts, .slice (some ⟨gS, 0, none⟩) svs.length capS, .int .i64 wrong] ∧ SvCells W' bb (off + q * 10) s) → W'.cell? ⟨bb, off + q * 10 + 8, none⟩ = some (.int .i64 s.dl) := fun W' h => h.2.2.2.2.2.2.2.2.2.2.1
      have fx9 : ∀ W', (Blk W' w.heap.size 25 #[.int .i64 north, .int .i64 cols, .slice ea east.length ec, .int .i64 lofts, .slice (some ⟨bb, off, none⟩) svs.length sc, .int .i64 wrong] ∧ Blk W' N 25 #[.int .i64 north, .int .i64 cols, .slice (some ⟨gE, 0, none⟩) east.length capE, .int .i64 lofts, .slice (some ⟨gS, 0, none⟩) svs.length capS, .int .i64 wrong] ∧ SvCells W' bb (off + q * 10) s) → W'.cell? ⟨bb, off + q * 10 + 9, none⟩ = some (.int .i64 s.dh) := fun W' h => h.2.2.2.2.2.2.2.2.2.2.2
      refine wpAnyY_take (i := 0) (v := ?_) rfl (by kernel_rfl) (by kernel_rfl) (by kernel_rfl) (by kernel_rfl) (fun _ _ _ h => h) (Or.inl ⟨by kernel_rfl, ?_⟩) (by assumption) ?_
      rotate_left
      · intro w' hSw; go_simp; with_reducible rfl
      try simp only [Act.put, List.setIfInBounds_toArray, List.set_cons_zero, List.set_cons_succ]
      refine wpAnyY_take (i := 1) (v := ?_) rfl (by kernel_rfl) (by kernel_rfl) (by kernel_rfl) (by kernel_rfl) (fun _ _ _ h => h) (Or.inl ⟨by kernel_rfl, ?_⟩) (by assumption) ?_
      rotate_left
      · intro w' hSw; go_simp; with_reducible rfl
      try simp only [Act.put, List.setIfInBounds_toArray, List.set_cons_zero, List.set_cons_succ]
      refine wpAnyY_take (i := 2) (v := ?_) rfl (by kernel_rfl) (by kernel_rfl) (by kernel_rfl) (by kernel_rfl) (fun _ _ _ h => h) (Or.inl ⟨by kernel_rfl, ?_⟩) (by assumption) ?_
      rotate_left
      · intro w' hSw; go_simp; with_reducible rfl
      try simp only [Act.put, List.setIfInBounds_toArray, List.set_cons_zero, List.set_cons_succ]
      refine wpAnyY_take (i := 3) (v := ?_) rfl (by kernel_rfl) (by kernel_rfl) (by kernel_rfl) (by kernel_rfl) (fun _ _ _ h => h) (Or.inl ⟨by kernel_rfl, ?_⟩) (by assumption) ?_
      rotate_left
      · intro w' hSw; go_simp; with_reducible rfl
      try simp only [Act.put, List.setIfInBounds_toArray, List.set_cons_zero, List.set_cons_succ]
      refine wpAnyY_take (i := 4) (v := ?_) rfl (by kernel_rfl) (by kernel_rfl) (by kernel_rfl) (by kernel_rfl) (fun _ _ _ h => h) (Or.inl ⟨by kernel_rfl, ?_⟩) (by assumption) ?_
      rotate_left
      · intro w' hSw; go_simp; with_reducible rfl
      try simp only [Act.put, List.setIfInBounds_toArray, List.set_cons_zero, List.set_cons_succ]
      refine wpAnyY_take (i := 5) (v := ?_) rfl (by kernel_rfl) (by kernel_rfl) (by kernel_rfl) (by kernel_rfl) (fun _ _ _ h => h) (Or.inl ⟨by kernel_rfl, ?_⟩) (by assumption) ?_
      rotate_left
      · intro w' hSw; go_simp; with_reducible rfl
      try simp only [Act.put, List.setIfInBounds_toArray, List.set_cons_zero, List.set_cons_succ]
      refine wpAnyY_take (i := 6) (v := ?_) rfl (by kernel_rfl) (by kernel_rfl) (by kernel_rfl) (by kernel_rfl) (fun _ _ _ h => h) (Or.inl ⟨by kernel_rfl, ?_⟩) (by assumption) ?_
      rotate_left
      · intro w' hSw; go_simp; with_reducible rfl
      try simp only [Act.put, List.setIfInBounds_toArray, List.set_cons_zero, List.set_cons_succ]
      refine wpAnyY_take (i := 7) (v := ?_) rfl (by kernel_rfl) (by kernel_rfl) (by kernel_rfl) (by kernel_rfl) (fun _ _ _ h => h) (Or.inl ⟨by kernel_rfl, ?_⟩) (by assumption) ?_
      rotate_left
      · intro w' hSw; go_simp; with_reducible rfl
      try simp only [Act.put, List.setIfInBounds_toArray, List.set_cons_zero, List.set_cons_succ]
      refine wpAnyY_take (i := 8) (v := ?_) rfl (by kernel_rfl) (by kernel_rfl) (by kernel_rfl) (by kernel_rfl) (fun _ _ _ h => h) (Or.inl ⟨by kernel_rfl, ?_⟩) (by assumption) ?_
      rotate_left
      · intro w' hSw; go_simp; with_reducible rfl
      try simp only [Act.put, List.setIfInBounds_toArray, List.set_cons_zero, List.set_cons_succ]
      refine wpAnyY_take (i := 9) (v := ?_) rfl (by kernel_rfl) (by kernel_rfl) (by kernel_rfl) (by kernel_rfl) (fun _ _ _ h => h) (Or.inl ⟨by kernel_rfl, ?_⟩) (by assumption) ?_
      rotate_left
      · intro w' hSw; go_simp; with_reducible rfl
      try simp only [Act.put, List.setIfInBounds_toArray, List.set_cons_zero, List.set_cons_succ]
      refine wpAnyY_take (i := 10) (v := ?_) rfl (by kernel_rfl) (by kernel_rfl) (by kernel_rfl) (by kernel_rfl) (fun _ _ _ h => h) (Or.inl ⟨by kernel_rfl, ?_⟩) (by assumption) ?_
      rotate_left
      · intro w' hSw; go_simp; with_reducible rfl
      try simp only [Act.put, List.setIfInBounds_toArray, List.set_cons_zero, List.set_cons_succ]

      refine wpAnyY_take (i := 11) (v := ?_) rfl (by kernel_rfl) (by kernel_rfl) (by kernel_rfl) (by kernel_rfl) (fun _ _ _ h => h) (Or.inl ⟨by kernel_rfl, ?_⟩) (by assumption) ?_
      rotate_left
      · intro w' hSw; go_simp; rw [HTM.out]; try with_reducible rfl
      try simp only [Act.put, List.setIfInBounds_toArray, List.set_cons_zero, List.set_cons_succ]
      refine wpAnyY_take (i := 12) (v := ?_) rfl (by kernel_rfl) (by kernel_rfl) (by kernel_rfl) (by kernel_rfl) (fun _ _ _ h => h) (Or.inl ⟨by kernel_rfl, ?_⟩) (by assumption) ?_
      rotate_left
      · intro w' hSw; go_simp; with_reducible rfl
      try simp only [Act.put, List.setIfInBounds_toArray, List.set_cons_zero, List.set_cons_succ]
      refine wpAnyY_take (i := 13) (v := ?_) rfl (by kernel_rfl) (by kernel_rfl) (by kernel_rfl) (by kernel_rfl) (fun _ _ _ h => h) (Or.inl ⟨by kernel_rfl, ?_⟩) (by assumption) ?_
      rotate_left
      · intro w' hSw; go_simp; with_reducible rfl
      try simp only [Act.put, List.setIfInBounds_toArray, List.set_cons_zero, List.set_cons_succ]
      refine wpAnyY_take (i := 14) (v := ?_) rfl (by kernel_rfl) (by kernel_rfl) (by kernel_rfl) (by kernel_rfl) (fun _ _ _ h => h) (Or.inl ⟨by kernel_rfl, ?_⟩) (by assumption) ?_
      rotate_left
      · intro w' hSw; go_simp; with_reducible rfl
      try simp only [Act.put, List.setIfInBounds_toArray, List.set_cons_zero, List.set_cons_succ]

      have d0 : wr.cell? ⟨gS, k * 10, none⟩ = some (.int .i64 s0.loft) := HDST.out.1
      have d1 : wr.cell? ⟨gS, k * 10 + 1, none⟩ = some (.int .i64 s0.kind) := HDST.out.2.1
      have d2 : wr.cell? ⟨gS, k * 10 + 2, none⟩ = some (.int .i64 s0.xl) := HDST.out.2.2.1
      have d3 : wr.cell? ⟨gS, k * 10 + 3, none⟩ = some (.int .i64 s0.xh) := HDST.out.2.2.2.1
      have d4 : wr.cell? ⟨gS, k * 10 + 4, none⟩ = some (.int .i64 s0.yl) := HDST.out.2.2.2.2.1
      have d5 : wr.cell? ⟨gS, k * 10 + 5, none⟩ = some (.int .i64 s0.yh) := HDST.out.2.2.2.2.2.1
      have d6 : wr.cell? ⟨gS, k * 10 + 6, none⟩ = some (.int .i64 s0.ax) := HDST.out.2.2.2.2.2.2.1
      have d7 : wr.cell? ⟨gS, k * 10 + 7, none⟩ = some (.int .i64 s0.ay) := HDST.out.2.2.2.2.2.2.2.1
      have d8 : wr.cell? ⟨gS, k * 10 + 8, none⟩ = some (.int .i64 s0.dl) := HDST.out.2.2.2.2.2.2.2.2.1
      have d9 : wr.cell? ⟨gS, k * 10 + 9, none⟩ = some (.int .i64 s0.dh) := HDST.out.2.2.2.2.2.2.2.2.2
      have z0 := bC.frozen (k * 10)
      have z1 := bC.frozen (k * 10 + 1)
      have z2 := bC.frozen (k * 10 + 2)
      have z3 := bC.frozen (k * 10 + 3)
      have z4 := bC.frozen (k * 10 + 4)
      have z5 := bC.frozen (k * 10 + 5)
      have z6 := bC.frozen (k * 10 + 6)
      have z7 := bC.frozen (k * 10 + 7)
      have z8 := bC.frozen (k * 10 + 8)
      have z9 := bC.frozen (k * 10 + 9)
      have lC := bC.lt
      clear f1 f2 fx0 fx1 fx2 fx3 fx4 fx5 fx6 fx7 fx8 fx9 hS
      refine wpAnyY_oneW (i := 15) (by kernel_rfl) rfl (by kernel_rfl) (by kernel_rfl) (fun K15 hK15 => ?_)
      go_simp
      refine hK15.out _ _ ?_
      refine wpAnyY_done (by kernel_rfl) ?_ _
      have HST := Lib.hid (ord_step HOI.out hlt hcap1 HSV.out)
      clear HOI d0 d1 d2 d3 d4 d5 d6 d7 d8 d9 z0 z1 z2 z3 z4 z5 z6 z7 z8 z9 lC HDST HCU
      go_wp2
      exact ⟨⟨k + 1, by omega, by simp, HST.out⟩, by simp [intOf]; omega⟩
    · obtain rfl : k = svs.length := by omega
      have hs2 : SvsAt wr (some ⟨gS, 0, none⟩) (rotL svs t) := .inr ⟨gS, 0, rfl, bC.lt, fun j hj => by
        rw [rotL_len] at hj
        rw [rotL_get _ _ _ hj]
        exact SvCells.of fun q hq => by
          rw [bC.cell, Nat.zero_add, hcu j hj q hq, if_pos hj]⟩
      have hA := Lib.hid (HAl.out wr gr gE capE gS capS (east_at eE hcE) hs2)
      have m0 := e0.cell 0
      have m1 := e0.cell 1
      have m2 := e0.cell 2
      have m3 := e0.cell 3
      have m5 := e0.cell 5
      have o0 := eO.cell 0
      have o1 := eO.cell 1
      have o2 := eO.cell 2
      have o3 := eO.cell 3
      have o4 := eO.cell 4
      have o5 := eO.cell 5
      have x0 := e2.cell 0
      have x1 := e2.cell 1
      have x2 := e2.cell 2
      have x3 := e2.cell 3
      have x4 := e2.cell 4
      have x5 := e2.cell 5
      have x6 := e2.cell 6
      have x7 := e2.cell 7
      have x8 := e2.cell 8
      clear HOI hcu hcz bC hfr HAl hs2 HCp HV
      go_wp2_with (first | (go_at_call 30; refine hA.out.mono ?_; rintro e w6 ⟨rfl, hG6⟩) | (go_at_call 16; refine (works_any _).mono ?_; rintro e w7 ⟨rfl, hG7⟩))
      go_ret
      exact ⟨rfl, (gr.t hG6).t hG7⟩
end
end Go.Proofs.Ytpjfdfddcnocpaa
