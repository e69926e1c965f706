import Derived.Test.YtcekdljjmfkacaaSc
set_option linter.unusedSimpArgs false
set_option linter.unusedVariables false
namespace Go.Proofs.Ytcekdljjmfkacaa
open Go.RowKit Go.Shelf
attribute [local go_sem] Oper.semAt_some wide_fn wide_dep wideR_fn wideR_dep
theorem neq73 (a b c : Int) (w : World) : (binOp .neq 73 (.agg #[.int .i64 a, .int .i64 b, .int .i64 c]) (.agg #[.int .i64 a, .int .i64 b, .int .i64 c])).run Try.prog w = .ok (.bool false) w := by
  go_simp
set_option maxRecDepth 100000 in
set_option maxHeartbeats 4000000 in
theorem sameBlocks_any (ra rb : Option Addr) (ca cb n : Nat) (c : Nat → Nat → Int) (w : World) (ha : RowAt w ra n 3 c) (hb : RowAt w rb n 3 c) (hn : n ≤ 1000) : Calls Try.prog 24 #[.slice ra n ca, .slice rb n cb] w fun e w' => e = .returned (.bool true) ∧ G w w' := by
  go_enter Try.func24, Try.ntmps24
  go_wp2_with fail
  go_loopw [5] (fun v5 wr => ∃ q : Nat, q ≤ n ∧ v5 = .int .i64 q ∧ G w wr) (fun v5 _ => n - (intOf v5).toNat)
  case atStart => exact ⟨0, Nat.zero_le _, rfl, G.rf _⟩
  case round =>
    obtain ⟨q, hq, rfl, hG⟩ := hrel
    obtain ⟨wo, rfl⟩ : ∃ wo, wo = wr := ⟨_, rfl⟩
    by_cases hlt : q < n
    · have hki : (q : Int) < n := by omega
      rcases ha with h | ⟨g1, o1, rfl, hg1, hc1⟩
      · omega
      rcases hb with h | ⟨g2, o2, rfl, hg2, hc2⟩
      · omega
      have l1 := Nat.lt_of_lt_of_le hg1 hG.size
      have l2 := Nat.lt_of_lt_of_le hg2 hG.size
      have hSk : ∀ W', G wo W' → (W'.cell? ⟨g1, o1 + q * 3, none⟩ = some (.int .i64 (c q 0)) ∧ W'.cell? ⟨g1, o1 + q * 3 + 1, none⟩ = some (.int .i64 (c q 1)) ∧ W'.cell? ⟨g1, o1 + q * 3 + 2, none⟩ = some (.int .i64 (c q 2)) ∧ W'.cell? ⟨g2, o2 + q * 3, none⟩ = some (.int .i64 (c q 0)) ∧ W'.cell? ⟨g2, o2 + q * 3 + 1, none⟩ = some (.int .i64 (c q 1)) ∧ W'.cell? ⟨g2, o2 + q * 3 + 2, none⟩ = some (.int .i64 (c q 2))) := fun W' h => ⟨((bcellB (hG.t h)).1 g1 _ hg1).trans (hc1 q hlt 0 (by omega)), ((bcellB (hG.t h)).1 g1 _ hg1).trans (hc1 q hlt 1 (by omega)), ((bcellB (hG.t h)).1 g1 _ hg1).trans (hc1 q hlt 2 (by omega)), ((bcellB (hG.t h)).1 g2 _ hg2).trans (hc2 q hlt 0 (by omega)), ((bcellB (hG.t h)).1 g2 _ hg2).trans (hc2 q hlt 1 (by omega)), ((bcellB (hG.t h)).1 g2 _ hg2).trans (hc2 q hlt 2 (by omega))⟩
      have hne := neq73 (c q 0) (c q 1) (c q 2)
      clear hc1 hc2
      go_upto_region 6 with fail
      refine wp_region_Y (S := fun W' => W'.cell? ⟨g1, o1 + q * 3, none⟩ = some (.int .i64 (c q 0)) ∧ W'.cell? ⟨g1, o1 + q * 3 + 1, none⟩ = some (.int .i64 (c q 1)) ∧ W'.cell? ⟨g1, o1 + q * 3 + 2, none⟩ = some (.int .i64 (c q 2)) ∧ W'.cell? ⟨g2, o2 + q * 3, none⟩ = some (.int .i64 (c q 0)) ∧ W'.cell? ⟨g2, o2 + q * 3 + 1, none⟩ = some (.int .i64 (c q 1)) ∧ W'.cell? ⟨g2, o2 + q * 3 + 2, none⟩ = some (.int .i64 (c q 2))) 8 9 rfl (by kernel_rfl) (hSk _ (G.rf _).d) (fun hS => ?_)
      have ga := (G.rf wo).d
      refine wpAnyY_take (i := 0) (v := ?_) rfl (by kernel_rfl) (by kernel_rfl) (by kernel_rfl) (by kernel_rfl) (fun _ _ _ h => h) (Or.inl ⟨by kernel_rfl, ?_⟩) hS ?_
      rotate_left
      · intro w' hSw; go_simp; with_reducible rfl
      try simp only [Act.put, List.getElem_toArray, List.getElem_cons_zero, List.getElem_cons_succ, List.setIfInBounds_toArray, List.set_cons_zero, List.set_cons_succ]
      refine wpAnyY_take (i := 1) (v := ?_) rfl (by kernel_rfl) (by kernel_rfl) (by kernel_rfl) (by kernel_rfl) (fun _ _ _ h => h) (Or.inl ⟨by kernel_rfl, ?_⟩) hS ?_
      rotate_left
      · intro w' hSw; go_simp; with_reducible rfl
      try simp only [Act.put, List.getElem_toArray, List.getElem_cons_zero, List.getElem_cons_succ, List.setIfInBounds_toArray, List.set_cons_zero, List.set_cons_succ]
      refine wpAnyY_take (i := 2) (v := ?_) rfl (by kernel_rfl) (by kernel_rfl) (by kernel_rfl) (by kernel_rfl) (fun _ _ _ h => h) (Or.inl ⟨by kernel_rfl, ?_⟩) hS ?_
      rotate_left
      · intro w' hSw; go_simp; with_reducible rfl
      try simp only [Act.put, List.getElem_toArray, List.getElem_cons_zero, List.getElem_cons_succ, List.setIfInBounds_toArray, List.set_cons_zero, List.set_cons_succ]
      refine wpAnyY_take (i := 3) (v := ?_) rfl (by kernel_rfl) (by kernel_rfl) (by kernel_rfl) (by kernel_rfl) (fun _ _ _ h => h) (Or.inl ⟨by kernel_rfl, ?_⟩) hS ?_
      rotate_left
      · intro w' hSw; obtain ⟨y0, y1, y2, y3, y4, y5⟩ := hSw; go_simp; with_reducible rfl
      try simp only [Act.put, List.getElem_toArray, List.getElem_cons_zero, List.getElem_cons_succ, List.setIfInBounds_toArray, List.set_cons_zero, List.set_cons_succ]
      refine wpAnyY_take (i := 4) (v := ?_) rfl (by kernel_rfl) (by kernel_rfl) (by kernel_rfl) (by kernel_rfl) (fun _ _ _ h => h) (Or.inl ⟨by kernel_rfl, ?_⟩) hS ?_
      rotate_left
      · intro w' hSw; go_simp; with_reducible rfl
      try simp only [Act.put, List.getElem_toArray, List.getElem_cons_zero, List.getElem_cons_succ, List.setIfInBounds_toArray, List.set_cons_zero, List.set_cons_succ]
      refine wpAnyY_take (i := 5) (v := ?_) rfl (by kernel_rfl) (by kernel_rfl) (by kernel_rfl) (by kernel_rfl) (fun _ _ _ h => h) (Or.inl ⟨by kernel_rfl, ?_⟩) hS ?_
      rotate_left
      · intro w' hSw; go_simp; with_reducible rfl
      try simp only [Act.put, List.getElem_toArray, List.getElem_cons_zero, List.getElem_cons_succ, List.setIfInBounds_toArray, List.set_cons_zero, List.set_cons_succ]
      refine wpAnyY_take (i := 6) (v := ?_) rfl (by kernel_rfl) (by kernel_rfl) (by kernel_rfl) (by kernel_rfl) (fun _ _ _ h => h) (Or.inl ⟨by kernel_rfl, ?_⟩) hS ?_
      rotate_left
      · intro w' hSw; go_simp; with_reducible rfl
      try simp only [Act.put, List.getElem_toArray, List.getElem_cons_zero, List.getElem_cons_succ, List.setIfInBounds_toArray, List.set_cons_zero, List.set_cons_succ]
      refine wpAnyY_take (i := 7) (v := ?_) rfl (by kernel_rfl) (by kernel_rfl) (by kernel_rfl) (by kernel_rfl) (fun _ _ _ h => h) (Or.inl ⟨by kernel_rfl, ?_⟩) hS ?_
      rotate_left
      · intro w' hSw; obtain ⟨y0, y1, y2, y3, y4, y5⟩ := hSw; go_simp; with_reducible rfl
      try simp only [Act.put, List.getElem_toArray, List.getElem_cons_zero, List.getElem_cons_succ, List.setIfInBounds_toArray, List.set_cons_zero, List.set_cons_succ]
      refine wpAnyY_oneW (i := 8) (by kernel_rfl) rfl (by kernel_rfl) (by kernel_rfl) (fun K8 hK8 => ?_)
      go_simp
      refine hK8.out _ _ ?_
      try simp only [Act.put, List.getElem_toArray, List.getElem_cons_zero, List.getElem_cons_succ, List.setIfInBounds_toArray, List.set_cons_zero, List.set_cons_succ]
      refine wpAnyY_done (by kernel_rfl) ?_ _
      have gz := hG.t ga
      clear hSk hS hne
      go_wp2_with fail
      go_roundw
      case rel => exact ⟨q + 1, by omega, by go_num, gz⟩
      case measure => simp [intOf] <;> omega
    · obtain rfl : q = n := by omega
      have hki : ¬ ((q : Nat) : Int) < q := by omega
      go_wp2_with fail
      go_ret
      exact ⟨rfl, hG⟩
end Go.Proofs.Ytcekdljjmfkacaa
set_option linter.unusedSimpArgs false
set_option linter.unusedVariables false
namespace Go.Proofs.Ytcekdljjmfkacaa
open Go.RowKit Go.Shelf
attribute [local go_sem] Oper.semAt_some wide_fn wide_dep wideR_fn wideR_dep
/-- some cells of a block are written, one behind the other -/
theorem Blk.setTen {g : Nat} {t : TypeId} : ∀ (vs : List Value) (o : Nat) {W : World} {cs : Array Value}, Blk W g t cs →
    ∃ cs', Blk (W.setCells g o vs) g t cs' ∧ cs'.size = cs.size ∧ ∀ k, cs'[k]? = if o ≤ k ∧ k < o + vs.length ∧ k < cs.size then vs[k - o]? else cs[k]?
  | [], o, W, cs, h => ⟨cs, h, rfl, fun k => by rw [if_neg (by simp; omega)]⟩
  | v :: r, o, W, cs, h => by
    obtain ⟨cs', h1, h2, h3⟩ := Blk.setTen r (o + 1) (h.set_ o v)
    refine ⟨cs', h1, by simpa using h2, fun k => ?_⟩
    rw [h3 k]
    simp only [List.length_cons, Array.size_setIfInBounds]
    by_cases e : k = o
    · subst e
      rw [if_neg (by omega)]
      by_cases hk : k < cs.size
      · rw [if_pos (by omega)]
        simp [hk]
      · rw [if_neg (by omega)]
        simp [hk]
    · by_cases hk : o + 1 ≤ k ∧ k < o + 1 + r.length ∧ k < cs.size
      · rw [if_pos hk, if_pos (by omega)]
        rw [show k - o = (k - (o + 1)) + 1 by omega]
        simp
      · rw [if_neg hk, if_neg (by omega), Array.getElem?_setIfInBounds, if_neg (fun h => e h.symm)]
theorem heap_setCells {g : Nat} : ∀ (vs : List Value) (o : Nat) (W : World) (b : Nat), b ≠ g → (W.setCells g o vs).heap[b]? = W.heap[b]?
  | [], _, _, _, _ => rfl
  | v :: r, o, W, b, hb => (heap_setCells r (o + 1) (W.setCell ⟨g, o, none⟩ v) b hb).trans (heap_set W g o v b hb)
theorem G_setCells {g : Nat} {a : World} (hg : a.heap.size ≤ g) : ∀ (vs : List Value) (o : Nat) (W : World), G a W → G a (W.setCells g o vs)
  | [], _, _, h => h
  | v :: r, o, W, h => G_setCells hg r (o + 1) (W.setCell ⟨g, o, none⟩ v) (h.s (p := ⟨g, o, none⟩) hg v)
/-- the first q rows are those from the t-th on -/
def rotF (f : Nat → Nat → Int) (k t q i r : Nat) : Int := if i < q then f ((i + t) % k) r else f i r
theorem rot_step {w0 : World} {east : List Int} {svs : List Sv} {n k : Nat} {h f : Nat → Nat → Int} {gE : Nat} {curE : Array Value} {gS capS : Nat} {curS : Array Value} {aH : Option Addr} {cH : Nat} {xH : List Value} {BH : Nat} {gF cF : Nat} {xF : List Value} {BF t q jj : Nat} {W : World}
    (hc : CpIn w0 east svs n k h (rotF f k t q) gE curE gS capS curS aH cH xH BH (some ⟨gF, 0, none⟩) cF xF BF W) (hq : q < k) (hj : jj = (q + t) % k) :
    ∃ xF', CpIn w0 east svs n k h (rotF f k t (q + 1)) gE curE gS capS curS aH cH xH BH (some ⟨gF, 0, none⟩) cF xF' BF (W.setCells gF (q * 12) [.int .i64 (f jj 0), .int .i64 (f jj 1), .int .i64 (f jj 2), .int .i64 (f jj 3), .int .i64 (f jj 4), .int .i64 (f jj 5), .int .i64 (f jj 6), .int .i64 (f jj 7), .int .i64 (f jj 8), .int .i64 (f jj 9), .int .i64 (f jj 10), .int .i64 (f jj 11)]) := by
  obtain ⟨hl, hor⟩ := hc.hF
  rcases hor with ⟨e, _⟩ | ⟨g, cap, cur, e, hbg, hB0, h1, h2, h3, h4⟩
  · cases e
  injection e with e1 e2 e3
  injection e1 with e1
  injection e1 with e1 _ _
  subst e1 e3
  have hB : Blk W gF 60 cur := hB0
  obtain ⟨cs', k1, k2, k3⟩ := Blk.setTen [.int .i64 (f jj 0), .int .i64 (f jj 1), .int .i64 (f jj 2), .int .i64 (f jj 3), .int .i64 (f jj 4), .int .i64 (f jj 5), .int .i64 (f jj 6), .int .i64 (f jj 7), .int .i64 (f jj 8), .int .i64 (f jj 9), .int .i64 (f jj 10), .int .i64 (f jj 11)] (q * 12) hB
  have hfar := heap_setCells (g := gF) [.int .i64 (f jj 0), .int .i64 (f jj 1), .int .i64 (f jj 2), .int .i64 (f jj 3), .int .i64 (f jj 4), .int .i64 (f jj 5), .int .i64 (f jj 6), .int .i64 (f jj 7), .int .i64 (f jj 8), .int .i64 (f jj 9), .int .i64 (f jj 10), .int .i64 (f jj 11)] (q * 12) W
  have hbd := hc.bd
  refine ⟨cs'.toList.take (k * 12), ⟨Blk.apart hc.hE hB (by decide) hfar, hc.hEt, hc.hS.far hB (by decide) hfar, own_farT hc.hH hB (by decide) hfar, hc.hHx, ⟨?_, .inr ⟨gF, cF, cs', rfl, hbg, k1, h1, h2, by rw [k2, h3], rfl⟩⟩, fun i hi r hr => ?_, hbd, G_setCells (by omega) _ _ _ hc.hG⟩⟩
  · rw [List.length_take]
    have : cs'.toList.length = cF * 12 := by simp [k2, h3]
    rw [this]
    exact Nat.min_eq_left (Nat.mul_le_mul_right 12 h1)
  · have hlt : i * 12 + r < k * 12 := by omega
    have hsz : k * 12 ≤ cF * 12 := Nat.mul_le_mul_right 12 h1
    rw [List.getElem?_take_of_lt hlt, Array.getElem?_toList, k3]
    have hlen : ([.int .i64 (f jj 0), .int .i64 (f jj 1), .int .i64 (f jj 2), .int .i64 (f jj 3), .int .i64 (f jj 4), .int .i64 (f jj 5), .int .i64 (f jj 6), .int .i64 (f jj 7), .int .i64 (f jj 8), .int .i64 (f jj 9), .int .i64 (f jj 10), .int .i64 (f jj 11)] : List Value).length = 12 := rfl
    rw [hlen]
    by_cases hiq : i = q
    · subst hiq
      rw [if_pos ⟨by omega, by omega, by rw [h3]; omega⟩, show i * 12 + r - i * 12 = r by omega]
      unfold rotF
      rw [if_pos (by omega), ← hj]
      match r, hr with
      | 0, _ => rfl
      | 1, _ => rfl
      | 2, _ => rfl
      | 3, _ => rfl
      | 4, _ => rfl
      | 5, _ => rfl
      | 6, _ => rfl
      | 7, _ => rfl
      | 8, _ => rfl
      | 9, _ => rfl
      | 10, _ => rfl
      | 11, _ => rfl
    · rw [if_neg (by omega)]
      have := hc.hFx i hi r hr
      rw [← h4, List.getElem?_take_of_lt hlt, Array.getElem?_toList] at this
      rw [this]
      unfold rotF
      by_cases h5 : i < q
      · rw [if_pos h5, if_pos (by omega)]
      · rw [if_neg h5, if_neg (by omega)]
set_option maxRecDepth 100000 in
set_option maxHeartbeats 8000000 in
theorem Order_walk (REL : Array Value) (MK : Nat → Nat → Nat → Nat → Option Addr → Nat → Option Addr → Nat → Array Value) (east : List Int) (svs : List Sv) (n k N : Nat) (h f c : Nat → Nat → Int) (fa : Option Addr) (fc : Nat) (t i a b : Nat) (px py hr Z s1 m1 e1 : Int) (w : World) (hIs : IsRel REL) (hab : a ≤ b) (h40 : b ≤ a + 40) (hb : b ≤ 9999) (ht : t ≤ 100) (hk : k ≤ 12) (hN : N ≤ 1000)
    (h11 : REL[11]? = some (.slice fa k fc)) (hF : RowAt w fa k 12 f) (hMis : ∀ gE capE gS capS aH cH aF cF, IsRel (MK gE capE gS capS aH cH aF cF)) (hM11 : ∀ gE capE gS capS aH cH aF cF, (MK gE capE gS capS aH cH aF cF)[11]? = some (.slice aF k cF))
    (hV : ∀ W, G w W → Calls Try.prog 12 #[.agg REL, .int .i64 (i : Nat), .int .i64 (a : Nat)] W (BoolPost W))
    (hCp : ∀ W, G w W → Calls Try.prog 21 #[.agg REL] W fun e w' => ∃ gE capE curE gS capS curS aH cH xH BH aF cF xF BF, e = .returned (.agg (MK gE capE gS capS aH cH aF cF)) ∧ CpIn W east svs n k h f gE curE gS capS curS aH cH xH BH aF cF xF BF w')
    (hS1 : ∀ W, G w W → Calls Try.prog 17 #[.agg REL, .int .i64 (i : Nat), .int .i64 (a : Nat)] W fun e w' => e = .returned (.tuple #[.int .i64 s1, .int .i64 Z]) ∧ G W w')
    (hS2 : ∀ W w0 gE capE curE gS capS curS aH cH xH BH aF cF xF BF, G w W → CpIn w0 east svs n k h (rotF f k t k) gE curE gS capS curS aH cH xH BH aF cF xF BF W → Calls Try.prog 17 #[.agg (MK gE capE gS capS aH cH aF cF), .int .i64 (i : Nat), .int .i64 (a : Nat)] W fun e w' => e = .returned (.tuple #[.int .i64 s1, .int .i64 Z]) ∧ G W w')
    (hB1 : ∀ W, G w W → Calls Try.prog 23 #[.agg REL, .int .i64 (a : Nat)] W fun e w' => ∃ ra rc, e = .returned (.tuple #[.slice ra N rc, .int .i64 Z]) ∧ RowAt w' ra N 3 c ∧ G W w')
    (hB2 : ∀ W w0 gE capE curE gS capS curS aH cH xH BH aF cF xF BF, G w W → CpIn w0 east svs n k h (rotF f k t k) gE curE gS capS curS aH cH xH BH aF cF xF BF W → Calls Try.prog 23 #[.agg (MK gE capE gS capS aH cH aF cF), .int .i64 (a : Nat)] W fun e w' => ∃ ra rc, e = .returned (.tuple #[.slice ra N rc, .int .i64 Z]) ∧ RowAt w' ra N 3 c ∧ G W w')
    (hF1 : ∀ W, G w W → Calls Try.prog 20 #[.agg REL, .int .i64 (a : Nat), .int .i64 (b : Nat)] W fun e w' => e = .returned (.tuple #[.int .i64 m1, .int .i64 e1]) ∧ G W w')
    (hF2 : ∀ W w0 gE capE curE gS capS curS aH cH xH BH aF cF xF BF, G w W → CpIn w0 east svs n k h (rotF f k t k) gE curE gS capS curS aH cH xH BH aF cF xF BF W → Calls Try.prog 20 #[.agg (MK gE capE gS capS aH cH aF cF), .int .i64 (a : Nat), .int .i64 (b : Nat)] W fun e w' => e = .returned (.tuple #[.int .i64 m1, .int .i64 e1]) ∧ G W w') :
    Calls Try.prog 8 #[.agg REL, .int .i64 (t : Nat), .agg #[.int .i64 (i : Nat), .int .i64 (a : Nat), .int .i64 (b : Nat), .int .i64 px, .int .i64 py, .int .i64 hr]] w fun e w' => e = .returned (.bool true) ∧ G w w' := by
  have HIS := Lib.hid hIs
  have HV := Lib.hid hV
  have HCP := Lib.hid hCp
  have HFR := Lib.hid hF
  have HS1 := Lib.hid hS1
  have HS2 := Lib.hid hS2
  have HB1 := Lib.hid hB1
  have HB2 := Lib.hid hB2
  have HF1 := Lib.hid hF1
  have HF2 := Lib.hid hF2
  have HMI := Lib.hid hMis
  have HM11 := Lib.hid hM11
  have HWK := Lib.hid (fun W : World => works_any W)
  clear hIs hV hCp hF hS1 hS2 hB1 hB2 hF1 hF2 hMis hM11
  have g0 : G w ((w.alloc (.cells REL 35)).alloc (.cells #[.int .i64 (i : Nat), .int .i64 (a : Nat), .int .i64 (b : Nat), .int .i64 px, .int .i64 py, .int .i64 hr] 62)) := ((G.rf _).a _).a _
  have b0 : Blk ((w.alloc (.cells REL 35)).alloc (.cells #[.int .i64 (i : Nat), .int .i64 (a : Nat), .int .i64 (b : Nat), .int .i64 px, .int .i64 py, .int .i64 hr] 62)) w.heap.size 35 REL := (Blk.new w 35 REL).keep ((G.rf _).a _)
  have c0 : Blk ((w.alloc (.cells REL 35)).alloc (.cells #[.int .i64 (i : Nat), .int .i64 (a : Nat), .int .i64 (b : Nat), .int .i64 px, .int .i64 py, .int .i64 hr] 62)) (w.heap.size + 1) 62 #[.int .i64 (i : Nat), .int .i64 (a : Nat), .int .i64 (b : Nat), .int .i64 px, .int .i64 py, .int .i64 hr] := by
    have := Blk.new (w.alloc (.cells REL 35)) 62 #[.int .i64 (i : Nat), .int .i64 (a : Nat), .int .i64 (b : Nat), .int .i64 px, .int .i64 py, .int .i64 hr]
    rwa [show (w.alloc (.cells REL 35)).heap.size = w.heap.size + 1 by simp] at this
  go_enter Try.func8, Try.ntmps8
  go_upto_region 1 with fail
  change Code.wp _ _ _ _ ((w.alloc (.cells REL 35)).alloc (.cells #[.int .i64 (i : Nat), .int .i64 (a : Nat), .int .i64 (b : Nat), .int .i64 px, .int .i64 py, .int .i64 hr] 62))
  generalize (w.alloc (.cells REL 35)).alloc (.cells #[.int .i64 (i : Nat), .int .i64 (a : Nat), .int .i64 (b : Nat), .int .i64 px, .int .i64 py, .int .i64 hr] 62) = w1 at *
  have x0 : w1.cell? ⟨w.heap.size + 1, 0, none⟩ = some (.int .i64 (i : Nat)) := c0.cell 0
  have x1 : w1.cell? ⟨w.heap.size + 1, 1, none⟩ = some (.int .i64 (a : Nat)) := c0.cell 1
  have lx := c0.lt
  refine wp_region_lit ?_
  refine wpList_load35 w.heap.size 3 HIS.out rfl rfl rfl b0 ?_
  try simp only [Act.put, List.getElem_toArray, List.getElem_cons_zero, List.getElem_cons_succ, List.setIfInBounds_toArray, List.set_cons_zero, List.set_cons_succ]
  refine wpList_plain rfl fun K hK => ?_
  go_simp
  refine hK _ _ ?_
  clear hK
  try simp only [Act.put, List.getElem_toArray, List.getElem_cons_zero, List.getElem_cons_succ, List.setIfInBounds_toArray, List.set_cons_zero, List.set_cons_succ]
  refine wpList_plain rfl fun K hK => ?_
  go_simp
  refine hK _ _ ?_
  clear hK
  try simp only [Act.put, List.getElem_toArray, List.getElem_cons_zero, List.getElem_cons_succ, List.setIfInBounds_toArray, List.set_cons_zero, List.set_cons_succ]
  refine wpList_plain rfl fun K hK => ?_
  go_simp
  refine hK _ _ ?_
  clear hK
  try simp only [Act.put, List.getElem_toArray, List.getElem_cons_zero, List.getElem_cons_succ, List.setIfInBounds_toArray, List.set_cons_zero, List.set_cons_succ]
  refine wpList_plain rfl fun K hK => ?_
  go_simp
  refine hK _ _ ?_
  clear hK
  try simp only [Act.put, List.getElem_toArray, List.getElem_cons_zero, List.getElem_cons_succ, List.setIfInBounds_toArray, List.set_cons_zero, List.set_cons_succ]
  refine wpList_plain rfl fun K hK => ?_
  go_simp
  refine (HV.out _ g0).mono ?_
  rintro e w2 ⟨bb, rfl, hG2⟩
  refine hK _ _ ?_
  clear hK K
  try simp only [Act.put, List.getElem_toArray, List.getElem_cons_zero, List.getElem_cons_succ, List.setIfInBounds_toArray, List.set_cons_zero, List.set_cons_succ]
  clear HV x0 x1 lx
  replace b0 := b0.keep hG2
  replace c0 := c0.keep hG2
  replace g0 := g0.t hG2
  clear hG2
  cases bb
  · have lx := c0.lt
    go_wp2_with (go_at_call 13; refine (HWK.out _).mono ?_; rintro e w9 ⟨rfl, hG9⟩)
    go_ret
    exact ⟨rfl, g0.t hG9⟩
  have x1 : w2.cell? ⟨w.heap.size + 1, 1, none⟩ = some (.int .i64 (a : Nat)) := c0.cell 1
  have x2 : w2.cell? ⟨w.heap.size + 1, 2, none⟩ = some (.int .i64 (b : Nat)) := c0.cell 2
  have lx := c0.lt
  have u1 : decide ((t : Int) < 0) = false := decide_eq_false (by omega)
  have u2 : decide ((100 : Int) < (t : Int)) = false := decide_eq_false (by omega)
  have u3 : decide (100 < t) = false := decide_eq_false (by omega)
  have u4 : ¬ 100 < t := by omega
  obtain ⟨d, hd⟩ : ∃ d : Int, d = (b : Int) - a := ⟨_, rfl⟩
  have xd : IntKind.i64.wrap ((b : Int) - a) = d := by rw [hd]; exact IntWalk.i64_in _ (by omega)
  have t1 : decide ((b : Int) < a) = false := decide_eq_false (by omega)
  have t1' : decide (b < a) = false := decide_eq_false (by omega)
  have t2 : decide (40 < d) = false := decide_eq_false (by omega)
  have t3 : decide (9999 < (b : Int)) = false := decide_eq_false (by omega)
  have t3' : decide (9999 < b) = false := decide_eq_false (by omega)
  have t4 : ¬ b < a := by omega
  have t5 : ¬ 9999 < b := by omega
  have t6 : ¬ 40 < d := by omega
  clear hd
  go_upto_region 3 with fail
  clear t1 t1' t2 t3 t3' t4 t5 t6 xd u1 u2 u3 u4 x1 x2 lx
  refine wp_region_lit ?_
  refine wpList_load35 w.heap.size 3 HIS.out rfl rfl rfl b0 ?_
  try simp only [Act.put, List.getElem_toArray, List.getElem_cons_zero, List.getElem_cons_succ, List.setIfInBounds_toArray, List.set_cons_zero, List.set_cons_succ]
  refine wpList_plain rfl fun K hK => ?_
  go_simp
  refine (HCP.out _ g0).mono ?_
  rintro e w3 ⟨gE, capE, curE, gS, capS, curS, aH, cH, xH, BH, aF, cF, xF, BF, rfl, hcp⟩
  refine hK _ _ ?_
  clear hK K
  try simp only [Act.put, List.getElem_toArray, List.getElem_cons_zero, List.getElem_cons_succ, List.setIfInBounds_toArray, List.set_cons_zero, List.set_cons_succ]
  clear HCP
  have hG3 := hcp.hG
  have hsz2 : w.heap.size ≤ w2.heap.size := g0.size
  replace b0 := b0.keep hG3
  replace c0 := c0.keep hG3
  replace g0 := g0.t hG3
  clear hG3
  have lgO := c0.lt
  obtain ⟨gO, hgO⟩ : ∃ gO, gO = w3.heap.size := ⟨_, rfl⟩
  have hz : Blk (w3.alloc (.cells #[.int .i64 0, .int .i64 0, .slice none 0 0, .int .i64 0, .slice none 0 0, .int .i64 0, .int .i64 0, .int .i64 0, .slice none 0 0, .int .i64 0, .int .i64 0, .slice none 0 0, .int .i64 0, .int .i64 0, .int .i64 0, .int .i64 0, .int .i64 0] 35)) w3.heap.size 35 #[.int .i64 0, .int .i64 0, .slice none 0 0, .int .i64 0, .slice none 0 0, .int .i64 0, .int .i64 0, .int .i64 0, .slice none 0 0, .int .i64 0, .int .i64 0, .slice none 0 0, .int .i64 0, .int .i64 0, .int .i64 0, .int .i64 0, .int .i64 0] := Blk.new _ _ _
  have ga : G w3 (w3.alloc (.cells #[.int .i64 0, .int .i64 0, .slice none 0 0, .int .i64 0, .slice none 0 0, .int .i64 0, .int .i64 0, .int .i64 0, .slice none 0 0, .int .i64 0, .int .i64 0, .slice none 0 0, .int .i64 0, .int .i64 0, .int .i64 0, .int .i64 0, .int .i64 0] 35)) := (G.rf _).a _
  refine wpList_plain rfl fun K hK => ?_
  go_simp
  refine hK _ _ ?_
  clear hK
  try simp only [Act.put, List.getElem_toArray, List.getElem_cons_zero, List.getElem_cons_succ, List.setIfInBounds_toArray, List.set_cons_zero, List.set_cons_succ]
  rw [← hgO] at hz lgO ⊢
  have hg3 : w3.heap.size ≤ gO := Nat.le_of_eq hgO.symm
  clear hgO
  have hRO := HMI.out gE capE gS capS aH cH aF cF
  refine wpList_plain rfl fun K hK => ?_
  refine wp_store46 gO 7 58 (OLD := #[.int .i64 0, .int .i64 0, .slice none 0 0, .int .i64 0, .slice none 0 0, .int .i64 0, .int .i64 0, .int .i64 0, .slice none 0 0, .int .i64 0, .int .i64 0, .slice none 0 0, .int .i64 0, .int .i64 0, .int .i64 0, .int .i64 0, .int .i64 0]) (REL := MK gE capE gS capS aH cH aF cF) ⟨_, _, _, _, _, _, _, _, _, _, _, _, _, _, _, _, _, _, _, _, _, _, _, _, _, rfl⟩ hRO rfl rfl rfl hz fun W2 hB2 hF2 hG2 => ?_
  refine hK _ _ ?_
  have g32 := hG2 w3 hg3 ga
  clear hF2 hG2 hK hz ga
  try simp only [Act.put, List.getElem_toArray, List.getElem_cons_zero, List.getElem_cons_succ, List.setIfInBounds_toArray, List.set_cons_zero, List.set_cons_succ]
  replace b0 := b0.keep g32
  replace c0 := c0.keep g32
  replace g0 := g0.t g32
  replace hcp := hcp.keep g32
  clear g32 hg3
  go_wp2_with fail
  go_loopw [8] (fun v8 wr => ∃ (q : Nat) (xF : List Value), q ≤ k ∧ v8 = .int .i64 (q : Nat) ∧ CpIn w2 east svs n k h (rotF f k t q) gE curE gS capS curS aH cH xH BH aF cF xF BF wr ∧ Blk wr w.heap.size 35 REL ∧ Blk wr (w.heap.size + 1) 62 #[.int .i64 (i : Nat), .int .i64 (a : Nat), .int .i64 (b : Nat), .int .i64 px, .int .i64 py, .int .i64 hr] ∧ Blk wr gO 35 (MK gE capE gS capS aH cH aF cF) ∧ G w wr) (fun v8 _ => k - (intOf v8).toNat)
  case atStart => exact ⟨0, xF, Nat.zero_le _, rfl, hcp, b0, c0, hB2, g0⟩
  case round =>
    clear hcp b0 c0 hB2 g0 xF
    obtain ⟨q, xF, hq, rfl, hcp, b0, c0, bO, g0⟩ := hrel
    obtain ⟨wo, rfl⟩ : ∃ wo, wo = wr := ⟨_, rfl⟩
    have y11 := (b0.cell 11).trans h11
    have ly := b0.lt
    by_cases hlt : q < k
    · have hki : (q : Int) < k := by omega
      rcases HFR.out with h0 | ⟨gs, offs, rfl, hgs, hcell⟩
      · omega
      obtain ⟨gF, cap, cur, eF, bF, lF, htF⟩ := own_some hcp.hF (by omega)
      obtain ⟨rfl, rfl⟩ : aF = some ⟨gF, 0, none⟩ ∧ cF = cap := by injection eF with e1 e2 e3; exact ⟨e1, e3⟩
      clear eF
      obtain ⟨jj, hjj⟩ : ∃ jj, jj = (q + t) % k := ⟨_, rfl⟩
      have hjk : jj < k := by rw [hjj]; exact Nat.mod_lt _ (by omega)
      have HJ := Lib.hid hjj
      have x1 : IntKind.i64.wrap ((q : Int) + (t : Int)) = ((q + t : Nat) : Int) := by rw [IntWalk.i64_in _ (by omega)]; rfl
      have HTM : Hid ((IntKind.i64.wrap ((q : Int) + (t : Int))).tmod (k : Int) = (jj : Int)) := by unfold Hid; rw [x1, hjj]; exact (Int.ofNat_tmod _ _).symm
      have hkz : ¬ k = 0 := by omega
      have hkz2 : ((k : Int) == 0) = false := by simp; omega
      clear x1 hjj
      have lgs := Nat.lt_of_lt_of_le hgs g0.size
      have hSk : ∀ W', G wo W' → ((Blk W' w.heap.size 35 REL ∧ Blk W' gO 35 (MK gE capE gS capS aH cH (some ⟨gF, 0, none⟩) cF)) ∧ ∀ r, r < 12 → W'.cell? ⟨gs, offs + jj * 12 + r, none⟩ = some (.int .i64 (f jj r))) := fun W' hW => ⟨⟨b0.keep hW, bO.keep hW⟩, fun r hr => ((bcellB (g0.t hW)).1 gs _ hgs).trans (hcell jj hjk r hr)⟩
      have hjk2 : (jj : Int) < k := by omega
      have hc12 : cur.size = cF * 12 ∧ k ≤ cF := by
        rcases hcp.hF.2 with ⟨e, _⟩ | ⟨g, cap, cur2, e, _, hB2, q1, _, q3, _⟩
        · cases e
        · injection e with e1 e2 e3
          injection e1 with e1
          injection e1 with e1 _ _
          subst e1 e3
          have := hB2.symm.trans bF
          injection this with this
          injection this with this _ _
          subst this
          exact ⟨q3, q1⟩
      have hold : ∀ r, r < 12 → ∃ v : Int, wo.cell? ⟨gF, q * 12 + r, none⟩ = some (.int .i64 v) := fun r hr => ⟨_, take_cell bF htF (by omega) (hcp.hFx q hlt r hr)⟩
      obtain ⟨v0, d0⟩ := hold 0 (by omega)
      obtain ⟨v1, d1⟩ := hold 1 (by omega)
      obtain ⟨v2, d2⟩ := hold 2 (by omega)
      obtain ⟨v3, d3⟩ := hold 3 (by omega)
      obtain ⟨v4, d4⟩ := hold 4 (by omega)
      obtain ⟨v5, d5⟩ := hold 5 (by omega)
      obtain ⟨v6, d6⟩ := hold 6 (by omega)
      obtain ⟨v7, d7⟩ := hold 7 (by omega)
      obtain ⟨v8, d8⟩ := hold 8 (by omega)
      obtain ⟨v9, d9⟩ := hold 9 (by omega)
      obtain ⟨v10, d10⟩ := hold 10 (by omega)
      obtain ⟨v11, d11⟩ := hold 11 (by omega)
      rw [Nat.add_zero] at d0
      clear hold hcell hc12 htF
      go_upto_region 7 with fail
      have HD := Lib.hid (And.intro d0 (And.intro d1 (And.intro d2 (And.intro d3 (And.intro d4 (And.intro d5 (And.intro d6 (And.intro d7 (And.intro d8 (And.intro d9 (And.intro d10 d11)))))))))))
      clear d0 d1 d2 d3 d4 d5 d6 d7 d8 d9 d10 d11 y11 ly
      refine wp_region_Y (S := fun W' => (Blk W' w.heap.size 35 REL ∧ Blk W' gO 35 (MK gE capE gS capS aH cH (some ⟨gF, 0, none⟩) cF)) ∧ ∀ r, r < 12 → W'.cell? ⟨gs, offs + jj * 12 + r, none⟩ = some (.int .i64 (f jj r))) 15 16 rfl (by kernel_rfl) (hSk _ (G.rf _).d) (fun hS => ?_)
      refine wpAnyY_take (i := 0) (v := ?_) rfl (by kernel_rfl) (by kernel_rfl) (by kernel_rfl) (by kernel_rfl) (fun _ _ _ h => h) (Or.inl ⟨by kernel_rfl, ?_⟩) hS ?_
      rotate_left
      · intro w' hSw; go_simp; with_reducible rfl
      try simp only [Act.put, List.getElem_toArray, List.getElem_cons_zero, List.getElem_cons_succ, List.setIfInBounds_toArray, List.set_cons_zero, List.set_cons_succ]
      refine wpAnyY_take (i := 1) (v := ?_) rfl (by kernel_rfl) (by kernel_rfl) (by kernel_rfl) (by kernel_rfl) (fun _ _ _ h => h) (Or.inl ⟨by kernel_rfl, ?_⟩) hS ?_
      rotate_left
      · intro w' hSw; have e2 := (hSw.1.2.cell 11).trans (HM11.out gE capE gS capS aH cH (some ⟨gF, 0, none⟩) cF); have l2 := hSw.1.2.lt; go_simp; with_reducible rfl
      try simp only [Act.put, List.getElem_toArray, List.getElem_cons_zero, List.getElem_cons_succ, List.setIfInBounds_toArray, List.set_cons_zero, List.set_cons_succ]
      refine wpAnyY_take (i := 2) (v := ?_) rfl (by kernel_rfl) (by kernel_rfl) (by kernel_rfl) (by kernel_rfl) (fun _ _ _ h => h) (Or.inl ⟨by kernel_rfl, ?_⟩) hS ?_
      rotate_left
      · intro w' hSw; go_simp; with_reducible rfl
      try simp only [Act.put, List.getElem_toArray, List.getElem_cons_zero, List.getElem_cons_succ, List.setIfInBounds_toArray, List.set_cons_zero, List.set_cons_succ]
      refine wpAnyY_take (i := 3) (v := ?_) rfl (by kernel_rfl) (by kernel_rfl) (by kernel_rfl) (by kernel_rfl) (fun _ _ _ h => h) (Or.inl ⟨by kernel_rfl, ?_⟩) hS ?_
      rotate_left
      · intro w' hSw; go_simp; with_reducible rfl
      try simp only [Act.put, List.getElem_toArray, List.getElem_cons_zero, List.getElem_cons_succ, List.setIfInBounds_toArray, List.set_cons_zero, List.set_cons_succ]
      refine wpAnyY_take (i := 4) (v := ?_) rfl (by kernel_rfl) (by kernel_rfl) (by kernel_rfl) (by kernel_rfl) (fun _ _ _ h => h) (Or.inl ⟨by kernel_rfl, ?_⟩) hS ?_
      rotate_left
      · intro w' hSw; have e1 := (hSw.1.1.cell 11).trans h11; have l1 := hSw.1.1.lt; go_simp; with_reducible rfl
      try simp only [Act.put, List.getElem_toArray, List.getElem_cons_zero, List.getElem_cons_succ, List.setIfInBounds_toArray, List.set_cons_zero, List.set_cons_succ]
      refine wpAnyY_take (i := 5) (v := ?_) rfl (by kernel_rfl) (by kernel_rfl) (by kernel_rfl) (by kernel_rfl) (fun _ _ _ h => h) (Or.inl ⟨by kernel_rfl, ?_⟩) hS ?_
      rotate_left
      · intro w' hSw; go_simp; with_reducible rfl
      try simp only [Act.put, List.getElem_toArray, List.getElem_cons_zero, List.getElem_cons_succ, List.setIfInBounds_toArray, List.set_cons_zero, List.set_cons_succ]
      refine wpAnyY_take (i := 6) (v := ?_) rfl (by kernel_rfl) (by kernel_rfl) (by kernel_rfl) (by kernel_rfl) (fun _ _ _ h => h) (Or.inl ⟨by kernel_rfl, ?_⟩) hS ?_
      rotate_left
      · intro w' hSw; go_simp; with_reducible rfl
      try simp only [Act.put, List.getElem_toArray, List.getElem_cons_zero, List.getElem_cons_succ, List.setIfInBounds_toArray, List.set_cons_zero, List.set_cons_succ]
      refine wpAnyY_take (i := 7) (v := ?_) rfl (by kernel_rfl) (by kernel_rfl) (by kernel_rfl) (by kernel_rfl) (fun _ _ _ h => h) (Or.inl ⟨by kernel_rfl, ?_⟩) hS ?_
      rotate_left
      · intro w' hSw; go_simp; with_reducible rfl
      try simp only [Act.put, List.getElem_toArray, List.getElem_cons_zero, List.getElem_cons_succ, List.setIfInBounds_toArray, List.set_cons_zero, List.set_cons_succ]
      refine wpAnyY_take (i := 8) (v := ?_) rfl (by kernel_rfl) (by kernel_rfl) (by kernel_rfl) (by kernel_rfl) (fun _ _ _ h => h) (Or.inl ⟨by kernel_rfl, ?_⟩) hS ?_
      rotate_left
      · intro w' hSw; go_simp; with_reducible rfl
      try simp only [Act.put, List.getElem_toArray, List.getElem_cons_zero, List.getElem_cons_succ, List.setIfInBounds_toArray, List.set_cons_zero, List.set_cons_succ]
      refine wpAnyY_take (i := 9) (v := ?_) rfl (by kernel_rfl) (by kernel_rfl) (by kernel_rfl) (by kernel_rfl) (fun _ _ _ h => h) (Or.inl ⟨by kernel_rfl, ?_⟩) hS ?_
      rotate_left
      · intro w' hSw; have e1 := (hSw.1.1.cell 11).trans h11; have l1 := hSw.1.1.lt; go_simp; with_reducible rfl
      try simp only [Act.put, List.getElem_toArray, List.getElem_cons_zero, List.getElem_cons_succ, List.setIfInBounds_toArray, List.set_cons_zero, List.set_cons_succ]
      refine wpAnyY_take (i := 10) (v := ?_) rfl (by kernel_rfl) (by kernel_rfl) (by kernel_rfl) (by kernel_rfl) (fun _ _ _ h => h) (Or.inl ⟨by kernel_rfl, ?_⟩) hS ?_
      rotate_left
      · intro w' hSw; go_simp; with_reducible rfl
      try simp only [Act.put, List.getElem_toArray, List.getElem_cons_zero, List.getElem_cons_succ, List.setIfInBounds_toArray, List.set_cons_zero, List.set_cons_succ]
      refine wpAnyY_take (i := 11) (v := ?_) rfl (by kernel_rfl) (by kernel_rfl) (by kernel_rfl) (by kernel_rfl) (fun _ _ _ h => h) (Or.inl ⟨by kernel_rfl, ?_⟩) hS ?_
      rotate_left
      · intro w' hSw; go_simp; rw [HTM.out]; try with_reducible rfl
      try simp only [Act.put, List.getElem_toArray, List.getElem_cons_zero, List.getElem_cons_succ, List.setIfInBounds_toArray, List.set_cons_zero, List.set_cons_succ]
      refine wpAnyY_take (i := 12) (v := ?_) rfl (by kernel_rfl) (by kernel_rfl) (by kernel_rfl) (by kernel_rfl) (fun _ _ _ h => h) (Or.inl ⟨by kernel_rfl, ?_⟩) hS ?_
      rotate_left
      · intro w' hSw; go_simp; with_reducible rfl
      try simp only [Act.put, List.getElem_toArray, List.getElem_cons_zero, List.getElem_cons_succ, List.setIfInBounds_toArray, List.set_cons_zero, List.set_cons_succ]
      refine wpAnyY_take (i := 13) (v := ?_) rfl (by kernel_rfl) (by kernel_rfl) (by kernel_rfl) (by kernel_rfl) (fun _ _ _ h => h) (Or.inl ⟨by kernel_rfl, ?_⟩) hS ?_
      rotate_left
      · intro w' hSw; have p0 : w'.cell? ⟨gs, offs + jj * 12, none⟩ = some (.int .i64 (f jj 0)) := hSw.2 0 (by omega); have p1 : w'.cell? ⟨gs, offs + jj * 12 + 1, none⟩ = some (.int .i64 (f jj 1)) := hSw.2 1 (by omega); have p2 : w'.cell? ⟨gs, offs + jj * 12 + 2, none⟩ = some (.int .i64 (f jj 2)) := hSw.2 2 (by omega); have p3 : w'.cell? ⟨gs, offs + jj * 12 + 3, none⟩ = some (.int .i64 (f jj 3)) := hSw.2 3 (by omega); have p4 : w'.cell? ⟨gs, offs + jj * 12 + 4, none⟩ = some (.int .i64 (f jj 4)) := hSw.2 4 (by omega); have p5 : w'.cell? ⟨gs, offs + jj * 12 + 5, none⟩ = some (.int .i64 (f jj 5)) := hSw.2 5 (by omega); have p6 : w'.cell? ⟨gs, offs + jj * 12 + 6, none⟩ = some (.int .i64 (f jj 6)) := hSw.2 6 (by omega); have p7 : w'.cell? ⟨gs, offs + jj * 12 + 7, none⟩ = some (.int .i64 (f jj 7)) := hSw.2 7 (by omega); have p8 : w'.cell? ⟨gs, offs + jj * 12 + 8, none⟩ = some (.int .i64 (f jj 8)) := hSw.2 8 (by omega); have p9 : w'.cell? ⟨gs, offs + jj * 12 + 9, none⟩ = some (.int .i64 (f jj 9)) := hSw.2 9 (by omega); have p10 : w'.cell? ⟨gs, offs + jj * 12 + 10, none⟩ = some (.int .i64 (f jj 10)) := hSw.2 10 (by omega); have p11 : w'.cell? ⟨gs, offs + jj * 12 + 11, none⟩ = some (.int .i64 (f jj 11)) := hSw.2 11 (by omega); go_simp; with_reducible rfl
      try simp only [Act.put, List.getElem_toArray, List.getElem_cons_zero, List.getElem_cons_succ, List.setIfInBounds_toArray, List.set_cons_zero, List.set_cons_succ]
      refine wpAnyY_take (i := 14) (v := ?_) rfl (by kernel_rfl) (by kernel_rfl) (by kernel_rfl) (by kernel_rfl) (fun _ _ _ h => h) (Or.inl ⟨by kernel_rfl, ?_⟩) hS ?_
      rotate_left
      · intro w' hSw; go_simp; with_reducible rfl
      try simp only [Act.put, List.getElem_toArray, List.getElem_cons_zero, List.getElem_cons_succ, List.setIfInBounds_toArray, List.set_cons_zero, List.set_cons_succ]
      obtain ⟨d0, d1, d2, d3, d4, d5, d6, d7, d8, d9, d10, d11⟩ := HD.out
      have z0 := bF.frozen (q * 12)
      have z1 := bF.frozen (q * 12 + 1)
      have z2 := bF.frozen (q * 12 + 2)
      have z3 := bF.frozen (q * 12 + 3)
      have z4 := bF.frozen (q * 12 + 4)
      have z5 := bF.frozen (q * 12 + 5)
      have z6 := bF.frozen (q * 12 + 6)
      have z7 := bF.frozen (q * 12 + 7)
      have z8 := bF.frozen (q * 12 + 8)
      have z9 := bF.frozen (q * 12 + 9)
      have z10 := bF.frozen (q * 12 + 10)
      have z11 := bF.frozen (q * 12 + 11)
      clear hS hSk
      refine wpAnyY_oneW (i := 15) (by kernel_rfl) rfl (by kernel_rfl) (by kernel_rfl) (fun K15 hK15 => ?_)
      go_simp
      refine hK15.out _ _ ?_
      try simp only [Act.put, List.getElem_toArray, List.getElem_cons_zero, List.getElem_cons_succ, List.setIfInBounds_toArray, List.set_cons_zero, List.set_cons_succ]
      refine wpAnyY_done (by kernel_rfl) ?_ _
      obtain ⟨xF2, hst⟩ := rot_step hcp hlt HJ.out
      have hfar := heap_setCells (g := gF) [.int .i64 (f jj 0), .int .i64 (f jj 1), .int .i64 (f jj 2), .int .i64 (f jj 3), .int .i64 (f jj 4), .int .i64 (f jj 5), .int .i64 (f jj 6), .int .i64 (f jj 7), .int .i64 (f jj 8), .int .i64 (f jj 9), .int .i64 (f jj 10), .int .i64 (f jj 11)] (q * 12) wo
      have hb0 := (Blk.apart b0 bF (by decide) hfar : Blk (wo.setCells gF (q * 12) [.int .i64 (f jj 0), .int .i64 (f jj 1), .int .i64 (f jj 2), .int .i64 (f jj 3), .int .i64 (f jj 4), .int .i64 (f jj 5), .int .i64 (f jj 6), .int .i64 (f jj 7), .int .i64 (f jj 8), .int .i64 (f jj 9), .int .i64 (f jj 10), .int .i64 (f jj 11)]) w.heap.size 35 REL)
      have hc0 := (Blk.apart c0 bF (by decide) hfar : Blk (wo.setCells gF (q * 12) [.int .i64 (f jj 0), .int .i64 (f jj 1), .int .i64 (f jj 2), .int .i64 (f jj 3), .int .i64 (f jj 4), .int .i64 (f jj 5), .int .i64 (f jj 6), .int .i64 (f jj 7), .int .i64 (f jj 8), .int .i64 (f jj 9), .int .i64 (f jj 10), .int .i64 (f jj 11)]) (w.heap.size + 1) 62 #[.int .i64 (i : Nat), .int .i64 (a : Nat), .int .i64 (b : Nat), .int .i64 px, .int .i64 py, .int .i64 hr])
      have hbO := (Blk.apart bO bF (by decide) hfar : Blk (wo.setCells gF (q * 12) [.int .i64 (f jj 0), .int .i64 (f jj 1), .int .i64 (f jj 2), .int .i64 (f jj 3), .int .i64 (f jj 4), .int .i64 (f jj 5), .int .i64 (f jj 6), .int .i64 (f jj 7), .int .i64 (f jj 8), .int .i64 (f jj 9), .int .i64 (f jj 10), .int .i64 (f jj 11)]) gO 35 _)
      have hlG : w.heap.size ≤ gF := by
        have := hcp.bd.2.2.2
        rcases hcp.hF.2 with ⟨e, _⟩ | ⟨g, cap, cur2, e, hbg, _⟩
        · cases e
        · injection e with e1 e2 e3
          injection e1 with e1
          injection e1 with e1 _ _
          subst e1
          omega
      have hg0 := G_setCells hlG [.int .i64 (f jj 0), .int .i64 (f jj 1), .int .i64 (f jj 2), .int .i64 (f jj 3), .int .i64 (f jj 4), .int .i64 (f jj 5), .int .i64 (f jj 6), .int .i64 (f jj 7), .int .i64 (f jj 8), .int .i64 (f jj 9), .int .i64 (f jj 10), .int .i64 (f jj 11)] (q * 12) wo g0
      have e : wo.setCells gF (q * 12) [.int .i64 (f jj 0), .int .i64 (f jj 1), .int .i64 (f jj 2), .int .i64 (f jj 3), .int .i64 (f jj 4), .int .i64 (f jj 5), .int .i64 (f jj 6), .int .i64 (f jj 7), .int .i64 (f jj 8), .int .i64 (f jj 9), .int .i64 (f jj 10), .int .i64 (f jj 11)] = ((((((((((((wo).setCell ⟨gF, q * 12, none⟩ (.int .i64 (f jj 0))).setCell ⟨gF, q * 12 + 1, none⟩ (.int .i64 (f jj 1))).setCell ⟨gF, q * 12 + 2, none⟩ (.int .i64 (f jj 2))).setCell ⟨gF, q * 12 + 3, none⟩ (.int .i64 (f jj 3))).setCell ⟨gF, q * 12 + 4, none⟩ (.int .i64 (f jj 4))).setCell ⟨gF, q * 12 + 5, none⟩ (.int .i64 (f jj 5))).setCell ⟨gF, q * 12 + 6, none⟩ (.int .i64 (f jj 6))).setCell ⟨gF, q * 12 + 7, none⟩ (.int .i64 (f jj 7))).setCell ⟨gF, q * 12 + 8, none⟩ (.int .i64 (f jj 8))).setCell ⟨gF, q * 12 + 9, none⟩ (.int .i64 (f jj 9))).setCell ⟨gF, q * 12 + 10, none⟩ (.int .i64 (f jj 10))).setCell ⟨gF, q * 12 + 11, none⟩ (.int .i64 (f jj 11)) := by
        simp only [World.setCells, Nat.add_assoc, Nat.reduceAdd]
      rw [e] at hst hb0 hc0 hbO hg0
      have HST := Lib.hid (And.intro (hst.keep (G.rf _).d) (And.intro (hb0.keep (G.rf _).d) (And.intro (hc0.keep (G.rf _).d) (And.intro (hbO.keep (G.rf _).d) hg0.d))))
      clear e hst hb0 hc0 hbO hg0 hfar hlG d0 d1 d2 d3 d4 d5 d6 d7 d8 d9 d10 d11 z0 z1 z2 z3 z4 z5 z6 z7 z8 z9 z10 z11 HD hcp b0 c0 bO g0 bF lF
      go_wp2_with fail
      go_roundw
      case rel => exact ⟨q + 1, xF2, by omega, by go_num, HST.out⟩
      case measure => simp [intOf] <;> omega
    · obtain rfl : q = k := by omega
      have hki : ¬ ((q : Nat) : Int) < q := by omega
      go_upto_region 8 with fail
      have bO2 := bO
      have HRO := Lib.hid (HMI.out gE capE gS capS aH cH aF cF)
      clear y11 ly bO hki hlt hq HFR HM11 HMI
      obtain ⟨wc, rfl⟩ : ∃ wc, wc = wo := ⟨_, rfl⟩
      have x0 : wc.cell? ⟨w.heap.size + 1, 0, none⟩ = some (.int .i64 (i : Nat)) := c0.cell 0
      have x1 : wc.cell? ⟨w.heap.size + 1, 1, none⟩ = some (.int .i64 (a : Nat)) := c0.cell 1
      have lx := c0.lt
      refine wp_region_lit ?_
      refine wpList_load35 w.heap.size 3 HIS.out rfl rfl rfl b0 ?_
      try simp only [Act.put, List.getElem_toArray, List.getElem_cons_zero, List.getElem_cons_succ, List.setIfInBounds_toArray, List.set_cons_zero, List.set_cons_succ]
      go_upto_region 9 with (go_at_call 17; refine (HS1.out _ g0).mono ?_; rintro e wn ⟨rfl, hGn⟩)
      clear x0 x1 lx
      replace b0 := b0.keep hGn
      replace c0 := c0.keep hGn
      replace bO2 := bO2.keep hGn
      replace g0 := g0.t hGn
      replace hcp := hcp.keep hGn
      clear hGn
      obtain ⟨wc, rfl⟩ : ∃ wc, wc = wn := ⟨_, rfl⟩
      have x0 : wc.cell? ⟨w.heap.size + 1, 0, none⟩ = some (.int .i64 (i : Nat)) := c0.cell 0
      have x1 : wc.cell? ⟨w.heap.size + 1, 1, none⟩ = some (.int .i64 (a : Nat)) := c0.cell 1
      have lx := c0.lt
      refine wp_region_lit ?_
      refine wpList_load35 gO 7 HRO.out rfl rfl rfl bO2 ?_
      try simp only [Act.put, List.getElem_toArray, List.getElem_cons_zero, List.getElem_cons_succ, List.setIfInBounds_toArray, List.set_cons_zero, List.set_cons_succ]
      go_upto_region 10 with (go_at_call 17; refine (HS2.out _ _ gE capE curE gS capS curS aH cH xH BH aF cF _ _ g0 hcp).mono ?_; rintro e wn ⟨rfl, hGn⟩)
      clear x0 x1 lx
      replace b0 := b0.keep hGn
      replace c0 := c0.keep hGn
      replace bO2 := bO2.keep hGn
      replace g0 := g0.t hGn
      replace hcp := hcp.keep hGn
      clear hGn
      obtain ⟨wc, rfl⟩ : ∃ wc, wc = wn := ⟨_, rfl⟩
      have x1 : wc.cell? ⟨w.heap.size + 1, 1, none⟩ = some (.int .i64 (a : Nat)) := c0.cell 1
      have lx := c0.lt
      refine wp_region_lit ?_
      refine wpList_load35 w.heap.size 3 HIS.out rfl rfl rfl b0 ?_
      try simp only [Act.put, List.getElem_toArray, List.getElem_cons_zero, List.getElem_cons_succ, List.setIfInBounds_toArray, List.set_cons_zero, List.set_cons_succ]
      go_upto_region 11 with (go_at_call 23; refine (HB1.out _ g0).mono ?_; rintro e wn ⟨ra, rc, rfl, hr1, hGn⟩)
      clear x1 lx
      replace b0 := b0.keep hGn
      replace c0 := c0.keep hGn
      replace bO2 := bO2.keep hGn
      replace g0 := g0.t hGn
      replace hcp := hcp.keep hGn
      clear hGn
      obtain ⟨wc, rfl⟩ : ∃ wc, wc = wn := ⟨_, rfl⟩
      have x1 : wc.cell? ⟨w.heap.size + 1, 1, none⟩ = some (.int .i64 (a : Nat)) := c0.cell 1
      have lx := c0.lt
      refine wp_region_lit ?_
      refine wpList_load35 gO 7 HRO.out rfl rfl rfl bO2 ?_
      try simp only [Act.put, List.getElem_toArray, List.getElem_cons_zero, List.getElem_cons_succ, List.setIfInBounds_toArray, List.set_cons_zero, List.set_cons_succ]
      go_upto_region 12 with (go_at_call 23; refine (HB2.out _ _ gE capE curE gS capS curS aH cH xH BH aF cF _ _ g0 hcp).mono ?_; rintro e wn ⟨rb, rd, rfl, hr2, hGn⟩)
      clear x1 lx
      replace b0 := b0.keep hGn
      replace c0 := c0.keep hGn
      replace bO2 := bO2.keep hGn
      replace g0 := g0.t hGn
      replace hcp := hcp.keep hGn
      replace hr1 := hr1.below hGn
      clear hGn
      obtain ⟨wc, rfl⟩ : ∃ wc, wc = wn := ⟨_, rfl⟩
      have x1 : wc.cell? ⟨w.heap.size + 1, 1, none⟩ = some (.int .i64 (a : Nat)) := c0.cell 1
      have x2 : wc.cell? ⟨w.heap.size + 1, 2, none⟩ = some (.int .i64 (b : Nat)) := c0.cell 2
      have lx := c0.lt
      refine wp_region_lit ?_
      refine wpList_load35 w.heap.size 3 HIS.out rfl rfl rfl b0 ?_
      try simp only [Act.put, List.getElem_toArray, List.getElem_cons_zero, List.getElem_cons_succ, List.setIfInBounds_toArray, List.set_cons_zero, List.set_cons_succ]
      go_upto_region 13 with (go_at_call 20; refine (HF1.out _ g0).mono ?_; rintro e wn ⟨rfl, hGn⟩)
      clear x1 x2 lx
      replace b0 := b0.keep hGn
      replace c0 := c0.keep hGn
      replace bO2 := bO2.keep hGn
      replace g0 := g0.t hGn
      replace hcp := hcp.keep hGn
      replace hr1 := hr1.below hGn
      replace hr2 := hr2.below hGn
      clear hGn
      obtain ⟨wc, rfl⟩ : ∃ wc, wc = wn := ⟨_, rfl⟩
      have x1 : wc.cell? ⟨w.heap.size + 1, 1, none⟩ = some (.int .i64 (a : Nat)) := c0.cell 1
      have x2 : wc.cell? ⟨w.heap.size + 1, 2, none⟩ = some (.int .i64 (b : Nat)) := c0.cell 2
      have lx := c0.lt
      refine wp_region_lit ?_
      refine wpList_load35 gO 7 HRO.out rfl rfl rfl bO2 ?_
      try simp only [Act.put, List.getElem_toArray, List.getElem_cons_zero, List.getElem_cons_succ, List.setIfInBounds_toArray, List.set_cons_zero, List.set_cons_succ]
      go_upto_region 14 with (go_at_call 20; refine (HF2.out _ _ gE capE curE gS capS curS aH cH xH BH aF cF _ _ g0 hcp).mono ?_; rintro e wn ⟨rfl, hGn⟩)
      clear x1 x2 lx
      replace b0 := b0.keep hGn
      replace c0 := c0.keep hGn
      replace bO2 := bO2.keep hGn
      replace g0 := g0.t hGn
      replace hcp := hcp.keep hGn
      replace hr1 := hr1.below hGn
      replace hr2 := hr2.below hGn
      clear hGn
      obtain ⟨wc, rfl⟩ : ∃ wc, wc = wn := ⟨_, rfl⟩
      have HSB := Lib.hid (sameBlocks_any ra rb rc rd N c wc hr1 hr2 hN)
      clear HS1 HS2 HB1 HB2 HF1 HF2 hcp hr1 hr2
      go_wp2_with (first | (go_at_call 24; refine (HSB.out).mono ?_; rintro e w8 ⟨rfl, hG8⟩) | (go_at_call 13; refine (HWK.out _).mono ?_; rintro e w9 ⟨rfl, hG9⟩))
      go_ret
      exact ⟨rfl, (g0.t hG8).t hG9⟩
end Go.Proofs.Ytcekdljjmfkacaa
set_option linter.unusedSimpArgs false
set_option linter.unusedVariables false
namespace Go.Proofs.Ytcekdljjmfkacaa
open Go.RowKit Go.Shelf
attribute [local go_sem] Oper.semAt_some wide_fn wide_dep wideR_fn wideR_dep
/-- turns and minutes that are asked of no release: outside the bounds -/
def OffT (t minute to : Int) : Prop := t < 0 ∨ 100 < t ∨ OffE minute to
set_option maxRecDepth 100000 in
set_option maxHeartbeats 8000000 in
theorem OrderOut_walk (REL : Array Value) (t home minute to px py hr : Int) (w : World) (hIs : IsRel REL) (hto : -9223372036854775808 ≤ to ∧ to ≤ 9223372036854775807)
    (hV : ∀ W, G w W → Calls Try.prog 12 #[.agg REL, .int .i64 home, .int .i64 minute] W (ValidPost W ((0 ≤ minute ∧ minute ≤ 9999) ∧ OffT t minute to))) :
    Calls Try.prog 8 #[.agg REL, .int .i64 t, .agg #[.int .i64 home, .int .i64 minute, .int .i64 to, .int .i64 px, .int .i64 py, .int .i64 hr]] w fun e w' => e = .returned (.bool true) ∧ G w w' := by
  have HIS := Lib.hid hIs
  have HV := Lib.hid hV
  have HWK := Lib.hid (fun W : World => works_any W)
  clear hIs hV
  have g0 : G w ((w.alloc (.cells REL 35)).alloc (.cells #[.int .i64 home, .int .i64 minute, .int .i64 to, .int .i64 px, .int .i64 py, .int .i64 hr] 62)) := ((G.rf _).a _).a _
  have b0 : Blk ((w.alloc (.cells REL 35)).alloc (.cells #[.int .i64 home, .int .i64 minute, .int .i64 to, .int .i64 px, .int .i64 py, .int .i64 hr] 62)) w.heap.size 35 REL := (Blk.new w 35 REL).keep ((G.rf _).a _)
  have c0 : Blk ((w.alloc (.cells REL 35)).alloc (.cells #[.int .i64 home, .int .i64 minute, .int .i64 to, .int .i64 px, .int .i64 py, .int .i64 hr] 62)) (w.heap.size + 1) 62 #[.int .i64 home, .int .i64 minute, .int .i64 to, .int .i64 px, .int .i64 py, .int .i64 hr] := by
    have := Blk.new (w.alloc (.cells REL 35)) 62 #[.int .i64 home, .int .i64 minute, .int .i64 to, .int .i64 px, .int .i64 py, .int .i64 hr]
    rwa [show (w.alloc (.cells REL 35)).heap.size = w.heap.size + 1 by simp] at this
  go_enter Try.func8, Try.ntmps8
  go_upto_region 1 with fail
  change Code.wp _ _ _ _ ((w.alloc (.cells REL 35)).alloc (.cells #[.int .i64 home, .int .i64 minute, .int .i64 to, .int .i64 px, .int .i64 py, .int .i64 hr] 62))
  generalize (w.alloc (.cells REL 35)).alloc (.cells #[.int .i64 home, .int .i64 minute, .int .i64 to, .int .i64 px, .int .i64 py, .int .i64 hr] 62) = w1 at *
  have x0 : w1.cell? ⟨w.heap.size + 1, 0, none⟩ = some (.int .i64 home) := c0.cell 0
  have x1 : w1.cell? ⟨w.heap.size + 1, 1, none⟩ = some (.int .i64 minute) := c0.cell 1
  have lx := c0.lt
  refine wp_region_lit ?_
  refine wpList_load35 w.heap.size 3 HIS.out rfl rfl rfl b0 ?_
  try simp only [Act.put, List.getElem_toArray, List.getElem_cons_zero, List.getElem_cons_succ, List.setIfInBounds_toArray, List.set_cons_zero, List.set_cons_succ]
  refine wpList_plain rfl fun K hK => ?_
  go_simp
  refine hK _ _ ?_
  clear hK
  try simp only [Act.put, List.getElem_toArray, List.getElem_cons_zero, List.getElem_cons_succ, List.setIfInBounds_toArray, List.set_cons_zero, List.set_cons_succ]
  refine wpList_plain rfl fun K hK => ?_
  go_simp
  refine hK _ _ ?_
  clear hK
  try simp only [Act.put, List.getElem_toArray, List.getElem_cons_zero, List.getElem_cons_succ, List.setIfInBounds_toArray, List.set_cons_zero, List.set_cons_succ]
  refine wpList_plain rfl fun K hK => ?_
  go_simp
  refine hK _ _ ?_
  clear hK
  try simp only [Act.put, List.getElem_toArray, List.getElem_cons_zero, List.getElem_cons_succ, List.setIfInBounds_toArray, List.set_cons_zero, List.set_cons_succ]
  refine wpList_plain rfl fun K hK => ?_
  go_simp
  refine hK _ _ ?_
  clear hK
  try simp only [Act.put, List.getElem_toArray, List.getElem_cons_zero, List.getElem_cons_succ, List.setIfInBounds_toArray, List.set_cons_zero, List.set_cons_succ]
  refine wpList_plain rfl fun K hK => ?_
  go_simp
  refine (HV.out _ g0).mono ?_
  rintro e w2 ⟨bb, rfl, hb, hG2⟩
  refine hK _ _ ?_
  clear hK K
  try simp only [Act.put, List.getElem_toArray, List.getElem_cons_zero, List.getElem_cons_succ, List.setIfInBounds_toArray, List.set_cons_zero, List.set_cons_succ]
  clear HV x0 x1 lx
  replace b0 := b0.keep hG2
  replace c0 := c0.keep hG2
  replace g0 := g0.t hG2
  clear hG2
  have lx := c0.lt
  cases bb
  · clear hb
    go_wp2_with (go_at_call 13; refine (HWK.out _).mono ?_; rintro e w9 ⟨rfl, hG9⟩)
    go_ret
    exact ⟨rfl, g0.t hG9⟩
  obtain ⟨⟨a1, a2⟩, hoff⟩ := hb rfl
  unfold OffT OffE at hoff
  clear hb
  have x1 : w2.cell? ⟨w.heap.size + 1, 1, none⟩ = some (.int .i64 minute) := c0.cell 1
  have x2 : w2.cell? ⟨w.heap.size + 1, 2, none⟩ = some (.int .i64 to) := c0.cell 2
  by_cases v1 : t < 0
  · clear hoff a1 a2 hto
    have u1 : decide (t < 0) = true := decide_eq_true v1
    go_wp2_with (go_at_call 13; refine (HWK.out _).mono ?_; rintro e w9 ⟨rfl, hG9⟩)
    go_ret
    exact ⟨rfl, g0.t hG9⟩
  have u1 : decide (t < 0) = false := decide_eq_false v1
  by_cases v2 : 100 < t
  · clear hoff a1 a2 hto
    have u2 : decide (100 < t) = true := decide_eq_true v2
    go_wp2_with (go_at_call 13; refine (HWK.out _).mono ?_; rintro e w9 ⟨rfl, hG9⟩)
    go_ret
    exact ⟨rfl, g0.t hG9⟩
  have u2 : decide (100 < t) = false := decide_eq_false v2
  by_cases q1 : to < minute
  · clear hoff a1 a2 hto
    have t1 : decide (to < minute) = true := decide_eq_true q1
    go_wp2_with (go_at_call 13; refine (HWK.out _).mono ?_; rintro e w9 ⟨rfl, hG9⟩)
    go_ret
    exact ⟨rfl, g0.t hG9⟩
  have t1 : decide (to < minute) = false := decide_eq_false q1
  obtain ⟨d, hd⟩ : ∃ d, d = to - minute := ⟨_, rfl⟩
  have xd : IntKind.i64.wrap (to - minute) = d := by rw [hd]; exact IntWalk.i64_in _ (by omega)
  rw [← hd] at hoff
  clear hd hto a1 a2
  by_cases q2 : 40 < d
  · clear hoff
    have t2 : decide (40 < d) = true := decide_eq_true q2
    go_wp2_with (go_at_call 13; refine (HWK.out _).mono ?_; rintro e w9 ⟨rfl, hG9⟩)
    go_ret
    exact ⟨rfl, g0.t hG9⟩
  have t2 : decide (40 < d) = false := decide_eq_false q2
  have q3 : 9999 < to := by omega
  have t3 : decide (9999 < to) = true := decide_eq_true q3
  clear hoff
  go_wp2_with (go_at_call 13; refine (HWK.out _).mono ?_; rintro e w9 ⟨rfl, hG9⟩)
  go_ret
  exact ⟨rfl, g0.t hG9⟩
theorem rot_inv {k t i : Nat} (hk : 0 < k) (hi : i < k) : ((i + (k - t % k)) % k + t) % k = i := by
  have h1 := Nat.mod_lt t hk
  rw [Nat.mod_add_mod]
  have e := Nat.div_add_mod t k
  have : i + (k - t % k) + t = i + k * (1 + t / k) := by
    rw [Nat.mul_add, Nat.mul_one]
    omega
  rw [this, Nat.add_mul_mod_self_left, Nat.mod_eq_of_lt hi]
/-- fronts in another order leave the same -/
theorem known_rot (f : Nat → Nat → Int) (k t : Nat) (x y h : Int) : known (rotF f k t k) x y h k = known f x y h k := by
  refine Sk.le_anti (known_sub fun i hi => ⟨(i + (k - t % k)) % k, Nat.mod_lt _ (by omega), ?_⟩) (known_sub fun i hi => ⟨(i + t) % k, Nat.mod_lt _ (by omega), ?_⟩)
  · funext r
    unfold rotF
    rw [if_pos (Nat.mod_lt _ (by omega)), rot_inv (by omega) hi]
  · funext r
    unfold rotF
    rw [if_pos hi]
/-- the copy of a release, with the fronts from the t-th on -/
def Rl.rot (r : Rl) (t : Nat) (gE capE gS capS : Nat) (aH : Option Addr) (cH : Nat) (aF : Option Addr) (cF : Nat) : Rl := { r with f := rotF r.f r.k t r.k, ea := some ⟨gE, 0, none⟩, ec := capE, sa := some ⟨gS, 0, none⟩, sc := capS, ha := aH, hc := cH, fa := aF, fc := cF }
theorem rot_S (r : Rl) (t gE capE gS capS : Nat) (aH : Option Addr) (cH : Nat) (aF : Option Addr) (cF : Nat) : (r.rot t gE capE gS capS aH cH aF cF).S = r.S := by
  funext x y h
  show SD (rotF r.f r.k t r.k) r.k r.cols r.east.length r.hours r.east.length 0 0 x y h = SD r.f r.k r.cols r.east.length r.hours r.east.length 0 0 x y h
  unfold SD
  rw [known_rot]
theorem rot_good (r : Rl) (t gE capE gS capS : Nat) (aH : Option Addr) (cH : Nat) (aF : Option Addr) (cF : Nat) : (r.rot t gE capE gS capS aH cH aF cF).goodB = r.goodB := by
  show ((List.range r.east.length).all fun y => (List.range r.cols).all fun x => (List.range r.hours).all fun t' => !skNone (known (rotF r.f r.k t r.k) x y t' r.k)) = _
  unfold Rl.goodB
  simp only [known_rot]
theorem rot_err (r : Rl) (t gE capE gS capS : Nat) (aH : Option Addr) (cH : Nat) (aF : Option Addr) (cF : Nat) : (r.rot t gE capE gS capS aH cH aF cF).err = r.err := by
  unfold Rl.err
  rw [rot_good]
theorem rot_blk (r : Rl) (t gE capE gS capS : Nat) (aH : Option Addr) (cH : Nat) (aF : Option Addr) (cF : Nat) : (r.rot t gE capE gS capS aH cH aF cF).blk = r.blk := by
  funext m i
  unfold Rl.blk
  rw [rot_S]
  rfl
theorem rot_safe (r : Rl) (t gE capE gS capS : Nat) (aH : Option Addr) (cH : Nat) (aF : Option Addr) (cF : Nat) (i m : Nat) : (r.rot t gE capE gS capS aH cH aF cF).safe i m = r.safe i m := by
  unfold Rl.safe
  rw [rot_S]
  rfl
theorem rot_fly {r : Rl} (h : r.Nums) (t gE capE gS capS : Nat) (aH : Option Addr) (cH : Nat) (aF : Option Addr) (cF : Nat) : flyB (r.rot t gE capE gS capS aH cH aF cF) = flyB r := by
  funext m
  have h2 : (r.rot t gE capE gS capS aH cH aF cF).Nums := ⟨h.cols, h.rows, h.base, h.homes, h.many, h.speed, h.hours, h.dark, h.lims⟩
  rw [flyB_eq h2, flyB_eq h, rot_blk]
  rfl
/-- what Blocks answers of a release, as a row -/
theorem rB {r : Rl} {w : World} (h : r.Ok w) {m : Nat} (hm : m ≤ 9999) : Calls Try.prog 23 #[.agg r.v, .int .i64 (m : Nat)] w fun e w' => ∃ ra rc, e = .returned (.tuple #[.slice ra (if r.err = 0 then (bks (r.blk m) r.n).length else 0) rc, .int .i64 r.err]) ∧ RowAt w' ra (if r.err = 0 then (bks (r.blk m) r.n).length else 0) 3 (bkC (bks (r.blk m) r.n)) ∧ G w w' := by
  refine (rBlocks_ok h hm).mono fun e w' hp => ?_
  obtain ⟨hG, ⟨h0, v, B, rfl, _, hown⟩ | ⟨h1, rfl⟩⟩ := hp
  · obtain ⟨ra, rc, rfl, hrow⟩ := bks_row hown
    rw [if_pos h0]
    exact ⟨ra, rc, by rw [h0], hrow, hG⟩
  · rw [if_neg h1]
    exact ⟨none, 0, rfl, .inl rfl, hG⟩
section
variable (north cols lofts wrong bx bY sl sh lw lg lh hours dark : Int) (east : List Int) (svs : List Sv) (n k : Nat) (h f : Nat → Nat → Int) (ea sa ha fa : Option Addr) (ec sc hc fc : Nat) (w : World)
set_option maxRecDepth 100000 in
set_option maxHeartbeats 4000000 in
theorem OrderLaw_any (L : Laid east svs n k h f ea sa ha fa w) (hcap : (sa = none → sc = 0) ∧ ((ha = none → hc = 0) ∧ n ≤ hc) ∧ (fa = none → fc = 0) ∧ k ≤ fc) (t home minute to px py hr : Int) (hto : -9223372036854775808 ≤ to ∧ to ≤ 9223372036854775807) : Calls Try.prog 8 #[.agg #[.int .i64 north, .int .i64 cols, .slice ea east.length ec, .int .i64 lofts, .slice sa svs.length sc, .int .i64 wrong, .int .i64 bx, .int .i64 bY, .slice ha n hc, .int .i64 sl, .int .i64 sh, .slice fa k fc, .int .i64 lw, .int .i64 lg, .int .i64 lh, .int .i64 hours, .int .i64 dark], .int .i64 t, .agg #[.int .i64 home, .int .i64 minute, .int .i64 to, .int .i64 px, .int .i64 py, .int .i64 hr]] w fun e w' => e = .returned (.bool true) ∧ G w w' := by
  have hV := fun (W : World) (hW : G w W) => valid_any north cols lofts wrong bx bY sl sh lw lg lh hours dark east svs n k h f ea sa ha fa ec sc hc fc W (L.keep hW) home minute
  by_cases hp : (COk north cols lofts wrong bx bY sl sh lw lg lh hours dark east svs n k h f ∧ (0 ≤ home ∧ home < n) ∧ (0 : Int) ≤ minute ∧ minute ≤ (9999 : Int)) ∧ ¬ OffT t minute to
  · obtain ⟨hp, hoff⟩ := hp
    obtain ⟨r, hv, hok, hrn, hrk, hre⟩ := to_Rl north cols lofts wrong bx bY sl sh lw lg lh hours dark east svs n k h f ea sa ha fa ec sc hc fc w L hp.1
    have hcaps : r.caps := caps_of hv hcap
    unfold OffT OffE at hoff
    obtain ⟨i, rfl⟩ : ∃ i : Nat, home = i := ⟨home.toNat, by omega⟩
    obtain ⟨m, rfl⟩ : ∃ m : Nat, minute = m := ⟨minute.toNat, by omega⟩
    obtain ⟨b, rfl⟩ : ∃ b : Nat, to = b := ⟨to.toNat, by omega⟩
    obtain ⟨t, rfl⟩ : ∃ s : Nat, t = s := ⟨t.toNat, by omega⟩
    rw [← hv] at hV ⊢
    have hi : i < r.n := by omega
    have hN := hok.nums
    have hl2 := (checkE_zero hok.hk).2.1
    have hblen := bks_len (r.blk m) r.n
    have hfo2 : ∀ j, j < r.k → FrontOk r.cols r.east.length r.hours (rotF r.f r.k t r.k j) := fun j hj => by
      have e : rotF r.f r.k t r.k j = r.f ((j + t) % r.k) := by
        funext q
        unfold rotF
        rw [if_pos hj]
      rw [e]
      exact hok.hfo _ (Nat.mod_lt _ (by omega))
    have hok2 : ∀ W w0 gE capE curE gS capS curS aH cH xH BH aF cF xF BF, CpIn w0 r.east r.svs r.n r.k r.h (rotF r.f r.k t r.k) gE curE gS capS curS aH cH xH BH aF cF xF BF W → (r.rot t gE capE gS capS aH cH aF cF).Ok W := fun W w0 gE capE curE gS capS curS aH cH xH BH aF cF xF BF hcp =>
      ⟨hcp.ints, hcp.svsAt, hok.hk, hok.hr, hcp.homes, hcp.fronts, hok.hk12, hfo2⟩
    refine Order_walk r.v (fun gE capE gS capS aH cH aF cF => (r.cpy r.lw r.lg r.lh gE capE gS capS aH cH aF cF).v) r.east r.svs r.n r.k (if r.err = 0 then (bks (r.blk m) r.n).length else 0) r.h r.f (bkC (bks (r.blk m) r.n)) r.fa r.fc t i m b px py hr r.err (if r.err = 0 then r.safe i m else 0) (if r.err = 0 then (firstR (flyB r) m (b + 1 - m)).1 else 0) (if r.err = 0 then (firstR (flyB r) m (b + 1 - m)).2 else r.err) w (rIs r) (by omega) (by omega) (by omega) (by omega) hok.hk12 (by have := hN.many; split <;> omega) rfl hok.hF
      (fun gE capE gS capS aH cH aF cF => rIs _) (fun gE capE gS capS aH cH aF cF => rfl)
      (fun W hW => (hV W hW).mono fun e w' hh => by obtain ⟨b, h1, _, h2⟩ := hh; exact ⟨b, h1, h2⟩) (fun W hW => ?_) (fun W hW => rS (hok.keep hW) hi (by omega)) (fun W w0 gE capE curE gS capS curS aH cH xH BH aF cF xF BF hW hcp => ?_) (fun W hW => rB (hok.keep hW) (by omega)) (fun W w0 gE capE curE gS capS curS aH cH xH BH aF cF xF BF hW hcp => ?_) (fun W hW => rF (hok.keep hW) (by omega) (by omega)) (fun W w0 gE capE curE gS capS curS aH cH xH BH aF cF xF BF hW hcp => ?_)
    · have h := hok.keep hW
      exact rCopy_any r.north (r.cols : Nat) (r.lofts : Nat) r.wrong (r.bx : Nat) (r.bY : Nat) (r.sl : Nat) (r.sh : Nat) r.lw r.lg r.lh (r.hours : Nat) (r.dark : Nat) r.east r.svs r.n r.k r.h r.f r.ea r.sa r.ha r.fa r.ec r.sc r.hc r.fc W h.he h.hs h.hH h.hF (by have := hN.base; omega) (by have := hN.rows; omega) (by omega) (by have := hN.many; omega) (by have := hok.hk12; omega) hcaps.1 hcaps.2.1 hcaps.2.2
    · have := rS (hok2 W w0 gE capE curE gS capS curS aH cH xH BH aF cF xF BF hcp) hi (show m ≤ 9999 by omega)
      rw [rot_err, rot_safe] at this
      exact this
    · have := rB (hok2 W w0 gE capE curE gS capS curS aH cH xH BH aF cF xF BF hcp) (show m ≤ 9999 by omega)
      rw [rot_err, rot_blk] at this
      exact this
    · have := rF (hok2 W w0 gE capE curE gS capS curS aH cH xH BH aF cF xF BF hcp) (show m ≤ 9999 by omega) (show b ≤ 9999 by omega)
      rw [rot_err, rot_fly hN] at this
      exact this
  · refine OrderOut_walk #[.int .i64 north, .int .i64 cols, .slice ea east.length ec, .int .i64 lofts, .slice sa svs.length sc, .int .i64 wrong, .int .i64 bx, .int .i64 bY, .slice ha n hc, .int .i64 sl, .int .i64 sh, .slice fa k fc, .int .i64 lw, .int .i64 lg, .int .i64 lh, .int .i64 hours, .int .i64 dark] t home minute to px py hr w isRelV hto (fun W hW => (hV W hW).mono fun e w' hh => ?_)
    obtain ⟨b, h1, h2, h3⟩ := hh
    refine ⟨b, h1, fun hb => ?_, h3⟩
    have h4 := h2 hb
    exact ⟨h4.2.2, Classical.byContradiction fun hno => hp ⟨h4, hno⟩⟩
end
end Go.Proofs.Ytcekdljjmfkacaa
