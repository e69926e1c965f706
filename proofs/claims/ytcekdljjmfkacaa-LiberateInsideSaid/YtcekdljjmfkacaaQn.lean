import Derived.Test.YtcekdljjmfkacaaOu
import Derived.Test.YtcekdljjmfkacaaQh
set_option linter.unusedSimpArgs false
set_option linter.unusedVariables false
namespace Go.Proofs.Ytcekdljjmfkacaa
open Go.RowKit Go.Shelf
attribute [local go_sem] Oper.semAt_some wide_fn wide_dep wideR_fn wideR_dep
/-- the numbers of blocks -/
def bkC (L : List (Nat × Nat × Nat)) (i r : Nat) : Int := match r with
  | 0 => ((L.getD i (0, 0, 0)).1 : Nat)
  | 1 => ((L.getD i (0, 0, 0)).2.1 : Nat)
  | _ => ((L.getD i (0, 0, 0)).2.2 : Nat)
theorem bksV_get (L : List (Nat × Nat × Nat)) : ∀ i, i < L.length → ∀ r, r < 3 → (bksV L)[i * 3 + r]? = some (.int .i64 (bkC L i r)) := by
  induction L with
  | nil => intro i hi; simp at hi
  | cons p L ih =>
    intro i hi r hr
    have e : bksV (p :: L) = [.int .i64 (p.1 : Nat), .int .i64 (p.2.1 : Nat), .int .i64 (p.2.2 : Nat)] ++ bksV L := by simp [bksV]
    rw [e]
    rcases i with _ | i
    · match r, hr with
      | 0, _ => rfl
      | 1, _ => rfl
      | 2, _ => rfl
    · rw [List.getElem?_append_right (by simp; omega)]
      have := ih i (by simpa using hi) r hr
      rw [show (i + 1) * 3 + r - [Value.int .i64 (p.1 : Nat), .int .i64 (p.2.1 : Nat), .int .i64 (p.2.2 : Nat)].length = i * 3 + r by simp; omega, this]
      match r, hr with
      | 0, _ => rfl
      | 1, _ => rfl
      | 2, _ => rfl
theorem bks_row {W : World} {B : Nat} {v : Value} {L : List (Nat × Nat × Nat)} (h : W.ownsRow B 73 3 v L.length (bksV L)) : ∃ ra rc, v = .slice ra L.length rc ∧ RowAt W ra L.length 3 (bkC L) := by
  by_cases h0 : 0 < L.length
  · obtain ⟨g, cap, cur, rfl, hb, hg, ht⟩ := own_some h h0
    exact ⟨_, _, rfl, .inr ⟨g, 0, rfl, hg, fun i hi r hr => by rw [Nat.zero_add]; exact take_cell hb ht (by omega) (bksV_get L i hi r hr)⟩⟩
  · obtain ⟨ra, rc, rfl⟩ := own_slice h
    exact ⟨_, _, rfl, .inl (by omega)⟩
/-- First tells the first minute at which one may fly, or that there is none -/
theorem firstR_cases {fly : Nat → Bool} {a b : Nat} {fm fe : Int} (h : firstR fly a (b + 1 - a) = (fm, fe)) : (fe = 0 ∧ ∃ j : Nat, a ≤ j ∧ j ≤ b ∧ fm = (j : Nat) ∧ fly j = true ∧ ∀ k, a ≤ k → k < j → fly k = false) ∨ (fe = 3 ∧ ∀ k, a ≤ k → k ≤ b → fly k = false) := by
  unfold firstR at h
  cases hf : (List.range (b + 1 - a)).find? (fun j => fly (a + j)) with
  | none =>
    rw [hf] at h
    injection h with h1 h2
    rw [List.find?_range_eq_none] at hf
    refine .inr ⟨h2.symm, fun k h3 h4 => ?_⟩
    have := hf (k - a) (by omega)
    rw [show a + (k - a) = k by omega] at this
    simpa using this
  | some j =>
    rw [hf] at h
    injection h with h1 h2
    rw [List.find?_range_eq_some] at hf
    obtain ⟨h3, h4, h5⟩ := hf
    have := List.mem_range.1 h4
    refine .inl ⟨h2.symm, a + j, by omega, by omega, h1.symm, h3, fun k h6 h7 => ?_⟩
    have := h5 (k - a) (by omega)
    rw [show a + (k - a) = k by omega] at this
    simpa using this
/-- one of the first q blocks names a home -/
def fnd (T : List (Nat × Nat × Nat)) (i q : Nat) : Bool := (T.take q).any (fun b => b.1 == i)
theorem fnd_zero (T : List (Nat × Nat × Nat)) (i : Nat) : fnd T i 0 = false := rfl
theorem fnd_succ {T : List (Nat × Nat × Nat)} {i q : Nat} (h : q < T.length) : fnd T i (q + 1) = (fnd T i q || (T.getD q (0, 0, 0)).1 == i) := by
  unfold fnd
  rw [List.take_succ_eq_append_getElem h, List.any_append]
  simp [List.getD, h]
theorem fnd_all (T : List (Nat × Nat × Nat)) (i : Nat) : fnd T i T.length = T.any (fun b => b.1 == i) := by
  unfold fnd
  rw [List.take_length]
theorem wpList_load35g {w : World} {ops : Array Oper} {rest : List Oper} {o : Oper} {a : Act} {Q : Exit → Act → World → Prop} (g t : Nat) {REL : Array Value} (hR : IsRel REL) (hw : Region.wanted o (yielded ops a.tmps) = true) (ho : o.op = .load 35 (.tmp t)) (hv : a.eval (.tmp t) = .pointer (some ⟨g, 0, none⟩)) (hB : Blk w g 35 REL)
    (h : wpList Try.prog ops Q rest (a.put o.dst (.agg REL)) w) : wpList Try.prog ops Q (o :: rest) a w := by
  refine wpList_step fun K hK => ?_
  rw [if_pos hw]
  unfold Oper.wp
  rw [load46o w g t hR o a.eval ho hv hB]
  exact hK _ _ h
set_option maxRecDepth 100000 in
set_option maxHeartbeats 8000000 in
theorem Early_walk (REL : Array Value) (i a b n : Nat) (px py hr Z sN : Int) (lt : Nat → Bool) (l : Nat → Nat → Option (Nat × Nat)) (fly : Nat → Bool) (w : World) (hIs : IsRel REL) (hab : a ≤ b) (h40 : b ≤ a + 40) (hb : b ≤ 9999) (hn : n ≤ 1000) (hZ : Z = 0 ∨ Z = 3)
    (hV : ∀ W, G w W → Calls Try.prog 12 #[.agg REL, .int .i64 (i : Nat), .int .i64 (a : Nat)] W (BoolPost W))
    (hF : ∀ W, G w W → Calls Try.prog 20 #[.agg REL, .int .i64 (a : Nat), .int .i64 (b : Nat)] W (FiPost W Z (firstR fly a (b + 1 - a))))
    (hS : ∀ W, G w W → Calls Try.prog 17 #[.agg REL, .int .i64 (i : Nat), .int .i64 (a : Nat)] W (TwoPost W Z (.int .i64 sN) (.int .i64 0)))
    (hB : ∀ m W, m ≤ 9999 → G w W → Calls Try.prog 23 #[.agg REL, .int .i64 (m : Nat)] W (BkPost W Z (bks (l m) n)))
    (hL : ∀ m W, m ≤ 9999 → G w W → Calls Try.prog 25 #[.agg REL, .int .i64 (m : Nat)] W fun e w' => e = .returned (.bool (lt m)) ∧ G W w')
    (hfly : ∀ m, fly m = (lt m && decide ((bks (l m) n).length = 0))) (hfnd : (bks (l a) n).any (fun b => b.1 == i) = !(sN == 1)) :
    Calls Try.prog 9 #[.agg REL, .agg #[.int .i64 (i : Nat), .int .i64 (a : Nat), .int .i64 (b : Nat), .int .i64 px, .int .i64 py, .int .i64 hr]] w fun e w' => e = .returned (.bool true) ∧ G w w' := by
  have HIS := Lib.hid hIs
  have HV := Lib.hid hV
  have HF := Lib.hid hF
  have HSA := Lib.hid hS
  have HBL := Lib.hid hB
  have HLT := Lib.hid hL
  have HFLY := Lib.hid hfly
  have HFND := Lib.hid hfnd
  have HWK := Lib.hid (fun W : World => works_any W)
  clear hIs hV hF hS hB hL hfly hfnd
  have g0 : G w ((w.alloc (.cells REL 35)).alloc (.cells #[.int .i64 (i : Nat), .int .i64 (a : Nat), .int .i64 (b : Nat), .int .i64 px, .int .i64 py, .int .i64 hr] 62)) := ((G.rf _).a _).a _
  have b0 : Blk ((w.alloc (.cells REL 35)).alloc (.cells #[.int .i64 (i : Nat), .int .i64 (a : Nat), .int .i64 (b : Nat), .int .i64 px, .int .i64 py, .int .i64 hr] 62)) w.heap.size 35 REL := (Blk.new w 35 REL).keep ((G.rf _).a _)
  have c0 : Blk ((w.alloc (.cells REL 35)).alloc (.cells #[.int .i64 (i : Nat), .int .i64 (a : Nat), .int .i64 (b : Nat), .int .i64 px, .int .i64 py, .int .i64 hr] 62)) (w.heap.size + 1) 62 #[.int .i64 (i : Nat), .int .i64 (a : Nat), .int .i64 (b : Nat), .int .i64 px, .int .i64 py, .int .i64 hr] := by
    have := Blk.new (w.alloc (.cells REL 35)) 62 #[.int .i64 (i : Nat), .int .i64 (a : Nat), .int .i64 (b : Nat), .int .i64 px, .int .i64 py, .int .i64 hr]
    rwa [show (w.alloc (.cells REL 35)).heap.size = w.heap.size + 1 by simp] at this
  go_enter Try.func9, Try.ntmps9
  go_upto_region 1 with fail
  change Code.wp _ _ _ _ ((w.alloc (.cells REL 35)).alloc (.cells #[.int .i64 (i : Nat), .int .i64 (a : Nat), .int .i64 (b : Nat), .int .i64 px, .int .i64 py, .int .i64 hr] 62))
  generalize (w.alloc (.cells REL 35)).alloc (.cells #[.int .i64 (i : Nat), .int .i64 (a : Nat), .int .i64 (b : Nat), .int .i64 px, .int .i64 py, .int .i64 hr] 62) = w1 at *
  have x0 : w1.cell? ⟨w.heap.size + 1, 0, none⟩ = some (.int .i64 (i : Nat)) := c0.cell 0
  have x1 : w1.cell? ⟨w.heap.size + 1, 1, none⟩ = some (.int .i64 (a : Nat)) := c0.cell 1
  have lx := c0.lt
  refine wp_region_lit ?_
  refine wpList_load35 w.heap.size 2 HIS.out rfl rfl rfl b0 ?_
  try simp only [Act.put, List.getElem_toArray, List.getElem_cons_zero, List.getElem_cons_succ, List.setIfInBounds_toArray, List.set_cons_zero, List.set_cons_succ]
  refine wpList_plain rfl fun K hK => ?_
  go_simp
  refine hK _ _ ?_
  clear hK
  try simp only [Act.put, List.getElem_toArray, List.getElem_cons_zero, List.getElem_cons_succ, List.setIfInBounds_toArray, List.set_cons_zero, List.set_cons_succ]
  refine wpList_plain rfl fun K hK => ?_
  go_simp
  refine hK _ _ ?_
  clear hK
  try simp only [Act.put, List.getElem_toArray, List.getElem_cons_zero, List.getElem_cons_succ, List.setIfInBounds_toArray, List.set_cons_zero, List.set_cons_succ]
  refine wpList_plain rfl fun K hK => ?_
  go_simp
  refine hK _ _ ?_
  clear hK
  try simp only [Act.put, List.getElem_toArray, List.getElem_cons_zero, List.getElem_cons_succ, List.setIfInBounds_toArray, List.set_cons_zero, List.set_cons_succ]
  refine wpList_plain rfl fun K hK => ?_
  go_simp
  refine hK _ _ ?_
  clear hK
  try simp only [Act.put, List.getElem_toArray, List.getElem_cons_zero, List.getElem_cons_succ, List.setIfInBounds_toArray, List.set_cons_zero, List.set_cons_succ]
  refine wpList_plain rfl fun K hK => ?_
  go_simp
  refine (HV.out _ g0).mono ?_
  rintro e w2 ⟨bb, rfl, hG2⟩
  refine hK _ _ ?_
  clear hK K HV x0 x1 lx
  try simp only [Act.put, List.getElem_toArray, List.getElem_cons_zero, List.getElem_cons_succ, List.setIfInBounds_toArray, List.set_cons_zero, List.set_cons_succ]
  replace b0 := b0.keep hG2
  replace c0 := c0.keep hG2
  replace g0 := g0.t hG2
  clear hG2
  have lx := c0.lt
  cases bb
  · go_wp2_with (go_at_call 13; refine (HWK.out _).mono ?_; rintro e w3 ⟨rfl, hG3⟩)
    go_ret
    exact ⟨rfl, g0.t hG3⟩
  have x1 : w2.cell? ⟨w.heap.size + 1, 1, none⟩ = some (.int .i64 (a : Nat)) := c0.cell 1
  have x2 : w2.cell? ⟨w.heap.size + 1, 2, none⟩ = some (.int .i64 (b : Nat)) := c0.cell 2
  obtain ⟨d, hd⟩ : ∃ d : Int, d = (b : Int) - a := ⟨_, rfl⟩
  have xd : IntKind.i64.wrap ((b : Int) - a) = d := by rw [hd]; exact IntWalk.i64_in _ (by omega)
  have t1 : decide ((b : Int) < a) = false := decide_eq_false (by omega)
  have t1' : decide (b < a) = false := decide_eq_false (by omega)
  have t2 : decide (40 < d) = false := decide_eq_false (by omega)
  have t3 : decide (9999 < (b : Int)) = false := decide_eq_false (by omega)
  have t3' : decide (9999 < b) = false := decide_eq_false (by omega)
  have t4 : ¬ b < a := by omega
  have t5 : ¬ 9999 < b := by omega
  have t6 : ¬ 40 < d := by omega
  clear hd
  go_upto_region 3 with fail
  clear t1 t1' t2 t3 t3' t4 t5 t6 xd
  refine wp_region_lit ?_
  refine wpList_load35 w.heap.size 2 HIS.out rfl rfl rfl b0 ?_
  try simp only [Act.put, List.getElem_toArray, List.getElem_cons_zero, List.getElem_cons_succ, List.setIfInBounds_toArray, List.set_cons_zero, List.set_cons_succ]
  obtain ⟨fm, fe, hfr⟩ : ∃ fm fe, firstR fly a (b + 1 - a) = (fm, fe) := ⟨_, _, rfl⟩
  rw [hfr] at HF
  rcases hZ with rfl | rfl
  · have HF0 : Hid (∀ W, G w W → Calls Try.prog 20 #[.agg REL, .int .i64 (a : Nat), .int .i64 (b : Nat)] W fun e w' => e = .returned (.tuple #[.int .i64 fm, .int .i64 fe]) ∧ G W w') := fun W hW => HF.out W hW
    have HS0 : Hid (∀ W, G w W → Calls Try.prog 17 #[.agg REL, .int .i64 (i : Nat), .int .i64 (a : Nat)] W fun e w' => e = .returned (.tuple #[.int .i64 sN, .int .i64 0]) ∧ G W w') := fun W hW => HSA.out W hW
    have HB0 : Hid (∀ m W, m ≤ 9999 → G w W → Calls Try.prog 23 #[.agg REL, .int .i64 (m : Nat)] W fun e w' => ∃ ra rc, e = .returned (.tuple #[.slice ra (bks (l m) n).length rc, .int .i64 0]) ∧ RowAt w' ra (bks (l m) n).length 3 (bkC (bks (l m) n)) ∧ G W w') := fun m W hm hW => (HBL.out m W hm hW).mono fun e w' hh => by
      obtain ⟨hG, ⟨_, v, B, rfl, _, hown⟩ | hh⟩ := hh
      · obtain ⟨ra, rc, rfl, hrow⟩ := bks_row hown
        exact ⟨ra, rc, rfl, hrow, hG⟩
      · exact absurd rfl hh.1
    clear HF HSA HBL
    go_upto_region 4 with (go_at_call 20; refine (HF0.out _ g0).mono ?_; rintro e w3 ⟨rfl, hG3⟩)
    clear x1 x2 lx
    replace b0 := b0.keep hG3
    replace c0 := c0.keep hG3
    replace g0 := g0.t hG3
    clear hG3 HF0
    have lx := c0.lt
    have x0 : w3.cell? ⟨w.heap.size + 1, 0, none⟩ = some (.int .i64 (i : Nat)) := c0.cell 0
    have x1 : w3.cell? ⟨w.heap.size + 1, 1, none⟩ = some (.int .i64 (a : Nat)) := c0.cell 1
    refine wp_region_lit ?_
    refine wpList_load35 w.heap.size 2 HIS.out rfl rfl rfl b0 ?_
    try simp only [Act.put, List.getElem_toArray, List.getElem_cons_zero, List.getElem_cons_succ, List.setIfInBounds_toArray, List.set_cons_zero, List.set_cons_succ]
    go_upto_region 5 with (go_at_call 17; refine (HS0.out _ g0).mono ?_; rintro e w4 ⟨rfl, hG4⟩)
    clear x0 x1 lx
    replace b0 := b0.keep hG4
    replace c0 := c0.keep hG4
    replace g0 := g0.t hG4
    clear hG4 HS0
    have lx := c0.lt
    have x1 : w4.cell? ⟨w.heap.size + 1, 1, none⟩ = some (.int .i64 (a : Nat)) := c0.cell 1
    refine wp_region_lit ?_
    refine wpList_load35 w.heap.size 2 HIS.out rfl rfl rfl b0 ?_
    try simp only [Act.put, List.getElem_toArray, List.getElem_cons_zero, List.getElem_cons_succ, List.setIfInBounds_toArray, List.set_cons_zero, List.set_cons_succ]
    have HBA := Lib.hid (fun W (hW : G w W) => HB0.out a W (by omega) hW)
    obtain ⟨T, hT⟩ : ∃ T, T = bks (l a) n := ⟨_, rfl⟩
    have hfnd := HFND.out
    rw [← hT] at HBA hfnd
    rw [← fnd_all] at hfnd
    obtain ⟨N, hN⟩ : ∃ N, N = T.length := ⟨_, rfl⟩
    rw [← hN] at HBA hfnd
    have HFN := Lib.hid hfnd
    have HNT := Lib.hid hN
    have hNn : N ≤ n := by rw [hN, hT]; exact bks_len _ _
    clear hT hfnd HFND hN
    go_upto_region 10 with (go_at_call 23; refine (HBA.out _ g0).mono ?_; rintro e w5 ⟨ra, rc, rfl, hrow, hG5⟩; have HROW := Lib.hid hrow; clear hrow)
    clear x1 lx HBA
    replace b0 := b0.keep hG5
    replace c0 := c0.keep hG5
    replace g0 := g0.t hG5
    clear hG5
    go_wp2_with fail
    go_loopw [11, 12] (fun v11 v12 wr => ∃ q : Nat, q ≤ N ∧ v12 = .int .i64 (q : Nat) ∧ v11 = .bool (fnd T i q) ∧ G w5 wr) (fun _ v12 _ => N - (intOf v12).toNat)
    case atStart => exact ⟨0, Nat.zero_le _, rfl, rfl, G.rf _⟩
    case round =>
      obtain ⟨q, hq, rfl, rfl, hG⟩ := hrel
      obtain ⟨wo, rfl⟩ : ∃ wo, wo = wr := ⟨_, rfl⟩
      have b0q := b0.keep hG
      have c0q := c0.keep hG
      have gq := g0.t hG
      by_cases hlt : q < N
      · have hki : (q : Int) < N := by omega
        rcases HROW.out with h | ⟨g, off, rfl, hg, hcell⟩
        · omega
        have q0 : wo.cell? ⟨g, off + q * 3, none⟩ = some (.int .i64 ((T.getD q (0, 0, 0)).1 : Nat)) := by
          have := ((bcellB hG).1 g _ hg).trans (hcell q hlt 0 (by omega))
          rwa [Nat.add_zero] at this
        have lg := Nat.lt_of_lt_of_le hg hG.size
        have hs := fnd_succ (T := T) (i := i) (q := q) (by rw [← HNT.out]; exact hlt)
        obtain ⟨hq1, hhq1⟩ : ∃ h, h = (T.getD q (0, 0, 0)).1 := ⟨_, rfl⟩
        rw [← hhq1] at q0 hs
        have hSk : ∀ W', G wo W' → (W'.cell? ⟨g, off + q * 3, none⟩ = some (.int .i64 (hq1 : Nat)) ∧ Blk W' (w.heap.size + 1) 62 #[.int .i64 (i : Nat), .int .i64 (a : Nat), .int .i64 (b : Nat), .int .i64 px, .int .i64 py, .int .i64 hr]) := fun W' h => ⟨((bcellB h).1 g _ lg).trans q0, c0q.keep h⟩
        have HS := Lib.hid hs
        clear q0 hs hhq1 hcell HROW
        have xq : IntKind.i64.wrap ((q : Int) + 1) = ((q + 1 : Nat) : Int) := by rw [IntWalk.i64_in _ (by omega)]; rfl
        obtain ⟨fb, hfb⟩ : ∃ fb, fb = fnd T i q := ⟨_, rfl⟩
        rw [← hfb] at HS ⊢
        clear hfb
        go_upto_region 14 with fail
        cases fb
        · by_cases hh : hq1 = i
          · have e1 : ((hq1 : Int) == (i : Int)) = true := by simp [hh]
            have e2 : (hq1 == i) = true := by simp [hh]
            refine wp_region_Y (S := fun W' => W'.cell? ⟨g, off + q * 3, none⟩ = some (.int .i64 (hq1 : Nat)) ∧ Blk W' (w.heap.size + 1) 62 #[.int .i64 (i : Nat), .int .i64 (a : Nat), .int .i64 (b : Nat), .int .i64 px, .int .i64 py, .int .i64 hr]) 11 12 rfl (by kernel_rfl) (hSk _ (G.rf _).d) (fun hS => ?_)
            have ga := (G.rf wo).d
            refine wpAnyY_take (i := 0) (v := ?_) rfl (by kernel_rfl) (by kernel_rfl) (by kernel_rfl) (by kernel_rfl) (fun _ _ _ h => h) (Or.inl ⟨by kernel_rfl, ?_⟩) hS ?_
            rotate_left
            · intro w' hSw; go_simp; with_reducible rfl
            try simp only [Act.put, List.getElem_toArray, List.getElem_cons_zero, List.getElem_cons_succ, List.setIfInBounds_toArray, List.set_cons_zero, List.set_cons_succ]
            refine wpAnyY_take (i := 1) (v := ?_) rfl (by kernel_rfl) (by kernel_rfl) (by kernel_rfl) (by kernel_rfl) (fun _ _ _ h => h) (Or.inl ⟨by kernel_rfl, ?_⟩) hS ?_
            rotate_left
            · intro w' hSw; go_simp; with_reducible rfl
            try simp only [Act.put, List.getElem_toArray, List.getElem_cons_zero, List.getElem_cons_succ, List.setIfInBounds_toArray, List.set_cons_zero, List.set_cons_succ]
            refine wpAnyY_take (i := 2) (v := ?_) rfl (by kernel_rfl) (by kernel_rfl) (by kernel_rfl) (by kernel_rfl) (fun _ _ _ h => h) (Or.inl ⟨by kernel_rfl, ?_⟩) hS ?_
            rotate_left
            · intro w' hSw; go_simp; with_reducible rfl
            try simp only [Act.put, List.getElem_toArray, List.getElem_cons_zero, List.getElem_cons_succ, List.setIfInBounds_toArray, List.set_cons_zero, List.set_cons_succ]
            refine wpAnyY_take (i := 3) (v := ?_) rfl (by kernel_rfl) (by kernel_rfl) (by kernel_rfl) (by kernel_rfl) (fun _ _ _ h => h) (Or.inl ⟨by kernel_rfl, ?_⟩) hS ?_
            rotate_left
            · intro w' hSw; go_simp; with_reducible rfl
            try simp only [Act.put, List.getElem_toArray, List.getElem_cons_zero, List.getElem_cons_succ, List.setIfInBounds_toArray, List.set_cons_zero, List.set_cons_succ]
            refine wpAnyY_take (i := 4) (v := ?_) rfl (by kernel_rfl) (by kernel_rfl) (by kernel_rfl) (by kernel_rfl) (fun _ _ _ h => h) (Or.inl ⟨by kernel_rfl, ?_⟩) hS ?_
            rotate_left
            · intro w' hSw; go_simp; with_reducible rfl
            try simp only [Act.put, List.getElem_toArray, List.getElem_cons_zero, List.getElem_cons_succ, List.setIfInBounds_toArray, List.set_cons_zero, List.set_cons_succ]
            refine wpAnyY_take (i := 5) (v := ?_) rfl (by kernel_rfl) (by kernel_rfl) (by kernel_rfl) (by kernel_rfl) (fun _ _ _ h => h) (Or.inl ⟨by kernel_rfl, ?_⟩) hS ?_
            rotate_left
            · intro w' hSw; go_simp; with_reducible rfl
            try simp only [Act.put, List.getElem_toArray, List.getElem_cons_zero, List.getElem_cons_succ, List.setIfInBounds_toArray, List.set_cons_zero, List.set_cons_succ]
            refine wpAnyY_take (i := 6) (v := ?_) rfl (by kernel_rfl) (by kernel_rfl) (by kernel_rfl) (by kernel_rfl) (fun _ _ _ h => h) (Or.inl ⟨by kernel_rfl, ?_⟩) hS ?_
            rotate_left
            · intro w' hSw; have y0 := hSw.1; go_simp; with_reducible rfl
            try simp only [Act.put, List.getElem_toArray, List.getElem_cons_zero, List.getElem_cons_succ, List.setIfInBounds_toArray, List.set_cons_zero, List.set_cons_succ]
            refine wpAnyY_take (i := 7) (v := ?_) rfl (by kernel_rfl) (by kernel_rfl) (by kernel_rfl) (by kernel_rfl) (fun _ _ _ h => h) (Or.inl ⟨by kernel_rfl, ?_⟩) hS ?_
            rotate_left
            · intro w' hSw; go_simp; with_reducible rfl
            try simp only [Act.put, List.getElem_toArray, List.getElem_cons_zero, List.getElem_cons_succ, List.setIfInBounds_toArray, List.set_cons_zero, List.set_cons_succ]
            refine wpAnyY_take (i := 8) (v := ?_) rfl (by kernel_rfl) (by kernel_rfl) (by kernel_rfl) (by kernel_rfl) (fun _ _ _ h => h) (Or.inl ⟨by kernel_rfl, ?_⟩) hS ?_
            rotate_left
            · intro w' hSw; have y0 := hSw.2.cell 0; have ly := hSw.2.lt; go_simp; with_reducible rfl
            try simp only [Act.put, List.getElem_toArray, List.getElem_cons_zero, List.getElem_cons_succ, List.setIfInBounds_toArray, List.set_cons_zero, List.set_cons_succ]
            refine wpAnyY_take (i := 9) (v := ?_) rfl (by kernel_rfl) (by kernel_rfl) (by kernel_rfl) (by kernel_rfl) (fun _ _ _ h => h) (Or.inl ⟨by kernel_rfl, ?_⟩) hS ?_
            rotate_left
            · intro w' hSw; go_simp; with_reducible rfl
            try simp only [Act.put, List.getElem_toArray, List.getElem_cons_zero, List.getElem_cons_succ, List.setIfInBounds_toArray, List.set_cons_zero, List.set_cons_succ]
            refine wpAnyY_take (i := 10) (v := ?_) rfl (by kernel_rfl) (by kernel_rfl) (by kernel_rfl) (by kernel_rfl) (fun _ _ _ h => h) (Or.inl ⟨by kernel_rfl, ?_⟩) hS ?_
            rotate_left
            · intro w' hSw; go_simp; with_reducible rfl
            try simp only [Act.put, List.getElem_toArray, List.getElem_cons_zero, List.getElem_cons_succ, List.setIfInBounds_toArray, List.set_cons_zero, List.set_cons_succ]
            refine wpAnyY_oneW (i := 11) (by kernel_rfl) rfl (by kernel_rfl) (by kernel_rfl) (fun K11 hK11 => ?_)
            go_simp
            refine hK11.out _ _ ?_
            try simp only [Act.put, List.getElem_toArray, List.getElem_cons_zero, List.getElem_cons_succ, List.setIfInBounds_toArray, List.set_cons_zero, List.set_cons_succ]
            refine wpAnyY_done (by kernel_rfl) ?_ _
            clear hS hSk
            go_wp2_with fail
            go_roundw
            case rel => exact ⟨q + 1, by omega, by go_num, by rw [HS.out, e2]; simp, hG.t ga⟩
            case measure => simp [intOf] <;> omega
          · have e1 : ((hq1 : Int) == (i : Int)) = false := by simp; omega
            have e2 : (hq1 == i) = false := by simp [hh]
            refine wp_region_Y (S := fun W' => W'.cell? ⟨g, off + q * 3, none⟩ = some (.int .i64 (hq1 : Nat)) ∧ Blk W' (w.heap.size + 1) 62 #[.int .i64 (i : Nat), .int .i64 (a : Nat), .int .i64 (b : Nat), .int .i64 px, .int .i64 py, .int .i64 hr]) 11 12 rfl (by kernel_rfl) (hSk _ (G.rf _).d) (fun hS => ?_)
            have ga := (G.rf wo).d
            refine wpAnyY_take (i := 0) (v := ?_) rfl (by kernel_rfl) (by kernel_rfl) (by kernel_rfl) (by kernel_rfl) (fun _ _ _ h => h) (Or.inl ⟨by kernel_rfl, ?_⟩) hS ?_
            rotate_left
            · intro w' hSw; go_simp; with_reducible rfl
            try simp only [Act.put, List.getElem_toArray, List.getElem_cons_zero, List.getElem_cons_succ, List.setIfInBounds_toArray, List.set_cons_zero, List.set_cons_succ]
            refine wpAnyY_take (i := 1) (v := ?_) rfl (by kernel_rfl) (by kernel_rfl) (by kernel_rfl) (by kernel_rfl) (fun _ _ _ h => h) (Or.inl ⟨by kernel_rfl, ?_⟩) hS ?_
            rotate_left
            · intro w' hSw; go_simp; with_reducible rfl
            try simp only [Act.put, List.getElem_toArray, List.getElem_cons_zero, List.getElem_cons_succ, List.setIfInBounds_toArray, List.set_cons_zero, List.set_cons_succ]
            refine wpAnyY_take (i := 2) (v := ?_) rfl (by kernel_rfl) (by kernel_rfl) (by kernel_rfl) (by kernel_rfl) (fun _ _ _ h => h) (Or.inl ⟨by kernel_rfl, ?_⟩) hS ?_
            rotate_left
            · intro w' hSw; go_simp; with_reducible rfl
            try simp only [Act.put, List.getElem_toArray, List.getElem_cons_zero, List.getElem_cons_succ, List.setIfInBounds_toArray, List.set_cons_zero, List.set_cons_succ]
            refine wpAnyY_take (i := 3) (v := ?_) rfl (by kernel_rfl) (by kernel_rfl) (by kernel_rfl) (by kernel_rfl) (fun _ _ _ h => h) (Or.inl ⟨by kernel_rfl, ?_⟩) hS ?_
            rotate_left
            · intro w' hSw; go_simp; with_reducible rfl
            try simp only [Act.put, List.getElem_toArray, List.getElem_cons_zero, List.getElem_cons_succ, List.setIfInBounds_toArray, List.set_cons_zero, List.set_cons_succ]
            refine wpAnyY_take (i := 4) (v := ?_) rfl (by kernel_rfl) (by kernel_rfl) (by kernel_rfl) (by kernel_rfl) (fun _ _ _ h => h) (Or.inl ⟨by kernel_rfl, ?_⟩) hS ?_
            rotate_left
            · intro w' hSw; go_simp; with_reducible rfl
            try simp only [Act.put, List.getElem_toArray, List.getElem_cons_zero, List.getElem_cons_succ, List.setIfInBounds_toArray, List.set_cons_zero, List.set_cons_succ]
            refine wpAnyY_take (i := 5) (v := ?_) rfl (by kernel_rfl) (by kernel_rfl) (by kernel_rfl) (by kernel_rfl) (fun _ _ _ h => h) (Or.inl ⟨by kernel_rfl, ?_⟩) hS ?_
            rotate_left
            · intro w' hSw; go_simp; with_reducible rfl
            try simp only [Act.put, List.getElem_toArray, List.getElem_cons_zero, List.getElem_cons_succ, List.setIfInBounds_toArray, List.set_cons_zero, List.set_cons_succ]
            refine wpAnyY_take (i := 6) (v := ?_) rfl (by kernel_rfl) (by kernel_rfl) (by kernel_rfl) (by kernel_rfl) (fun _ _ _ h => h) (Or.inl ⟨by kernel_rfl, ?_⟩) hS ?_
            rotate_left
            · intro w' hSw; have y0 := hSw.1; go_simp; with_reducible rfl
            try simp only [Act.put, List.getElem_toArray, List.getElem_cons_zero, List.getElem_cons_succ, List.setIfInBounds_toArray, List.set_cons_zero, List.set_cons_succ]
            refine wpAnyY_take (i := 7) (v := ?_) rfl (by kernel_rfl) (by kernel_rfl) (by kernel_rfl) (by kernel_rfl) (fun _ _ _ h => h) (Or.inl ⟨by kernel_rfl, ?_⟩) hS ?_
            rotate_left
            · intro w' hSw; go_simp; with_reducible rfl
            try simp only [Act.put, List.getElem_toArray, List.getElem_cons_zero, List.getElem_cons_succ, List.setIfInBounds_toArray, List.set_cons_zero, List.set_cons_succ]
            refine wpAnyY_take (i := 8) (v := ?_) rfl (by kernel_rfl) (by kernel_rfl) (by kernel_rfl) (by kernel_rfl) (fun _ _ _ h => h) (Or.inl ⟨by kernel_rfl, ?_⟩) hS ?_
            rotate_left
            · intro w' hSw; have y0 := hSw.2.cell 0; have ly := hSw.2.lt; go_simp; with_reducible rfl
            try simp only [Act.put, List.getElem_toArray, List.getElem_cons_zero, List.getElem_cons_succ, List.setIfInBounds_toArray, List.set_cons_zero, List.set_cons_succ]
            refine wpAnyY_take (i := 9) (v := ?_) rfl (by kernel_rfl) (by kernel_rfl) (by kernel_rfl) (by kernel_rfl) (fun _ _ _ h => h) (Or.inl ⟨by kernel_rfl, ?_⟩) hS ?_
            rotate_left
            · intro w' hSw; go_simp; with_reducible rfl
            try simp only [Act.put, List.getElem_toArray, List.getElem_cons_zero, List.getElem_cons_succ, List.setIfInBounds_toArray, List.set_cons_zero, List.set_cons_succ]
            refine wpAnyY_take (i := 10) (v := ?_) rfl (by kernel_rfl) (by kernel_rfl) (by kernel_rfl) (by kernel_rfl) (fun _ _ _ h => h) (Or.inl ⟨by kernel_rfl, ?_⟩) hS ?_
            rotate_left
            · intro w' hSw; go_simp; with_reducible rfl
            try simp only [Act.put, List.getElem_toArray, List.getElem_cons_zero, List.getElem_cons_succ, List.setIfInBounds_toArray, List.set_cons_zero, List.set_cons_succ]
            refine wpAnyY_oneW (i := 11) (by kernel_rfl) rfl (by kernel_rfl) (by kernel_rfl) (fun K11 hK11 => ?_)
            go_simp
            refine hK11.out _ _ ?_
            try simp only [Act.put, List.getElem_toArray, List.getElem_cons_zero, List.getElem_cons_succ, List.setIfInBounds_toArray, List.set_cons_zero, List.set_cons_succ]
            refine wpAnyY_done (by kernel_rfl) ?_ _
            clear hS hSk
            go_wp2_with fail
            go_roundw
            case rel => exact ⟨q + 1, by omega, by go_num, by rw [HS.out, e2]; simp, hG.t ga⟩
            case measure => simp [intOf] <;> omega
        · refine wp_region_Y (S := fun W' => W'.cell? ⟨g, off + q * 3, none⟩ = some (.int .i64 (hq1 : Nat)) ∧ Blk W' (w.heap.size + 1) 62 #[.int .i64 (i : Nat), .int .i64 (a : Nat), .int .i64 (b : Nat), .int .i64 px, .int .i64 py, .int .i64 hr]) 11 12 rfl (by kernel_rfl) (hSk _ (G.rf _).d) (fun hS => ?_)
          have ga := (G.rf wo).d
          refine wpAnyY_take (i := 0) (v := ?_) rfl (by kernel_rfl) (by kernel_rfl) (by kernel_rfl) (by kernel_rfl) (fun _ _ _ h => h) (Or.inl ⟨by kernel_rfl, ?_⟩) hS ?_
          rotate_left
          · intro w' hSw; go_simp; with_reducible rfl
          try simp only [Act.put, List.getElem_toArray, List.getElem_cons_zero, List.getElem_cons_succ, List.setIfInBounds_toArray, List.set_cons_zero, List.set_cons_succ]
          refine wpAnyY_take (i := 1) (v := ?_) rfl (by kernel_rfl) (by kernel_rfl) (by kernel_rfl) (by kernel_rfl) (fun _ _ _ h => h) (Or.inl ⟨by kernel_rfl, ?_⟩) hS ?_
          rotate_left
          · intro w' hSw; go_simp; with_reducible rfl
          try simp only [Act.put, List.getElem_toArray, List.getElem_cons_zero, List.getElem_cons_succ, List.setIfInBounds_toArray, List.set_cons_zero, List.set_cons_succ]
          refine wpAnyY_take (i := 2) (v := undef) rfl (by kernel_rfl) (by kernel_rfl) (by kernel_rfl) (by kernel_rfl) (fun _ _ _ h => h) (Or.inr ⟨by kernel_rfl, rfl⟩) hS ?_
          try simp only [Act.put, List.getElem_toArray, List.getElem_cons_zero, List.getElem_cons_succ, List.setIfInBounds_toArray, List.set_cons_zero, List.set_cons_succ]
          refine wpAnyY_take (i := 3) (v := undef) rfl (by kernel_rfl) (by kernel_rfl) (by kernel_rfl) (by kernel_rfl) (fun _ _ _ h => h) (Or.inr ⟨by kernel_rfl, rfl⟩) hS ?_
          try simp only [Act.put, List.getElem_toArray, List.getElem_cons_zero, List.getElem_cons_succ, List.setIfInBounds_toArray, List.set_cons_zero, List.set_cons_succ]
          refine wpAnyY_take (i := 4) (v := undef) rfl (by kernel_rfl) (by kernel_rfl) (by kernel_rfl) (by kernel_rfl) (fun _ _ _ h => h) (Or.inr ⟨by kernel_rfl, rfl⟩) hS ?_
          try simp only [Act.put, List.getElem_toArray, List.getElem_cons_zero, List.getElem_cons_succ, List.setIfInBounds_toArray, List.set_cons_zero, List.set_cons_succ]
          refine wpAnyY_take (i := 5) (v := undef) rfl (by kernel_rfl) (by kernel_rfl) (by kernel_rfl) (by kernel_rfl) (fun _ _ _ h => h) (Or.inr ⟨by kernel_rfl, rfl⟩) hS ?_
          try simp only [Act.put, List.getElem_toArray, List.getElem_cons_zero, List.getElem_cons_succ, List.setIfInBounds_toArray, List.set_cons_zero, List.set_cons_succ]
          refine wpAnyY_take (i := 6) (v := undef) rfl (by kernel_rfl) (by kernel_rfl) (by kernel_rfl) (by kernel_rfl) (fun _ _ _ h => h) (Or.inr ⟨by kernel_rfl, rfl⟩) hS ?_
          try simp only [Act.put, List.getElem_toArray, List.getElem_cons_zero, List.getElem_cons_succ, List.setIfInBounds_toArray, List.set_cons_zero, List.set_cons_succ]
          refine wpAnyY_take (i := 7) (v := undef) rfl (by kernel_rfl) (by kernel_rfl) (by kernel_rfl) (by kernel_rfl) (fun _ _ _ h => h) (Or.inr ⟨by kernel_rfl, rfl⟩) hS ?_
          try simp only [Act.put, List.getElem_toArray, List.getElem_cons_zero, List.getElem_cons_succ, List.setIfInBounds_toArray, List.set_cons_zero, List.set_cons_succ]
          refine wpAnyY_take (i := 8) (v := undef) rfl (by kernel_rfl) (by kernel_rfl) (by kernel_rfl) (by kernel_rfl) (fun _ _ _ h => h) (Or.inr ⟨by kernel_rfl, rfl⟩) hS ?_
          try simp only [Act.put, List.getElem_toArray, List.getElem_cons_zero, List.getElem_cons_succ, List.setIfInBounds_toArray, List.set_cons_zero, List.set_cons_succ]
          refine wpAnyY_take (i := 9) (v := undef) rfl (by kernel_rfl) (by kernel_rfl) (by kernel_rfl) (by kernel_rfl) (fun _ _ _ h => h) (Or.inr ⟨by kernel_rfl, rfl⟩) hS ?_
          try simp only [Act.put, List.getElem_toArray, List.getElem_cons_zero, List.getElem_cons_succ, List.setIfInBounds_toArray, List.set_cons_zero, List.set_cons_succ]
          refine wpAnyY_take (i := 10) (v := ?_) rfl (by kernel_rfl) (by kernel_rfl) (by kernel_rfl) (by kernel_rfl) (fun _ _ _ h => h) (Or.inl ⟨by kernel_rfl, ?_⟩) hS ?_
          rotate_left
          · intro w' hSw; go_simp; with_reducible rfl
          try simp only [Act.put, List.getElem_toArray, List.getElem_cons_zero, List.getElem_cons_succ, List.setIfInBounds_toArray, List.set_cons_zero, List.set_cons_succ]
          refine wpAnyY_oneW (i := 11) (by kernel_rfl) rfl (by kernel_rfl) (by kernel_rfl) (fun K11 hK11 => ?_)
          go_simp
          refine hK11.out _ _ ?_
          try simp only [Act.put, List.getElem_toArray, List.getElem_cons_zero, List.getElem_cons_succ, List.setIfInBounds_toArray, List.set_cons_zero, List.set_cons_succ]
          refine wpAnyY_done (by kernel_rfl) ?_ _
          clear hS hSk
          go_wp2_with fail
          go_roundw
          case rel => exact ⟨q + 1, by omega, by go_num, by rw [HS.out]; simp, hG.t ga⟩
          case measure => simp [intOf] <;> omega
      · obtain rfl : N = q := by omega
        have hki : ¬ (N : Int) < N := by omega
        have hfn := HFN.out
        obtain ⟨fb, hfb⟩ : ∃ fb, fb = fnd T i N := ⟨_, rfl⟩
        rw [← hfb] at hfn ⊢
        clear hfb HFN HROW HNT hlt hq hG
        have lx := c0q.lt
        have x1 : wo.cell? ⟨w.heap.size + 1, 1, none⟩ = some (.int .i64 (a : Nat)) := c0q.cell 1
        have x2 : wo.cell? ⟨w.heap.size + 1, 2, none⟩ = some (.int .i64 (b : Nat)) := c0q.cell 2
        have hcase : (fe = 0 ∧ ∃ j : Nat, a ≤ j ∧ j ≤ b ∧ fm = (j : Nat) ∧ fly j = true ∧ ∀ k, a ≤ k → k < j → fly k = false) ∨ (fe = 3 ∧ ∀ k, a ≤ k → k ≤ b → fly k = false) := firstR_cases hfr
        clear hfr
        rcases hcase with ⟨rfl, j, hj1, hj2, rfl, hfj, hno⟩ | ⟨rfl, hno⟩
        · have t1 : decide ((j : Int) < (a : Int)) = false := decide_eq_false (by omega)
          have t2 : decide (j < a) = false := decide_eq_false (by omega)
          have t3 : ¬ j < a := by omega
          have t4 : decide ((b : Int) < (j : Int)) = false := decide_eq_false (by omega)
          have t5 : decide (b < j) = false := decide_eq_false (by omega)
          have t6 : ¬ b < j := by omega
          cases hs : (sN == 1)
          · rw [hs] at hfn
            obtain rfl : fb = true := hfn
            go_upto_region 20 with fail
            clear t1 t2 t3 t4 t5 t6 hs x2
            go_wp2_with fail
            go_loopw [14, 15, 16, 17] (fun v14 u15 u16 u17 wr => ∃ k : Nat, a ≤ k ∧ k ≤ j + 1 ∧ v14 = .int .i64 (k : Nat) ∧ G wo wr) (fun v14 _ _ _ _ => j + 1 - (intOf v14).toNat)
            case atStart => exact ⟨a, Nat.le_refl _, by omega, rfl, G.rf _⟩
            case round =>
              obtain ⟨k, hk1, hk2, rfl, hG2⟩ := hrel
              obtain ⟨wp, rfl⟩ : ∃ wp, wp = wr := ⟨_, rfl⟩
              have b0k := b0q.keep hG2
              have gk := gq.t hG2
              clear x1 lx
              by_cases hkl : k ≤ j
              · have hki : (k : Int) ≤ (j : Int) := by omega
                have xk : IntKind.i64.wrap ((k : Int) + 1) = ((k + 1 : Nat) : Int) := by rw [IntWalk.i64_in _ (by omega)]; rfl
                have hf2 := HFLY.out k
                have HBk := Lib.hid (fun W (hW : G w W) => HB0.out k W (by omega) hW)
                have HLk := Lib.hid (fun W (hW : G w W) => HLT.out k W (by omega) hW)
                obtain ⟨T2, hT2⟩ : ∃ T2, T2 = bks (l k) n := ⟨_, rfl⟩
                rw [← hT2] at HBk hf2
                obtain ⟨M, hM⟩ : ∃ M, M = T2.length := ⟨_, rfl⟩
                rw [← hM] at HBk hf2
                obtain ⟨lk, hlk⟩ : ∃ x, x = lt k := ⟨_, rfl⟩
                rw [← hlk] at HLk hf2
                clear hT2 hM hlk HB0 HLT HFLY
                by_cases hkj : k = j
                · subst hkj
                  have hfk := hfj
                  clear hno hfj
                  by_cases hM0 : M = 0
                  · subst hM0
                    obtain rfl : lk = true := by rw [hfk] at hf2; simpa using hf2.symm
                    clear hf2 hfk
                    go_upto_region 23 with fail
                    refine wp_region_lit ?_
                    refine wpList_load35 w.heap.size 2 HIS.out rfl rfl rfl b0k ?_
                    try simp only [Act.put, List.getElem_toArray, List.getElem_cons_zero, List.getElem_cons_succ, List.setIfInBounds_toArray, List.set_cons_zero, List.set_cons_succ]
                    go_upto_region 24 with (go_at_call 23; refine (HBk.out _ gk).mono ?_; rintro e w7 ⟨ra2, rc2, rfl, hrow2, hG7⟩; clear hrow2)
                    have b0z := b0k.keep hG7
                    have gz := gk.t hG7
                    refine wp_region_lit ?_
                    refine wpList_plain rfl fun K hK => ?_
                    go_simp
                    refine hK _ _ ?_
                    clear hK
                    try simp only [Act.put, List.getElem_toArray, List.getElem_cons_zero, List.getElem_cons_succ, List.setIfInBounds_toArray, List.set_cons_zero, List.set_cons_succ]
                    refine wpList_plain rfl fun K hK => ?_
                    go_simp
                    refine hK _ _ ?_
                    clear hK
                    try simp only [Act.put, List.getElem_toArray, List.getElem_cons_zero, List.getElem_cons_succ, List.setIfInBounds_toArray, List.set_cons_zero, List.set_cons_succ]
                    refine wpList_plain rfl fun K hK => ?_
                    go_simp
                    refine hK _ _ ?_
                    clear hK
                    try simp only [Act.put, List.getElem_toArray, List.getElem_cons_zero, List.getElem_cons_succ, List.setIfInBounds_toArray, List.set_cons_zero, List.set_cons_succ]
                    refine wpList_plain rfl fun K hK => ?_
                    go_simp
                    refine hK _ _ ?_
                    clear hK
                    try simp only [Act.put, List.getElem_toArray, List.getElem_cons_zero, List.getElem_cons_succ, List.setIfInBounds_toArray, List.set_cons_zero, List.set_cons_succ]
                    refine wpList_load35g w.heap.size 2 HIS.out rfl rfl rfl b0z ?_
                    try simp only [Act.put, List.getElem_toArray, List.getElem_cons_zero, List.getElem_cons_succ, List.setIfInBounds_toArray, List.set_cons_zero, List.set_cons_succ]
                    go_wp2_with (go_at_call 25; refine (HLk.out _ gz).mono ?_; rintro e w8 ⟨rfl, hG8⟩)
                    go_roundw
                    case rel => exact ⟨k + 1, by omega, by omega, by go_num, (hG2.t hG7).t hG8⟩
                    case measure => simp [intOf] <;> omega
                  · exfalso
                    rw [hfk] at hf2
                    simp [hM0] at hf2
                · have hfk := hno k hk1 (by omega)
                  have e1 : ((k : Int) == (j : Int)) = false := by simp; omega
                  have e2 : (k == j) = false := by simp [hkj]
                  clear hno hfj
                  by_cases hM0 : M = 0
                  · subst hM0
                    obtain rfl : lk = false := by rw [hfk] at hf2; simpa using hf2.symm
                    clear hf2 hfk
                    go_upto_region 23 with fail
                    refine wp_region_lit ?_
                    refine wpList_load35 w.heap.size 2 HIS.out rfl rfl rfl b0k ?_
                    try simp only [Act.put, List.getElem_toArray, List.getElem_cons_zero, List.getElem_cons_succ, List.setIfInBounds_toArray, List.set_cons_zero, List.set_cons_succ]
                    go_upto_region 24 with (go_at_call 23; refine (HBk.out _ gk).mono ?_; rintro e w7 ⟨ra2, rc2, rfl, hrow2, hG7⟩; clear hrow2)
                    have b0z := b0k.keep hG7
                    have gz := gk.t hG7
                    refine wp_region_lit ?_
                    refine wpList_plain rfl fun K hK => ?_
                    go_simp
                    refine hK _ _ ?_
                    clear hK
                    try simp only [Act.put, List.getElem_toArray, List.getElem_cons_zero, List.getElem_cons_succ, List.setIfInBounds_toArray, List.set_cons_zero, List.set_cons_succ]
                    refine wpList_plain rfl fun K hK => ?_
                    go_simp
                    refine hK _ _ ?_
                    clear hK
                    try simp only [Act.put, List.getElem_toArray, List.getElem_cons_zero, List.getElem_cons_succ, List.setIfInBounds_toArray, List.set_cons_zero, List.set_cons_succ]
                    refine wpList_plain rfl fun K hK => ?_
                    go_simp
                    refine hK _ _ ?_
                    clear hK
                    try simp only [Act.put, List.getElem_toArray, List.getElem_cons_zero, List.getElem_cons_succ, List.setIfInBounds_toArray, List.set_cons_zero, List.set_cons_succ]
                    refine wpList_plain rfl fun K hK => ?_
                    go_simp
                    refine hK _ _ ?_
                    clear hK
                    try simp only [Act.put, List.getElem_toArray, List.getElem_cons_zero, List.getElem_cons_succ, List.setIfInBounds_toArray, List.set_cons_zero, List.set_cons_succ]
                    refine wpList_load35g w.heap.size 2 HIS.out rfl rfl rfl b0z ?_
                    try simp only [Act.put, List.getElem_toArray, List.getElem_cons_zero, List.getElem_cons_succ, List.setIfInBounds_toArray, List.set_cons_zero, List.set_cons_succ]
                    go_wp2_with (go_at_call 25; refine (HLk.out _ gz).mono ?_; rintro e w8 ⟨rfl, hG8⟩)
                    go_roundw
                    case rel => exact ⟨k + 1, by omega, by omega, by go_num, (hG2.t hG7).t hG8⟩
                    case measure => simp [intOf] <;> omega
                  · have hm1 : ((M : Int) == 0) = false := by simp; omega
                    have hm2 : ¬ M = 0 := hM0
                    clear hf2 hfk HLk
                    go_upto_region 23 with fail
                    refine wp_region_lit ?_
                    refine wpList_load35 w.heap.size 2 HIS.out rfl rfl rfl b0k ?_
                    try simp only [Act.put, List.getElem_toArray, List.getElem_cons_zero, List.getElem_cons_succ, List.setIfInBounds_toArray, List.set_cons_zero, List.set_cons_succ]
                    go_upto_region 24 with (go_at_call 23; refine (HBk.out _ gk).mono ?_; rintro e w7 ⟨ra2, rc2, rfl, hrow2, hG7⟩; clear hrow2)
                    have b0z := b0k.keep hG7
                    have gz := gk.t hG7
                    go_wp2_with fail
                    go_roundw
                    case rel => exact ⟨k + 1, by omega, by omega, by go_num, hG2.t hG7⟩
                    case measure => simp [intOf] <;> omega
              · have hki : ¬ (k : Int) ≤ (j : Int) := by omega
                go_wp2_with (go_at_call 13; refine (HWK.out _).mono ?_; rintro e w8 ⟨rfl, hG8⟩)
                go_ret
                exact ⟨rfl, gk.t hG8⟩
          · rw [hs] at hfn
            obtain rfl : fb = false := hfn
            go_upto_region 20 with fail
            clear t1 t2 t3 t4 t5 t6 hs x2
            go_wp2_with fail
            go_loopw [14, 15, 16, 17] (fun v14 u15 u16 u17 wr => ∃ k : Nat, a ≤ k ∧ k ≤ j + 1 ∧ v14 = .int .i64 (k : Nat) ∧ G wo wr) (fun v14 _ _ _ _ => j + 1 - (intOf v14).toNat)
            case atStart => exact ⟨a, Nat.le_refl _, by omega, rfl, G.rf _⟩
            case round =>
              obtain ⟨k, hk1, hk2, rfl, hG2⟩ := hrel
              obtain ⟨wp, rfl⟩ : ∃ wp, wp = wr := ⟨_, rfl⟩
              have b0k := b0q.keep hG2
              have gk := gq.t hG2
              clear x1 lx
              by_cases hkl : k ≤ j
              · have hki : (k : Int) ≤ (j : Int) := by omega
                have xk : IntKind.i64.wrap ((k : Int) + 1) = ((k + 1 : Nat) : Int) := by rw [IntWalk.i64_in _ (by omega)]; rfl
                have hf2 := HFLY.out k
                have HBk := Lib.hid (fun W (hW : G w W) => HB0.out k W (by omega) hW)
                have HLk := Lib.hid (fun W (hW : G w W) => HLT.out k W (by omega) hW)
                obtain ⟨T2, hT2⟩ : ∃ T2, T2 = bks (l k) n := ⟨_, rfl⟩
                rw [← hT2] at HBk hf2
                obtain ⟨M, hM⟩ : ∃ M, M = T2.length := ⟨_, rfl⟩
                rw [← hM] at HBk hf2
                obtain ⟨lk, hlk⟩ : ∃ x, x = lt k := ⟨_, rfl⟩
                rw [← hlk] at HLk hf2
                clear hT2 hM hlk HB0 HLT HFLY
                by_cases hkj : k = j
                · subst hkj
                  have hfk := hfj
                  clear hno hfj
                  by_cases hM0 : M = 0
                  · subst hM0
                    obtain rfl : lk = true := by rw [hfk] at hf2; simpa using hf2.symm
                    clear hf2 hfk
                    go_upto_region 23 with fail
                    refine wp_region_lit ?_
                    refine wpList_load35 w.heap.size 2 HIS.out rfl rfl rfl b0k ?_
                    try simp only [Act.put, List.getElem_toArray, List.getElem_cons_zero, List.getElem_cons_succ, List.setIfInBounds_toArray, List.set_cons_zero, List.set_cons_succ]
                    go_upto_region 24 with (go_at_call 23; refine (HBk.out _ gk).mono ?_; rintro e w7 ⟨ra2, rc2, rfl, hrow2, hG7⟩; clear hrow2)
                    have b0z := b0k.keep hG7
                    have gz := gk.t hG7
                    refine wp_region_lit ?_
                    refine wpList_plain rfl fun K hK => ?_
                    go_simp
                    refine hK _ _ ?_
                    clear hK
                    try simp only [Act.put, List.getElem_toArray, List.getElem_cons_zero, List.getElem_cons_succ, List.setIfInBounds_toArray, List.set_cons_zero, List.set_cons_succ]
                    refine wpList_plain rfl fun K hK => ?_
                    go_simp
                    refine hK _ _ ?_
                    clear hK
                    try simp only [Act.put, List.getElem_toArray, List.getElem_cons_zero, List.getElem_cons_succ, List.setIfInBounds_toArray, List.set_cons_zero, List.set_cons_succ]
                    refine wpList_plain rfl fun K hK => ?_
                    go_simp
                    refine hK _ _ ?_
                    clear hK
                    try simp only [Act.put, List.getElem_toArray, List.getElem_cons_zero, List.getElem_cons_succ, List.setIfInBounds_toArray, List.set_cons_zero, List.set_cons_succ]
                    refine wpList_plain rfl fun K hK => ?_
                    go_simp
                    refine hK _ _ ?_
                    clear hK
                    try simp only [Act.put, List.getElem_toArray, List.getElem_cons_zero, List.getElem_cons_succ, List.setIfInBounds_toArray, List.set_cons_zero, List.set_cons_succ]
                    refine wpList_load35g w.heap.size 2 HIS.out rfl rfl rfl b0z ?_
                    try simp only [Act.put, List.getElem_toArray, List.getElem_cons_zero, List.getElem_cons_succ, List.setIfInBounds_toArray, List.set_cons_zero, List.set_cons_succ]
                    go_wp2_with (go_at_call 25; refine (HLk.out _ gz).mono ?_; rintro e w8 ⟨rfl, hG8⟩)
                    go_roundw
                    case rel => exact ⟨k + 1, by omega, by omega, by go_num, (hG2.t hG7).t hG8⟩
                    case measure => simp [intOf] <;> omega
                  · exfalso
                    rw [hfk] at hf2
                    simp [hM0] at hf2
                · have hfk := hno k hk1 (by omega)
                  have e1 : ((k : Int) == (j : Int)) = false := by simp; omega
                  have e2 : (k == j) = false := by simp [hkj]
                  clear hno hfj
                  by_cases hM0 : M = 0
                  · subst hM0
                    obtain rfl : lk = false := by rw [hfk] at hf2; simpa using hf2.symm
                    clear hf2 hfk
                    go_upto_region 23 with fail
                    refine wp_region_lit ?_
                    refine wpList_load35 w.heap.size 2 HIS.out rfl rfl rfl b0k ?_
                    try simp only [Act.put, List.getElem_toArray, List.getElem_cons_zero, List.getElem_cons_succ, List.setIfInBounds_toArray, List.set_cons_zero, List.set_cons_succ]
                    go_upto_region 24 with (go_at_call 23; refine (HBk.out _ gk).mono ?_; rintro e w7 ⟨ra2, rc2, rfl, hrow2, hG7⟩; clear hrow2)
                    have b0z := b0k.keep hG7
                    have gz := gk.t hG7
                    refine wp_region_lit ?_
                    refine wpList_plain rfl fun K hK => ?_
                    go_simp
                    refine hK _ _ ?_
                    clear hK
                    try simp only [Act.put, List.getElem_toArray, List.getElem_cons_zero, List.getElem_cons_succ, List.setIfInBounds_toArray, List.set_cons_zero, List.set_cons_succ]
                    refine wpList_plain rfl fun K hK => ?_
                    go_simp
                    refine hK _ _ ?_
                    clear hK
                    try simp only [Act.put, List.getElem_toArray, List.getElem_cons_zero, List.getElem_cons_succ, List.setIfInBounds_toArray, List.set_cons_zero, List.set_cons_succ]
                    refine wpList_plain rfl fun K hK => ?_
                    go_simp
                    refine hK _ _ ?_
                    clear hK
                    try simp only [Act.put, List.getElem_toArray, List.getElem_cons_zero, List.getElem_cons_succ, List.setIfInBounds_toArray, List.set_cons_zero, List.set_cons_succ]
                    refine wpList_plain rfl fun K hK => ?_
                    go_simp
                    refine hK _ _ ?_
                    clear hK
                    try simp only [Act.put, List.getElem_toArray, List.getElem_cons_zero, List.getElem_cons_succ, List.setIfInBounds_toArray, List.set_cons_zero, List.set_cons_succ]
                    refine wpList_load35g w.heap.size 2 HIS.out rfl rfl rfl b0z ?_
                    try simp only [Act.put, List.getElem_toArray, List.getElem_cons_zero, List.getElem_cons_succ, List.setIfInBounds_toArray, List.set_cons_zero, List.set_cons_succ]
                    go_wp2_with (go_at_call 25; refine (HLk.out _ gz).mono ?_; rintro e w8 ⟨rfl, hG8⟩)
                    go_roundw
                    case rel => exact ⟨k + 1, by omega, by omega, by go_num, (hG2.t hG7).t hG8⟩
                    case measure => simp [intOf] <;> omega
                  · have hm1 : ((M : Int) == 0) = false := by simp; omega
                    have hm2 : ¬ M = 0 := hM0
                    clear hf2 hfk HLk
                    go_upto_region 23 with fail
                    refine wp_region_lit ?_
                    refine wpList_load35 w.heap.size 2 HIS.out rfl rfl rfl b0k ?_
                    try simp only [Act.put, List.getElem_toArray, List.getElem_cons_zero, List.getElem_cons_succ, List.setIfInBounds_toArray, List.set_cons_zero, List.set_cons_succ]
                    go_upto_region 24 with (go_at_call 23; refine (HBk.out _ gk).mono ?_; rintro e w7 ⟨ra2, rc2, rfl, hrow2, hG7⟩; clear hrow2)
                    have b0z := b0k.keep hG7
                    have gz := gk.t hG7
                    go_wp2_with fail
                    go_roundw
                    case rel => exact ⟨k + 1, by omega, by omega, by go_num, hG2.t hG7⟩
                    case measure => simp [intOf] <;> omega
              · have hki : ¬ (k : Int) ≤ (j : Int) := by omega
                go_wp2_with (go_at_call 13; refine (HWK.out _).mono ?_; rintro e w8 ⟨rfl, hG8⟩)
                go_ret
                exact ⟨rfl, gk.t hG8⟩
        · cases hs : (sN == 1)
          · rw [hs] at hfn
            obtain rfl : fb = true := hfn
            go_upto_region 20 with fail
            clear hs x2
            go_wp2_with fail
            go_loopw [14, 15, 16, 17] (fun v14 u15 u16 u17 wr => ∃ k : Nat, a ≤ k ∧ k ≤ b + 1 ∧ v14 = .int .i64 (k : Nat) ∧ G wo wr) (fun v14 _ _ _ _ => b + 1 - (intOf v14).toNat)
            case atStart => exact ⟨a, Nat.le_refl _, by omega, rfl, G.rf _⟩
            case round =>
              obtain ⟨k, hk1, hk2, rfl, hG2⟩ := hrel
              obtain ⟨wp, rfl⟩ : ∃ wp, wp = wr := ⟨_, rfl⟩
              have b0k := b0q.keep hG2
              have gk := gq.t hG2
              clear x1 lx
              by_cases hkl : k ≤ b
              · have hki : (k : Int) ≤ (b : Int) := by omega
                have xk : IntKind.i64.wrap ((k : Int) + 1) = ((k + 1 : Nat) : Int) := by rw [IntWalk.i64_in _ (by omega)]; rfl
                have hf2 := HFLY.out k
                have HBk := Lib.hid (fun W (hW : G w W) => HB0.out k W (by omega) hW)
                have HLk := Lib.hid (fun W (hW : G w W) => HLT.out k W (by omega) hW)
                obtain ⟨T2, hT2⟩ : ∃ T2, T2 = bks (l k) n := ⟨_, rfl⟩
                rw [← hT2] at HBk hf2
                obtain ⟨M, hM⟩ : ∃ M, M = T2.length := ⟨_, rfl⟩
                rw [← hM] at HBk hf2
                obtain ⟨lk, hlk⟩ : ∃ x, x = lt k := ⟨_, rfl⟩
                rw [← hlk] at HLk hf2
                clear hT2 hM hlk HB0 HLT HFLY
                have hfk := hno k hk1 (by omega)
                clear hno
                by_cases hM0 : M = 0
                · subst hM0
                  obtain rfl : lk = false := by rw [hfk] at hf2; simpa using hf2.symm
                  clear hf2 hfk
                  go_upto_region 23 with fail
                  refine wp_region_lit ?_
                  refine wpList_load35 w.heap.size 2 HIS.out rfl rfl rfl b0k ?_
                  try simp only [Act.put, List.getElem_toArray, List.getElem_cons_zero, List.getElem_cons_succ, List.setIfInBounds_toArray, List.set_cons_zero, List.set_cons_succ]
                  go_upto_region 24 with (go_at_call 23; refine (HBk.out _ gk).mono ?_; rintro e w7 ⟨ra2, rc2, rfl, hrow2, hG7⟩; clear hrow2)
                  have b0z := b0k.keep hG7
                  have gz := gk.t hG7
                  refine wp_region_lit ?_
                  refine wpList_plain rfl fun K hK => ?_
                  go_simp
                  refine hK _ _ ?_
                  clear hK
                  try simp only [Act.put, List.getElem_toArray, List.getElem_cons_zero, List.getElem_cons_succ, List.setIfInBounds_toArray, List.set_cons_zero, List.set_cons_succ]
                  refine wpList_plain rfl fun K hK => ?_
                  go_simp
                  refine hK _ _ ?_
                  clear hK
                  try simp only [Act.put, List.getElem_toArray, List.getElem_cons_zero, List.getElem_cons_succ, List.setIfInBounds_toArray, List.set_cons_zero, List.set_cons_succ]
                  refine wpList_plain rfl fun K hK => ?_
                  go_simp
                  refine hK _ _ ?_
                  clear hK
                  try simp only [Act.put, List.getElem_toArray, List.getElem_cons_zero, List.getElem_cons_succ, List.setIfInBounds_toArray, List.set_cons_zero, List.set_cons_succ]
                  refine wpList_plain rfl fun K hK => ?_
                  go_simp
                  refine hK _ _ ?_
                  clear hK
                  try simp only [Act.put, List.getElem_toArray, List.getElem_cons_zero, List.getElem_cons_succ, List.setIfInBounds_toArray, List.set_cons_zero, List.set_cons_succ]
                  refine wpList_load35g w.heap.size 2 HIS.out rfl rfl rfl b0z ?_
                  try simp only [Act.put, List.getElem_toArray, List.getElem_cons_zero, List.getElem_cons_succ, List.setIfInBounds_toArray, List.set_cons_zero, List.set_cons_succ]
                  go_wp2_with (go_at_call 25; refine (HLk.out _ gz).mono ?_; rintro e w8 ⟨rfl, hG8⟩)
                  go_roundw
                  case rel => exact ⟨k + 1, by omega, by omega, by go_num, (hG2.t hG7).t hG8⟩
                  case measure => simp [intOf] <;> omega
                · have hm1 : ((M : Int) == 0) = false := by simp; omega
                  have hm2 : ¬ M = 0 := hM0
                  clear hf2 hfk HLk
                  go_upto_region 23 with fail
                  refine wp_region_lit ?_
                  refine wpList_load35 w.heap.size 2 HIS.out rfl rfl rfl b0k ?_
                  try simp only [Act.put, List.getElem_toArray, List.getElem_cons_zero, List.getElem_cons_succ, List.setIfInBounds_toArray, List.set_cons_zero, List.set_cons_succ]
                  go_upto_region 24 with (go_at_call 23; refine (HBk.out _ gk).mono ?_; rintro e w7 ⟨ra2, rc2, rfl, hrow2, hG7⟩; clear hrow2)
                  have b0z := b0k.keep hG7
                  have gz := gk.t hG7
                  go_wp2_with fail
                  go_roundw
                  case rel => exact ⟨k + 1, by omega, by omega, by go_num, hG2.t hG7⟩
                  case measure => simp [intOf] <;> omega
              · have hki : ¬ (k : Int) ≤ (b : Int) := by omega
                go_wp2_with (go_at_call 13; refine (HWK.out _).mono ?_; rintro e w8 ⟨rfl, hG8⟩)
                go_ret
                exact ⟨rfl, gk.t hG8⟩
          · rw [hs] at hfn
            obtain rfl : fb = false := hfn
            go_upto_region 20 with fail
            clear hs x2
            go_wp2_with fail
            go_loopw [14, 15, 16, 17] (fun v14 u15 u16 u17 wr => ∃ k : Nat, a ≤ k ∧ k ≤ b + 1 ∧ v14 = .int .i64 (k : Nat) ∧ G wo wr) (fun v14 _ _ _ _ => b + 1 - (intOf v14).toNat)
            case atStart => exact ⟨a, Nat.le_refl _, by omega, rfl, G.rf _⟩
            case round =>
              obtain ⟨k, hk1, hk2, rfl, hG2⟩ := hrel
              obtain ⟨wp, rfl⟩ : ∃ wp, wp = wr := ⟨_, rfl⟩
              have b0k := b0q.keep hG2
              have gk := gq.t hG2
              clear x1 lx
              by_cases hkl : k ≤ b
              · have hki : (k : Int) ≤ (b : Int) := by omega
                have xk : IntKind.i64.wrap ((k : Int) + 1) = ((k + 1 : Nat) : Int) := by rw [IntWalk.i64_in _ (by omega)]; rfl
                have hf2 := HFLY.out k
                have HBk := Lib.hid (fun W (hW : G w W) => HB0.out k W (by omega) hW)
                have HLk := Lib.hid (fun W (hW : G w W) => HLT.out k W (by omega) hW)
                obtain ⟨T2, hT2⟩ : ∃ T2, T2 = bks (l k) n := ⟨_, rfl⟩
                rw [← hT2] at HBk hf2
                obtain ⟨M, hM⟩ : ∃ M, M = T2.length := ⟨_, rfl⟩
                rw [← hM] at HBk hf2
                obtain ⟨lk, hlk⟩ : ∃ x, x = lt k := ⟨_, rfl⟩
                rw [← hlk] at HLk hf2
                clear hT2 hM hlk HB0 HLT HFLY
                have hfk := hno k hk1 (by omega)
                clear hno
                by_cases hM0 : M = 0
                · subst hM0
                  obtain rfl : lk = false := by rw [hfk] at hf2; simpa using hf2.symm
                  clear hf2 hfk
                  go_upto_region 23 with fail
                  refine wp_region_lit ?_
                  refine wpList_load35 w.heap.size 2 HIS.out rfl rfl rfl b0k ?_
                  try simp only [Act.put, List.getElem_toArray, List.getElem_cons_zero, List.getElem_cons_succ, List.setIfInBounds_toArray, List.set_cons_zero, List.set_cons_succ]
                  go_upto_region 24 with (go_at_call 23; refine (HBk.out _ gk).mono ?_; rintro e w7 ⟨ra2, rc2, rfl, hrow2, hG7⟩; clear hrow2)
                  have b0z := b0k.keep hG7
                  have gz := gk.t hG7
                  refine wp_region_lit ?_
                  refine wpList_plain rfl fun K hK => ?_
                  go_simp
                  refine hK _ _ ?_
                  clear hK
                  try simp only [Act.put, List.getElem_toArray, List.getElem_cons_zero, List.getElem_cons_succ, List.setIfInBounds_toArray, List.set_cons_zero, List.set_cons_succ]
                  refine wpList_plain rfl fun K hK => ?_
                  go_simp
                  refine hK _ _ ?_
                  clear hK
                  try simp only [Act.put, List.getElem_toArray, List.getElem_cons_zero, List.getElem_cons_succ, List.setIfInBounds_toArray, List.set_cons_zero, List.set_cons_succ]
                  refine wpList_plain rfl fun K hK => ?_
                  go_simp
                  refine hK _ _ ?_
                  clear hK
                  try simp only [Act.put, List.getElem_toArray, List.getElem_cons_zero, List.getElem_cons_succ, List.setIfInBounds_toArray, List.set_cons_zero, List.set_cons_succ]
                  refine wpList_plain rfl fun K hK => ?_
                  go_simp
                  refine hK _ _ ?_
                  clear hK
                  try simp only [Act.put, List.getElem_toArray, List.getElem_cons_zero, List.getElem_cons_succ, List.setIfInBounds_toArray, List.set_cons_zero, List.set_cons_succ]
                  refine wpList_load35g w.heap.size 2 HIS.out rfl rfl rfl b0z ?_
                  try simp only [Act.put, List.getElem_toArray, List.getElem_cons_zero, List.getElem_cons_succ, List.setIfInBounds_toArray, List.set_cons_zero, List.set_cons_succ]
                  go_wp2_with (go_at_call 25; refine (HLk.out _ gz).mono ?_; rintro e w8 ⟨rfl, hG8⟩)
                  go_roundw
                  case rel => exact ⟨k + 1, by omega, by omega, by go_num, (hG2.t hG7).t hG8⟩
                  case measure => simp [intOf] <;> omega
                · have hm1 : ((M : Int) == 0) = false := by simp; omega
                  have hm2 : ¬ M = 0 := hM0
                  clear hf2 hfk HLk
                  go_upto_region 23 with fail
                  refine wp_region_lit ?_
                  refine wpList_load35 w.heap.size 2 HIS.out rfl rfl rfl b0k ?_
                  try simp only [Act.put, List.getElem_toArray, List.getElem_cons_zero, List.getElem_cons_succ, List.setIfInBounds_toArray, List.set_cons_zero, List.set_cons_succ]
                  go_upto_region 24 with (go_at_call 23; refine (HBk.out _ gk).mono ?_; rintro e w7 ⟨ra2, rc2, rfl, hrow2, hG7⟩; clear hrow2)
                  have b0z := b0k.keep hG7
                  have gz := gk.t hG7
                  go_wp2_with fail
                  go_roundw
                  case rel => exact ⟨k + 1, by omega, by omega, by go_num, hG2.t hG7⟩
                  case measure => simp [intOf] <;> omega
              · have hki : ¬ (k : Int) ≤ (b : Int) := by omega
                go_wp2_with (go_at_call 13; refine (HWK.out _).mono ?_; rintro e w8 ⟨rfl, hG8⟩)
                go_ret
                exact ⟨rfl, gk.t hG8⟩
  · go_upto_region 4 with (go_at_call 20; refine (HF.out _ g0).mono ?_; rintro e w3 ⟨rfl, hG3⟩)
    clear x1 x2 lx
    replace b0 := b0.keep hG3
    replace c0 := c0.keep hG3
    replace g0 := g0.t hG3
    clear hG3 HF
    have lx := c0.lt
    have x0 : w3.cell? ⟨w.heap.size + 1, 0, none⟩ = some (.int .i64 (i : Nat)) := c0.cell 0
    have x1 : w3.cell? ⟨w.heap.size + 1, 1, none⟩ = some (.int .i64 (a : Nat)) := c0.cell 1
    refine wp_region_lit ?_
    refine wpList_load35 w.heap.size 2 HIS.out rfl rfl rfl b0 ?_
    try simp only [Act.put, List.getElem_toArray, List.getElem_cons_zero, List.getElem_cons_succ, List.setIfInBounds_toArray, List.set_cons_zero, List.set_cons_succ]
    go_upto_region 5 with (go_at_call 17; refine (HSA.out _ g0).mono ?_; rintro e w4 ⟨rfl, hG4⟩)
    clear x0 x1 lx
    replace b0 := b0.keep hG4
    replace c0 := c0.keep hG4
    replace g0 := g0.t hG4
    clear hG4 HSA
    have lx := c0.lt
    have x1 : w4.cell? ⟨w.heap.size + 1, 1, none⟩ = some (.int .i64 (a : Nat)) := c0.cell 1
    refine wp_region_lit ?_
    refine wpList_load35 w.heap.size 2 HIS.out rfl rfl rfl b0 ?_
    try simp only [Act.put, List.getElem_toArray, List.getElem_cons_zero, List.getElem_cons_succ, List.setIfInBounds_toArray, List.set_cons_zero, List.set_cons_succ]
    have HBA := Lib.hid (fun W (hW : G w W) => HBL.out a W (by omega) hW)
    go_wp2_with (first | (go_at_call 23; refine (HBA.out _ g0).mono ?_; rintro e w5 ⟨hG5, hh | ⟨_, rfl⟩⟩; · exact absurd hh.1 (by omega)) | (go_at_call 13; refine (HWK.out _).mono ?_; rintro e w6 ⟨rfl, hG6⟩))
    go_ret
    exact ⟨rfl, (g0.t hG5).t hG6⟩
end Go.Proofs.Ytcekdljjmfkacaa
