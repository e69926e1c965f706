import Derived.Test.YtcekdljjmfkacaaNo
set_option linter.unusedSimpArgs false
set_option linter.unusedVariables false
namespace Go.Proofs.Ytcekdljjmfkacaa
open Go.RowKit
attribute [local go_sem] Oper.semAt_some
/-- the minutes below q that all but at most wrong spans have -/
def minL (n : Nat) (c : Nat → Nat → Int) (wrong : Int) (q : Nat) : List Nat := (List.range q).filter fun m : Nat => decide (((agN c m n : Nat) : Int) ≤ wrong)
theorem minL_yes {n : Nat} {c : Nat → Nat → Int} {wrong : Int} {q : Nat} (h : ((agN c q n : Nat) : Int) ≤ wrong) : minL n c wrong (q + 1) = minL n c wrong q ++ [q] := by
  unfold minL
  rw [List.range_succ, List.filter_append]
  simp [h]
theorem minL_no {n : Nat} {c : Nat → Nat → Int} {wrong : Int} {q : Nat} (h : ¬ ((agN c q n : Nat) : Int) ≤ wrong) : minL n c wrong (q + 1) = minL n c wrong q := by
  unfold minL
  rw [List.range_succ, List.filter_append]
  simp [h]
theorem minL_len (n : Nat) (c : Nat → Nat → Int) (wrong : Int) (q : Nat) : (minL n c wrong q).length ≤ q := by
  unfold minL
  have := List.length_filter_le (fun m : Nat => decide (((agN c m n : Nat) : Int) ≤ wrong)) (List.range q)
  simpa using this
def natsV (l : List Nat) : List Value := l.map fun n : Nat => Value.int .i64 (n : Int)
theorem natsV_snoc (l : List Nat) (n : Nat) : natsV (l ++ [n]) = natsV l ++ [.int .i64 (n : Nat)] := by simp [natsV]
theorem resMin (tmps : Array Value) (w : World) (g : Nat) (x y z : Int) (h : tmps.getD 4 undef = .pointer (some ⟨g, 0, none⟩)) (h5 : tmps.getD 5 undef = .int .i64 z) (c0 : w.cell? ⟨g, 0, none⟩ = some (.int .i64 x)) (c1 : w.cell? ⟨g, 1, none⟩ = some (.int .i64 y)) :
    (results Try.f27 tmps).run Try.prog w = .ok (.tuple #[.agg #[.int .i64 x, .int .i64 y], .int .i64 z]) w := by
  have hr : Try.f27.results = #[.cell 4 30, .tmp 5] := rfl
  have h' : tmps[4]?.getD undef = .pointer (some ⟨g, 0, none⟩) := by simpa using h
  have h5' : tmps[5]?.getD undef = .int .i64 z := by simpa using h5
  simp only [results, hr]
  go_simp
section
variable (a : Option Addr) (cap n : Nat) (c : Nat → Nat → Int) (wrong : Int) (w : World)
/-- what Minute answers -/
def minR (n : Nat) (c : Nat → Nat → Int) (wrong : Int) : Value :=
  if (watchB n c && isInB wrong 0 8) = false then .tuple #[.agg #[.int .i64 0, .int .i64 0], .int .i64 62]
  else match minL n c wrong 10000 with
    | [] => .tuple #[.agg #[.int .i64 0, .int .i64 0], .int .i64 3]
    | x :: l => .tuple #[.agg #[.int .i64 (x : Nat), .int .i64 ((x :: l).getLast (by simp) : Nat)], .int .i64 0]
set_option maxRecDepth 100000 in
set_option maxHeartbeats 4000000 in
theorem Minute_ok (ha : RowAt w a n 2 c) (hv : watchB n c = true) (hw : isInB wrong 0 8 = true) : Calls Try.prog 27 #[.slice a n cap, .int .i64 wrong] w fun e w' => e = .returned (minR n c wrong) ∧ G w w' := by
  have hn : n ≤ 8 := by
    unfold watchB isInB at hv
    simp at hv
    omega
  have HV := Lib.hid (fun (W : World) (hW : G w W) => by have h := validWatches_any a cap n c W (ha.below hW); rw [hv] at h; exact h)
  have HU := Lib.hid (fun W : World => by have h := lUpTo_any wrong 8 W; rw [hw] at h; exact h)
  have HC := Lib.hid (fun (W : World) (hW : G w W) (m : Nat) => contradicting_any a cap n c m W (ha.below hW) (by omega))
  have HR : Hid (minR n c wrong = match minL n c wrong 10000 with
    | [] => .tuple #[.agg #[.int .i64 0, .int .i64 0], .int .i64 3]
    | x :: l => .tuple #[.agg #[.int .i64 (x : Nat), .int .i64 ((x :: l).getLast (by simp) : Nat)], .int .i64 0]) := by
    unfold minR Hid
    rw [hv, hw, if_neg (by simp)]
  generalize minR n c wrong = RR at *
  clear hv hw ha
  have g0 : G w (w.alloc (.cells #[.int .i64 0, .int .i64 0] 30)) := (G.rf _).a _
  have b0 := Blk.new w 30 #[.int .i64 0, .int .i64 0]
  go_enter Try.func27, Try.ntmps27
  go_wp2_with (first | (go_at_call 55; refine (HV.out _ g0).mono ?_; rintro e w1 ⟨rfl, hG1⟩) | (go_at_call 45; refine (HU.out _).mono ?_; rintro e w2 ⟨rfl, hG2⟩))
  replace g0 := (g0.t hG1).t hG2
  replace b0 := b0.keep (hG1.t hG2)
  clear hG1 HV HU
  obtain ⟨i0, hi0, hz0, hz1, hz2⟩ := info_parts info3
  go_loopw [6, 17] (fun v i wr => ∃ q : Nat, q ≤ 10000 ∧ i = .int .i64 q ∧ wr.ownsRow w2.heap.size 3 1 v (minL n c wrong q).length (natsV (minL n c wrong q)) ∧ G w2 wr) (fun _ i _ => 10000 - (intOf i).toNat)
  case atStart => exact ⟨0, Nat.zero_le _, rfl, World.ownsRow_nil _ _ _ _, G.rf _⟩
  case round =>
    obtain ⟨q, hq, rfl, ho, hG⟩ := hrel
    obtain ⟨wo, rfl⟩ : ∃ wo, wo = wr := ⟨_, rfl⟩
    have HO := Lib.hid ho
    clear ho
    by_cases hlt : q < 10000
    · have hki : (q : Int) < 10000 := by omega
      have HLN := Lib.hid (minL_len n c wrong q)
      have HC2 := Lib.hid (HC.out wo (g0.t hG) q)
      have hy := minL_yes (n := n) (c := c) (wrong := wrong) (q := q)
      have hno := minL_no (n := n) (c := c) (wrong := wrong) (q := q)
      by_cases hle : ((agN c q n : Nat) : Int) ≤ wrong
      · have HM := Lib.hid (hy hle)
        clear hy hno HC
        generalize agN c q n = ag at *
        obtain ⟨T, hT⟩ : ∃ T, T = minL n c wrong q := ⟨_, rfl⟩
        rw [← hT] at HO HLN HM
        have HT := Lib.hid hT
        clear hT
        have hlen := HLN.out
        go_wp2_with (first | (go_at_call 56; refine (HC2.out).mono ?_; rintro e w5 ⟨rfl, hG5⟩) | (at_builtin; refine wpList_append_own _ rfl _ _ 22 rfl w2.heap.size 3 i0 (.int .i64 0) 1 8 Try.underlying22 hi0 hz0 hz1 hz2 rfl (by decide) _ T.length (natsV T) rfl ?hown ⟨_, 0, none⟩ 1 1 [.int .i64 (q : Nat)] rfl rfl (cell_one_new _ _ _) (by simp [Value.oneCell']) (by unfold maxLen; omega) (by omega) ?hbase ?hrest))
        case hown => exact own_G HO.out (hG5.a _)
        case hbase => exact ((hG.t hG5).a _).size
        case hrest =>
          intro v9 w9 hown9 hg9 _
          have gz : G w2 w9 := grow_own (hG.t (hG5.a _)) (own_G HO.out (hG5.a _)) (Nat.le_refl _) hg9
          have HN := Lib.hid hown9
          clear hown9 hg9
          go_wp2
          go_roundw
          case rel => exact ⟨q + 1, by omega, by go_num, by rw [HM.out, natsV_snoc, List.length_append]; exact HN.out, gz⟩
          case measure => simp [intOf]; omega
      · have HM := Lib.hid (hno hle)
        clear hy hno HC
        generalize agN c q n = ag at *
        go_wp2_with (go_at_call 56; refine (HC2.out).mono ?_; rintro e w5 ⟨rfl, hG5⟩)
        go_roundw
        case rel => exact ⟨q + 1, by omega, by go_num, by rw [HM.out]; exact own_G HO.out hG5, hG.t hG5⟩
        case measure => simp [intOf]; omega
    · obtain rfl : q = 10000 := by omega
      have hki : ¬ ((10000 : Nat) : Int) < 10000 := by omega
      have hb := b0.keep hG
      have hGw := g0.t hG
      obtain ⟨T, hT⟩ : ∃ T, T = minL n c wrong 10000 := ⟨_, rfl⟩
      have hlen : T.length ≤ 10000 := by rw [hT]; exact minL_len n c wrong 10000
      rw [← hT] at HO HR
      clear hT HC b0 g0
      have f0 := hb.cell 0
      have f1 := hb.cell 1
      have z0 := hb.frozen 0
      have z1 := hb.frozen 1
      have l0 := hb.lt
      cases T with
      | nil =>
        obtain ⟨ra, rc, rfl⟩ := own_slice HO.out
        simp only [List.length_nil]
        go_wp2_with fail
        have hb2 : Blk ((wo.setCell ⟨w.heap.size, 0, none⟩ (.int .i64 0)).setCell ⟨w.heap.size, 1, none⟩ (.int .i64 0)) w.heap.size 30 #[.int .i64 0, .int .i64 0] := (hb.set_ 0 _).set_ 1 _
        exact bodyPost_ret (resMin _ _ w.heap.size 0 0 3 rfl rfl (hb2.cell 0) (hb2.cell 1)) rfl ⟨by rw [HR.out], (hGw.s (p := ⟨w.heap.size, 0, none⟩) (Nat.le_refl _) _).s (p := ⟨w.heap.size, 1, none⟩) (Nat.le_refl _) _⟩
      | cons x l =>
        obtain ⟨g, cp, cur, rfl, hbT, hgT, htT⟩ := own_some HO.out (by simp)
        obtain ⟨lst, hlst⟩ : ∃ lst, lst = (x :: l).getLast (by simp) := ⟨_, rfl⟩
        have hc0 := take_cell hbT htT (k := 0) (by simp) (show (natsV (x :: l))[0]? = some (.int .i64 (x : Nat)) from rfl)
        have hc1 := take_cell hbT htT (k := l.length) (by simp) (show (natsV (x :: l))[l.length]? = some (.int .i64 (lst : Nat)) by
          rw [hlst]
          unfold natsV
          rw [List.getElem?_map]
          simp [List.getLast_eq_getElem])
        have HR2 : Hid (RR = .tuple #[.agg #[.int .i64 (x : Nat), .int .i64 (lst : Nat)], .int .i64 0]) := by rw [hlst]; exact HR.out
        clear hlst htT hbT HR HO
        obtain ⟨n1, hn1⟩ : ∃ n1, n1 = (x :: l).length := ⟨_, rfl⟩
        obtain ⟨m, hm⟩ : ∃ m, m = l.length := ⟨_, rfl⟩
        rw [← hm] at hc1
        have hmn : m < n1 := by rw [hm, hn1]; simp
        have x1 : IntKind.i64.wrap ((n1 : Int) - 1) = (m : Int) := by rw [IntWalk.i64_in _ (by rw [hn1]; simp; omega), hn1, hm]; simp
        rw [← hn1]
        have hn0 : ((n1 : Int) == 0) = false := by simp; omega
        have hp0 : 0 < n1 := by omega
        have hmi : (m : Int) < n1 := by omega
        clear hn1 hm hlen
        go_wp2_with fail
        have hSk : ∀ W', G wo W' → W'.cell? ⟨g, 0, none⟩ = some (.int .i64 (x : Nat)) ∧ W'.cell? ⟨g, m, none⟩ = some (.int .i64 (lst : Nat)) := fun W' h => ⟨((bcellB h).1 _ _ hgT).trans hc0, ((bcellB h).1 _ _ hgT).trans hc1⟩
        refine wp_region_Y (S := fun W' => W'.cell? ⟨g, 0, none⟩ = some (.int .i64 (x : Nat)) ∧ W'.cell? ⟨g, m, none⟩ = some (.int .i64 (lst : Nat))) 10 12 rfl (by kernel_rfl) (hSk _ (G.rf _).d) (fun hS => ?_)
        refine wpAnyY_take (i := 0) (v := ?_) rfl (by kernel_rfl) (by kernel_rfl) (by kernel_rfl) (by kernel_rfl) (fun _ _ _ h => h) (Or.inl ⟨by kernel_rfl, ?_⟩) hS ?_
        rotate_left
        · intro w' hSw; go_simp; with_reducible rfl
        try simp only [Act.put, List.getElem_toArray, List.getElem_cons_zero, List.getElem_cons_succ, List.setIfInBounds_toArray, List.set_cons_zero, List.set_cons_succ]
        refine wpAnyY_take (i := 1) (v := ?_) rfl (by kernel_rfl) (by kernel_rfl) (by kernel_rfl) (by kernel_rfl) (fun _ _ _ h => h) (Or.inl ⟨by kernel_rfl, ?_⟩) hS ?_
        rotate_left
        · intro w' hSw; go_simp; with_reducible rfl
        try simp only [Act.put, List.getElem_toArray, List.getElem_cons_zero, List.getElem_cons_succ, List.setIfInBounds_toArray, List.set_cons_zero, List.set_cons_succ]
        refine wpAnyY_take (i := 2) (v := ?_) rfl (by kernel_rfl) (by kernel_rfl) (by kernel_rfl) (by kernel_rfl) (fun _ _ _ h => h) (Or.inl ⟨by kernel_rfl, ?_⟩) hS ?_
        rotate_left
        · intro w' hSw; obtain ⟨y0, y1⟩ := hSw; go_simp; with_reducible rfl
        try simp only [Act.put, List.getElem_toArray, List.getElem_cons_zero, List.getElem_cons_succ, List.setIfInBounds_toArray, List.set_cons_zero, List.set_cons_succ]
        refine wpAnyY_take (i := 3) (v := ?_) rfl (by kernel_rfl) (by kernel_rfl) (by kernel_rfl) (by kernel_rfl) (fun _ _ _ h => h) (Or.inl ⟨by kernel_rfl, ?_⟩) hS ?_
        rotate_left
        · intro w' hSw; go_simp; with_reducible rfl
        try simp only [Act.put, List.getElem_toArray, List.getElem_cons_zero, List.getElem_cons_succ, List.setIfInBounds_toArray, List.set_cons_zero, List.set_cons_succ]
        refine wpAnyY_take (i := 4) (v := ?_) rfl (by kernel_rfl) (by kernel_rfl) (by kernel_rfl) (by kernel_rfl) (fun _ _ _ h => h) (Or.inl ⟨by kernel_rfl, ?_⟩) hS ?_
        rotate_left
        · intro w' hSw; go_simp; with_reducible rfl
        try simp only [Act.put, List.getElem_toArray, List.getElem_cons_zero, List.getElem_cons_succ, List.setIfInBounds_toArray, List.set_cons_zero, List.set_cons_succ]
        refine wpAnyY_take (i := 5) (v := ?_) rfl (by kernel_rfl) (by kernel_rfl) (by kernel_rfl) (by kernel_rfl) (fun _ _ _ h => h) (Or.inl ⟨by kernel_rfl, ?_⟩) hS ?_
        rotate_left
        · intro w' hSw; go_simp; with_reducible rfl
        try simp only [Act.put, List.getElem_toArray, List.getElem_cons_zero, List.getElem_cons_succ, List.setIfInBounds_toArray, List.set_cons_zero, List.set_cons_succ]
        refine wpAnyY_take (i := 6) (v := ?_) rfl (by kernel_rfl) (by kernel_rfl) (by kernel_rfl) (by kernel_rfl) (fun _ _ _ h => h) (Or.inl ⟨by kernel_rfl, ?_⟩) hS ?_
        rotate_left
        · intro w' hSw; go_simp; with_reducible rfl
        try simp only [Act.put, List.getElem_toArray, List.getElem_cons_zero, List.getElem_cons_succ, List.setIfInBounds_toArray, List.set_cons_zero, List.set_cons_succ]
        refine wpAnyY_take (i := 7) (v := ?_) rfl (by kernel_rfl) (by kernel_rfl) (by kernel_rfl) (by kernel_rfl) (fun _ _ _ h => h) (Or.inl ⟨by kernel_rfl, ?_⟩) hS ?_
        rotate_left
        · intro w' hSw; go_simp; with_reducible rfl
        try simp only [Act.put, List.getElem_toArray, List.getElem_cons_zero, List.getElem_cons_succ, List.setIfInBounds_toArray, List.set_cons_zero, List.set_cons_succ]
        refine wpAnyY_take (i := 8) (v := ?_) rfl (by kernel_rfl) (by kernel_rfl) (by kernel_rfl) (by kernel_rfl) (fun _ _ _ h => h) (Or.inl ⟨by kernel_rfl, ?_⟩) hS ?_
        rotate_left
        · intro w' hSw; obtain ⟨y0, y1⟩ := hSw; go_simp; with_reducible rfl
        try simp only [Act.put, List.getElem_toArray, List.getElem_cons_zero, List.getElem_cons_succ, List.setIfInBounds_toArray, List.set_cons_zero, List.set_cons_succ]
        refine wpAnyY_take (i := 9) (v := ?_) rfl (by kernel_rfl) (by kernel_rfl) (by kernel_rfl) (by kernel_rfl) (fun _ _ _ h => h) (Or.inl ⟨by kernel_rfl, ?_⟩) hS ?_
        rotate_left
        · intro w' hSw; go_simp; with_reducible rfl
        try simp only [Act.put, List.getElem_toArray, List.getElem_cons_zero, List.getElem_cons_succ, List.setIfInBounds_toArray, List.set_cons_zero, List.set_cons_succ]
        refine wpAnyY_oneW (i := 10) (by kernel_rfl) rfl (by kernel_rfl) (by kernel_rfl) (fun K10 hK10 => ?_)
        have hbd := hb.keep (G.rf wo).d
        have f0 := hbd.cell 0
        have f1 := hbd.cell 1
        have z0 := hbd.frozen 0
        have z1 := hbd.frozen 1
        have l0 := hbd.lt
        go_simp
        refine hK10.out _ _ ?_
        try simp only [Act.put, List.getElem_toArray, List.getElem_cons_zero, List.getElem_cons_succ, List.setIfInBounds_toArray, List.set_cons_zero, List.set_cons_succ]
        refine wpAnyY_oneW (i := 11) (by kernel_rfl) rfl (by kernel_rfl) (by kernel_rfl) (fun K11 hK11 => ?_)
        go_simp
        refine hK11.out _ _ ?_
        try simp only [Act.put, List.getElem_toArray, List.getElem_cons_zero, List.getElem_cons_succ, List.setIfInBounds_toArray, List.set_cons_zero, List.set_cons_succ]
        refine wpAnyY_done (by kernel_rfl) ?_ _
        have hb2 : Blk ((wo.drew.setCell ⟨w.heap.size, 0, none⟩ (.int .i64 (x : Nat))).setCell ⟨w.heap.size, 1, none⟩ (.int .i64 (lst : Nat))) w.heap.size 30 #[.int .i64 (x : Nat), .int .i64 (lst : Nat)] := (hbd.set_ 0 _).set_ 1 _
        have hGG := (hGw.d.s (p := ⟨w.heap.size, 0, none⟩) (Nat.le_refl _) (.int .i64 (x : Nat))).s (p := ⟨w.heap.size, 1, none⟩) (Nat.le_refl _) (.int .i64 (lst : Nat))
        clear hS hSk hK10 hK11 f0 f1 z0 z1 l0
        go_wp2_with fail
        exact bodyPost_ret (resMin _ _ w.heap.size _ _ _ rfl rfl (hb2.cell 0) (hb2.cell 1)) rfl ⟨by rw [HR2.out], hGG⟩
end
end Go.Proofs.Ytcekdljjmfkacaa
