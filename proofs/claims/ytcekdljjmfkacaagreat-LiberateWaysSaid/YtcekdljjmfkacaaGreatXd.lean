import Derived.Test.YtcekdljjmfkacaaGreatXc
import Derived.Test.YtcekdljjmfkacaaGreatMb
set_option linter.unusedSimpArgs false
set_option linter.unusedVariables false
namespace Go.Proofs.YtcekdljjmfkacaaGreat
open Go.RowKit Go.Shelf
attribute [local go_sem] Oper.semAt_some wide_fn wide_dep wideR_fn wideR_dep
/-- the homes whose ways have a stop at which the weather is not surely inside -/
def bks (l : Nat → Option (Nat × Nat)) (n : Nat) : List (Nat × Nat × Nat) := (List.range n).filterMap fun i => (l i).map fun p => (i, p.1, p.2)
def bksV (L : List (Nat × Nat × Nat)) : List Value := L.flatMap fun b => [.int .i64 (b.1 : Nat), .int .i64 (b.2.1 : Nat), .int .i64 (b.2.2 : Nat)]
theorem bks_none {l : Nat → Option (Nat × Nat)} {n : Nat} (h : l n = none) : bks l (n + 1) = bks l n := by
  unfold bks
  rw [List.range_succ, List.filterMap_append]
  simp [h]
theorem bks_some {l : Nat → Option (Nat × Nat)} {n : Nat} {p : Nat × Nat} (h : l n = some p) : bks l (n + 1) = bks l n ++ [(n, p.1, p.2)] := by
  unfold bks
  rw [List.range_succ, List.filterMap_append]
  simp [h]
theorem bks_len (l : Nat → Option (Nat × Nat)) (n : Nat) : (bks l n).length ≤ n := by
  unfold bks
  have := List.length_filterMap_le (fun i => (l i).map fun p => (i, p.1, p.2)) (List.range n)
  simpa using this
theorem bksV_snoc (L : List (Nat × Nat × Nat)) (b : Nat × Nat × Nat) : bksV (L ++ [b]) = bksV L ++ [.int .i64 (b.1 : Nat), .int .i64 (b.2.1 : Nat), .int .i64 (b.2.2 : Nat)] := by
  simp [bksV, List.flatMap_append]
theorem cells_three6 {W : World} {g : Nat} {t : TypeId} {a b c : Value} (h : Blk W g t #[a, b, c]) : ∀ j u, [a, b, c][j]? = some u → W.cell? ((⟨g, 0, none⟩ : Addr).add j) = some u := by
  intro j u hj
  rw [add0, h.cell j]
  simpa using hj
theorem info73 : (Tryz.prog.info? 67).map (fun i => (i.zero, i.size, i.bytes)) = some (some (.agg #[.int .i64 0, .int .i64 0, .int .i64 0]), 3, 24) := by kernel_rfl
/-- the blocks, or an error -/
def BkPost (w : World) (Z : Int) (L : List (Nat × Nat × Nat)) (e : Ending) (w' : World) : Prop := G w w' ∧ ((Z = 0 ∧ ∃ v B, e = .returned (.tuple #[v, .int .i64 0]) ∧ w.heap.size ≤ B ∧ w'.ownsRow B 67 3 v L.length (bksV L)) ∨ (Z ≠ 0 ∧ e = .returned (.tuple #[.slice none 0 0, .int .i64 Z])))
section
variable (mi : Nat) (Z : Int) (b2 : Bool) (REL : Array Value) (FcP : World → Nat → Prop) (l : Nat → Option (Nat × Nat)) (ha : Option Addr) (n hc : Nat) (w : World)
set_option maxRecDepth 100000 in
set_option maxHeartbeats 4000000 in
theorem Blocks_walk (hIs : IsRel REL) (hM : ∀ W, Calls Tryz.prog 43 #[.int .i64 (mi : Nat)] W fun e w' => e = .returned (.bool b2) ∧ G W w')
    (hQ : ∀ W, G w W → Calls Tryz.prog 48 #[.agg REL, .bool b2] W (QR W Z FcP)) (hK : ∀ W W' F, FcP W F → G W W' → FcP W' F) (h8 : ∀ W F, FcP W F → W.cell? ⟨F, 8, none⟩ = some (.slice ha n hc) ∧ F < W.heap.size) (hn : n ≤ 6)
    (hB : ∀ W F i, G w W → FcP W F → i < n → Calls Tryz.prog 58 #[.pointer (some ⟨F, 0, none⟩), .int .i64 (i : Nat), .int .i64 (mi : Nat)] W fun e w' => e = .returned (.tuple #[.agg (blkV i (l i)), .bool (l i).isSome]) ∧ G W w') :
    Calls Tryz.prog 22 #[.agg REL, .int .i64 (mi : Nat)] w (BkPost w Z (bks l n)) := by
  have HIS := Lib.hid hIs
  have HM := Lib.hid hM
  have HQ := Lib.hid hQ
  have HB := Lib.hid hB
  have HK := Lib.hid hK
  have H8 := Lib.hid h8
  clear hM hQ hB hIs hK h8
  have HOK : Hid (∀ w' v B, Z = 0 → G w w' → w.heap.size ≤ B → w'.ownsRow B 67 3 v (bks l n).length (bksV (bks l n)) → BkPost w Z (bks l n) (.returned (.tuple #[v, .int .i64 0])) w') := fun w' v B h a b c => ⟨a, .inl ⟨h, v, B, rfl, b, c⟩⟩
  have HER : Hid (∀ w', Z ≠ 0 → G w w' → BkPost w Z (bks l n) (.returned (.tuple #[.slice none 0 0, .int .i64 Z])) w') := fun w' h a => ⟨a, .inr ⟨h, rfl⟩⟩
  generalize BkPost w Z (bks l n) = PP at *
  have g0 : G w (w.alloc (.cells REL 35)) := (G.rf _).a _
  have b0 : Blk (w.alloc (.cells REL 35)) w.heap.size 35 REL := Blk.new w 35 REL
  go_enter Tryz.func22, Tryz.ntmps22
  go_upto_region 1 with fail
  change Code.wp _ _ _ _ (w.alloc (.cells REL 35))
  generalize w.alloc (.cells REL 35) = w1 at *
  refine wp_region_Y (S := fun W' => Blk W' w.heap.size 35 REL) 8 9 rfl (by kernel_rfl) (b0.keep (G.rf _).d) (fun hS => ?_)
  have ga := (G.rf w1).d
  refine wpAnyY_take (i := 0) (v := .agg REL) rfl (by kernel_rfl) (by kernel_rfl) (by kernel_rfl) (by kernel_rfl) (fun _ _ _ h => h) (Or.inl ⟨by kernel_rfl, ?_⟩) hS ?_
  · intro w' hSw; exact load46o w' w.heap.size 2 HIS.out _ _ rfl (by kernel_rfl) hSw
  try simp only [Act.put, List.getElem_toArray, List.getElem_cons_zero, List.getElem_cons_succ, List.setIfInBounds_toArray, List.set_cons_zero, List.set_cons_succ]
  refine wpAnyY_take (i := 1) (v := ?_) rfl (by kernel_rfl) (by kernel_rfl) (by kernel_rfl) (by kernel_rfl) (fun _ _ _ h => h) (Or.inl ⟨by kernel_rfl, ?_⟩) hS ?_
  rotate_left
  · intro w' hSw; go_simp; with_reducible rfl
  try simp only [Act.put, List.getElem_toArray, List.getElem_cons_zero, List.getElem_cons_succ, List.setIfInBounds_toArray, List.set_cons_zero, List.set_cons_succ]
  refine wpAnyY_oneSW (i := 2) (by kernel_rfl) rfl (by kernel_rfl) (fun K2 hK2 => ?_)
  go_simp
  refine (HM.out _).mono ?_
  rintro e w2 ⟨rfl, hG2⟩
  replace ga := ga.t hG2
  refine hK2.out _ _ (b0.keep ga) (fun hS => ?_)
  try simp only [Act.put, List.getElem_toArray, List.getElem_cons_zero, List.getElem_cons_succ, List.setIfInBounds_toArray, List.set_cons_zero, List.set_cons_succ]
  refine wpAnyY_oneSW (i := 3) (by kernel_rfl) rfl (by kernel_rfl) (fun K3 hK3 => ?_)
  go_simp
  refine (HQ.out _ (g0.t ga)).mono ?_
  rintro e w4 ⟨p, rfl, hG3, hZ⟩
  replace ga := ga.t hG3
  refine hK3.out _ _ (b0.keep ga) (fun hS => ?_)
  try simp only [Act.put, List.getElem_toArray, List.getElem_cons_zero, List.getElem_cons_succ, List.setIfInBounds_toArray, List.set_cons_zero, List.set_cons_succ]
  refine wpAnyY_take (i := 4) (v := ?_) rfl (by kernel_rfl) (by kernel_rfl) (by kernel_rfl) (by kernel_rfl) (fun _ _ _ h => h) (Or.inl ⟨by kernel_rfl, ?_⟩) hS ?_
  rotate_left
  · intro w' hSw; go_simp; with_reducible rfl
  try simp only [Act.put, List.getElem_toArray, List.getElem_cons_zero, List.getElem_cons_succ, List.setIfInBounds_toArray, List.set_cons_zero, List.set_cons_succ]
  refine wpAnyY_take (i := 5) (v := ?_) rfl (by kernel_rfl) (by kernel_rfl) (by kernel_rfl) (by kernel_rfl) (fun _ _ _ h => h) (Or.inl ⟨by kernel_rfl, ?_⟩) hS ?_
  rotate_left
  · intro w' hSw; go_simp; with_reducible rfl
  try simp only [Act.put, List.getElem_toArray, List.getElem_cons_zero, List.getElem_cons_succ, List.setIfInBounds_toArray, List.set_cons_zero, List.set_cons_succ]
  refine wpAnyY_take (i := 6) (v := ?_) rfl (by kernel_rfl) (by kernel_rfl) (by kernel_rfl) (by kernel_rfl) (fun _ _ _ h => h) (Or.inl ⟨by kernel_rfl, ?_⟩) hS ?_
  rotate_left
  · intro w' hSw; go_simp; with_reducible rfl
  try simp only [Act.put, List.getElem_toArray, List.getElem_cons_zero, List.getElem_cons_succ, List.setIfInBounds_toArray, List.set_cons_zero, List.set_cons_succ]
  refine wpAnyY_oneSW (i := 7) (by kernel_rfl) rfl (by kernel_rfl) (fun K7 hK7 => ?_)
  go_simp
  refine hK7.out _ _ (b0.keep ga) (fun hS => ?_)
  try simp only [Act.put, List.getElem_toArray, List.getElem_cons_zero, List.getElem_cons_succ, List.setIfInBounds_toArray, List.set_cons_zero, List.set_cons_succ]
  refine wpAnyY_oneW (i := 8) (by kernel_rfl) rfl (by kernel_rfl) (by kernel_rfl) (fun K8 hK8 => ?_)
  go_simp
  refine hK8.out _ _ ?_
  try simp only [Act.put, List.getElem_toArray, List.getElem_cons_zero, List.getElem_cons_succ, List.setIfInBounds_toArray, List.set_cons_zero, List.set_cons_succ]
  refine wpAnyY_done (by kernel_rfl) ?_ _
  have gz := g0.t ga
  clear b0 hS HM HQ HIS g0 ga
  by_cases hz : Z = 0
  · obtain ⟨F, rfl, hfc⟩ := hZ hz
    subst hz
    have HO := Lib.hid (fun w' v B h => HOK.out w' v B rfl h)
    clear HOK HER hZ
    obtain ⟨f8, lF⟩ := H8.out _ _ hfc
    have HFc := Lib.hid hfc
    clear hfc
    obtain ⟨i0, hi0, hz0, hz1, hz2⟩ := info_parts info73
    go_wp2_with fail
    clear f8 lF
    go_loopw [8, 9, 10, 11, 28] (fun v u9 u10 u11 i wr => ∃ q : Nat, q ≤ n ∧ i = .int .i64 q ∧ wr.ownsRow w4.heap.size 67 3 v (bks l q).length (bksV (bks l q)) ∧ G w4 wr) (fun _ _ _ _ i _ => n - (intOf i).toNat)
    case atStart => exact ⟨0, Nat.zero_le _, rfl, World.ownsRow_nil _ _ _ _, G.rf _⟩
    case round =>
      obtain ⟨q, hq, rfl, ho, hG⟩ := hrel
      obtain ⟨wo, rfl⟩ : ∃ wo, wo = wr := ⟨_, rfl⟩
      have HOW := Lib.hid ho
      clear ho
      by_cases hlt : q < n
      · have hki : (q : Int) < n := by omega
        have HBq := Lib.hid (HB.out wo F q (gz.t hG) (HK.out _ _ _ HFc.out hG) hlt)
        have hbl := bks_len l q
        cases hl : l q with
        | none =>
          rw [hl] at HBq
          have HN := Lib.hid (bks_none hl)
          unfold blkV at HBq
          clear hl HB
          go_wp2_with (go_at_call 58; refine (HBq.out).mono ?_; rintro e w5 ⟨rfl, hG5⟩)
          go_roundw
          case rel => exact ⟨q + 1, by omega, by go_num, by rw [HN.out]; exact own_G HOW.out (hG5.a _), hG.t (hG5.a _)⟩
          case measure => simp [intOf]; omega
        | some p =>
          obtain ⟨pk, px⟩ := p
          rw [hl] at HBq
          have HN := Lib.hid (bks_some hl)
          rw [show blkV q (some (pk, px)) = #[.int .i64 (q : Nat), .int .i64 (pk : Nat), .int .i64 (px : Nat)] from rfl, show (some (pk, px)).isSome = true from rfl] at HBq
          clear hl HB
          generalize bks l q = T at *
          go_wp2_with (first | (go_at_call 58; refine (HBq.out).mono ?_; rintro e w5 ⟨rfl, hG5⟩) | (at_builtin; refine wpList_append_own _ rfl _ _ 58 rfl w4.heap.size 67 i0 _ 3 24 Tryz.underlying58 hi0 hz0 hz1 hz2 rfl (by decide) _ T.length (bksV T) rfl ?hown ⟨_, 0, none⟩ 1 1 [.int .i64 (q : Nat), .int .i64 (pk : Nat), .int .i64 (px : Nat)] rfl rfl (cells_three6 (Blk.new1 _ _ _ _)) (by simp [Value.oneCell']) (by unfold maxLen; omega) (by omega) ?hbase ?hrest))
          case hown => exact own_G HOW.out ((hG5.a _).a _)
          case hbase => exact ((hG.t (hG5.a _)).a _).size
          case hrest =>
            intro v9 w9 hown9 hg9 _
            have gz9 : G w4 w9 := grow_own ((hG.t (hG5.a _)).a _) (own_G HOW.out ((hG5.a _).a _)) (Nat.le_refl _) hg9
            have HN9 := Lib.hid hown9
            clear hown9 hg9
            go_wp2
            go_roundw
            case rel => exact ⟨q + 1, by omega, by go_num, by rw [HN.out, bksV_snoc, List.length_append]; exact HN9.out, gz9⟩
            case measure => simp [intOf]; omega
      · obtain rfl : n = q := by omega
        have HF := Lib.hid (HO.out wo _ _ (gz.t hG) gz.size HOW.out)
        clear HO HB
        go_wp2
        exact HF.out
  · have hz1 : (Z == 0) = false := by simpa using hz
    have HE := Lib.hid (HER.out _ hz gz)
    clear HOK HER hZ HB
    go_wp2
    exact HE.out
end
end Go.Proofs.YtcekdljjmfkacaaGreat
set_option linter.unusedSimpArgs false
set_option linter.unusedVariables false
namespace Go.Proofs.YtcekdljjmfkacaaGreat
open Go.RowKit
attribute [local go_sem] Oper.semAt_some
/-- how many of the first n spans a minute is not in -/
def agN (c : Nat → Nat → Int) (mi : Int) (n : Nat) : Nat := (List.range n).countP fun i => !isInB mi (c i 0) (c i 1)
theorem agN_succ (c : Nat → Nat → Int) (mi : Int) (n : Nat) : agN c mi (n + 1) = agN c mi n + (if isInB mi (c n 0) (c n 1) = true then 0 else 1) := by
  unfold agN
  rw [List.range_succ, List.countP_append]
  cases h : isInB mi (c n 0) (c n 1) <;> simp [h]
theorem agN_le (c : Nat → Nat → Int) (mi : Int) (n : Nat) : agN c mi n ≤ n := by
  unfold agN
  have := List.countP_le_length (p := fun i => !isInB mi (c i 0) (c i 1)) (l := List.range n)
  simpa using this
section
variable (a : Option Addr) (cap n : Nat) (c : Nat → Nat → Int) (mi : Int) (w : World)
set_option maxHeartbeats 2000000 in
theorem contradicting_any (ha : RowAt w a n 2 c) (hn : n ≤ 1000) : Calls Tryz.prog 65 #[.slice a n cap, .int .i64 mi] w fun e w' => e = .returned (.int .i64 (agN c mi n : Nat)) ∧ G w w' := by
  have HI := Lib.hid (fun (x y z : Int) (W : World) => lIn_any x y z W)
  go_enter Tryz.func65, Tryz.ntmps65
  go_wp2_with fail
  go_loopw [5, 10] (fun v i wr => ∃ q : Nat, q ≤ n ∧ i = .int .i64 q ∧ v = .int .i64 (agN c mi q : Nat) ∧ G w wr) (fun _ i _ => n - (intOf i).toNat)
  case atStart => exact ⟨0, Nat.zero_le _, rfl, rfl, G.rf _⟩
  case round =>
    obtain ⟨q, hq, rfl, rfl, hG⟩ := hrel
    obtain ⟨wo, rfl⟩ : ∃ wo, wo = wr := ⟨_, rfl⟩
    by_cases hlt : q < n
    · have hki : (q : Int) < n := by omega
      rcases ha with h | ⟨g, off, rfl, hg, hcell⟩
      · omega
      have q0 := ((bcellB hG).1 g _ hg).trans (hcell q hlt 0 (by omega))
      rw [Nat.add_zero] at q0
      have q1 := ((bcellB hG).1 g _ hg).trans (hcell q hlt 1 (by omega))
      have lg := Nat.lt_of_lt_of_le hg hG.size
      have hs := agN_succ c mi q
      have hle := agN_le c mi q
      obtain ⟨k, hk⟩ : ∃ k, k = agN c mi q := ⟨_, rfl⟩
      rw [← hk] at hs hle ⊢
      have x1 : IntKind.i64.wrap ((k : Int) + 1) = ((k + 1 : Nat) : Int) := by rw [IntWalk.i64_in _ (by omega)]; rfl
      have HI2 := fun W : World => HI.out mi (c q 0) (c q 1) W
      have hGa : G wo (wo.alloc (.cells #[.int .i64 (c q 0), .int .i64 (c q 1)] 30)) := (G.rf _).a _
      clear hk hcell
      cases hb : isInB mi (c q 0) (c q 1)
      · rw [hb] at hs HI2
        have HS := Lib.hid hs
        have HI3 := Lib.hid HI2
        clear hs hb HI2
        go_wp2_with (go_at_call 70; refine (HI3.out _).mono ?_; rintro e w5 ⟨rfl, hG5⟩)
        go_roundw
        case rel => exact ⟨q + 1, by omega, by go_num, by rw [HS.out]; simp, (hG.t hGa).t hG5⟩
        case measure => simp [intOf]; omega
      · rw [hb] at hs HI2
        have HS := Lib.hid hs
        have HI3 := Lib.hid HI2
        clear hs hb HI2
        go_wp2_with (go_at_call 70; refine (HI3.out _).mono ?_; rintro e w5 ⟨rfl, hG5⟩)
        go_roundw
        case rel => exact ⟨q + 1, by omega, by go_num, by rw [HS.out]; simp, (hG.t hGa).t hG5⟩
        case measure => simp [intOf]; omega
    · obtain rfl : q = n := by omega
      have hki : ¬ ((q : Nat) : Int) < q := by omega
      go_wp2_with fail
      go_ret
      exact ⟨rfl, hG⟩
theorem clos82_any (x y : Int) : Calls Tryz.prog 95 #[.agg #[.int .i64 x, .int .i64 y]] w fun e w' => e = .returned (.bool (!spanB x y 0 9999)) ∧ G w w' := by
  have g0 : G w (w.alloc (.cells #[.int .i64 x, .int .i64 y] 30)) := (G.rf _).a _
  go_enter Tryz.func95, Tryz.ntmps95
  go_wp2_with (go_at_call 69; refine (lSpan_any _ _ _ _ _).mono ?_; rintro e w' ⟨rfl, hG⟩)
  go_ret
  exact ⟨rfl, g0.t hG⟩
def watchB (n : Nat) (c : Nat → Nat → Int) : Bool := isInB n 1 8 && !anyU (fun i => !spanB (c i 0) (c i 1) 0 9999) n
theorem validWatches_any (ha : RowAt w a n 2 c) : Calls Tryz.prog 64 #[.slice a n cap] w fun e w' => e = .returned (.bool (watchB n c)) ∧ G w w' := by
  cases h1 : isInB n 1 8
  · have HV : Hid (watchB n c = false) := by unfold watchB; rw [h1]; rfl
    go_enter Tryz.func64, Tryz.ntmps64
    go_wp2_with (go_at_call 70; refine (lIn_any _ _ _ _).mono ?_; rw [h1]; rintro e w' ⟨rfl, hG⟩)
    go_ret
    exact ⟨by rw [HV.out]; rfl, hG⟩
  · have hn : n ≤ 8 := by unfold isInB at h1; simp at h1; omega
    have HV : Hid (watchB n c = !anyU (fun i => !spanB (c i 0) (c i 1) 0 9999) n) := by unfold watchB; rw [h1]; rfl
    have HC := Lib.hid (fun (W : World) (hW : G w W) => CtSpan_any 95 (enters_of Tryz.func95 (by kernel_rfl) rfl) #[] W a cap n c (fun i => !spanB (c i 0) (c i 1) 0 9999) (by omega) (ha.below hW) (fun W' hW' i hi => clos82_any W' (c i 0) (c i 1)))
    go_enter Tryz.func64, Tryz.ntmps64
    go_wp2_with (first | (go_at_call 70; refine (lIn_any _ _ _ _).mono ?_; rw [h1]; rintro e w1 ⟨rfl, hG1⟩) | (go_at_call 72; refine (HC.out _ hG1).mono ?_; rintro e w2 ⟨rfl, hG2⟩))
    go_ret
    exact ⟨by rw [HV.out]; rfl, hG1.t hG2⟩
end
end Go.Proofs.YtcekdljjmfkacaaGreat
set_option linter.unusedSimpArgs false
set_option linter.unusedVariables false
namespace Go.Proofs.YtcekdljjmfkacaaGreat
open Go.RowKit
attribute [local go_sem] Oper.semAt_some
/-- the minutes below q that all but at most wrong spans have -/
def minL (n : Nat) (c : Nat → Nat → Int) (wrong : Int) (q : Nat) : List Nat := (List.range q).filter fun m : Nat => decide (((agN c m n : Nat) : Int) ≤ wrong)
theorem minL_yes {n : Nat} {c : Nat → Nat → Int} {wrong : Int} {q : Nat} (h : ((agN c q n : Nat) : Int) ≤ wrong) : minL n c wrong (q + 1) = minL n c wrong q ++ [q] := by
  unfold minL
  rw [List.range_succ, List.filter_append]
  simp [h]
theorem minL_no {n : Nat} {c : Nat → Nat → Int} {wrong : Int} {q : Nat} (h : ¬ ((agN c q n : Nat) : Int) ≤ wrong) : minL n c wrong (q + 1) = minL n c wrong q := by
  unfold minL
  rw [List.range_succ, List.filter_append]
  simp [h]
theorem minL_len (n : Nat) (c : Nat → Nat → Int) (wrong : Int) (q : Nat) : (minL n c wrong q).length ≤ q := by
  unfold minL
  have := List.length_filter_le (fun m : Nat => decide (((agN c m n : Nat) : Int) ≤ wrong)) (List.range q)
  simpa using this
def natsV (l : List Nat) : List Value := l.map fun n : Nat => Value.int .i64 (n : Int)
theorem natsV_snoc (l : List Nat) (n : Nat) : natsV (l ++ [n]) = natsV l ++ [.int .i64 (n : Nat)] := by simp [natsV]
theorem resMin (tmps : Array Value) (w : World) (g : Nat) (x y z : Int) (h : tmps.getD 4 undef = .pointer (some ⟨g, 0, none⟩)) (h5 : tmps.getD 5 undef = .int .i64 z) (c0 : w.cell? ⟨g, 0, none⟩ = some (.int .i64 x)) (c1 : w.cell? ⟨g, 1, none⟩ = some (.int .i64 y)) :
    (results Tryz.f29 tmps).run Tryz.prog w = .ok (.tuple #[.agg #[.int .i64 x, .int .i64 y], .int .i64 z]) w := by
  have hr : Tryz.f29.results = #[.cell 4 30, .tmp 5] := rfl
  have h' : tmps[4]?.getD undef = .pointer (some ⟨g, 0, none⟩) := by simpa using h
  have h5' : tmps[5]?.getD undef = .int .i64 z := by simpa using h5
  simp only [results, hr]
  go_simp
section
variable (a : Option Addr) (cap n : Nat) (c : Nat → Nat → Int) (wrong : Int) (w : World)
/-- what Minute answers -/
def minR (n : Nat) (c : Nat → Nat → Int) (wrong : Int) : Value :=
  if (watchB n c && isInB wrong 0 8) = false then .tuple #[.agg #[.int .i64 0, .int .i64 0], .int .i64 62]
  else match minL n c wrong 10000 with
    | [] => .tuple #[.agg #[.int .i64 0, .int .i64 0], .int .i64 3]
    | x :: l => .tuple #[.agg #[.int .i64 (x : Nat), .int .i64 ((x :: l).getLast (by simp) : Nat)], .int .i64 0]
set_option maxRecDepth 100000 in
set_option maxHeartbeats 4000000 in
theorem Minute_ok (ha : RowAt w a n 2 c) (hv : watchB n c = true) (hw : isInB wrong 0 8 = true) : Calls Tryz.prog 29 #[.slice a n cap, .int .i64 wrong] w fun e w' => e = .returned (minR n c wrong) ∧ G w w' := by
  have hn : n ≤ 8 := by
    unfold watchB isInB at hv
    simp at hv
    omega
  have HV := Lib.hid (fun (W : World) (hW : G w W) => by have h := validWatches_any a cap n c W (ha.below hW); rw [hv] at h; exact h)
  have HU := Lib.hid (fun W : World => by have h := lUpTo_any wrong 8 W; rw [hw] at h; exact h)
  have HC := Lib.hid (fun (W : World) (hW : G w W) (m : Nat) => contradicting_any a cap n c m W (ha.below hW) (by omega))
  have HR : Hid (minR n c wrong = match minL n c wrong 10000 with
    | [] => .tuple #[.agg #[.int .i64 0, .int .i64 0], .int .i64 3]
    | x :: l => .tuple #[.agg #[.int .i64 (x : Nat), .int .i64 ((x :: l).getLast (by simp) : Nat)], .int .i64 0]) := by
    unfold minR Hid
    rw [hv, hw, if_neg (by simp)]
  generalize minR n c wrong = RR at *
  clear hv hw ha
  have g0 : G w (w.alloc (.cells #[.int .i64 0, .int .i64 0] 30)) := (G.rf _).a _
  have b0 := Blk.new w 30 #[.int .i64 0, .int .i64 0]
  go_enter Tryz.func29, Tryz.ntmps29
  go_wp2_with (first | (go_at_call 64; refine (HV.out _ g0).mono ?_; rintro e w1 ⟨rfl, hG1⟩) | (go_at_call 50; refine (HU.out _).mono ?_; rintro e w2 ⟨rfl, hG2⟩))
  replace g0 := (g0.t hG1).t hG2
  replace b0 := b0.keep (hG1.t hG2)
  clear hG1 HV HU
  obtain ⟨i0, hi0, hz0, hz1, hz2⟩ := info_parts info3
  go_loopw [6, 17] (fun v i wr => ∃ q : Nat, q ≤ 10000 ∧ i = .int .i64 q ∧ wr.ownsRow w2.heap.size 3 1 v (minL n c wrong q).length (natsV (minL n c wrong q)) ∧ G w2 wr) (fun _ i _ => 10000 - (intOf i).toNat)
  case atStart => exact ⟨0, Nat.zero_le _, rfl, World.ownsRow_nil _ _ _ _, G.rf _⟩
  case round =>
    obtain ⟨q, hq, rfl, ho, hG⟩ := hrel
    obtain ⟨wo, rfl⟩ : ∃ wo, wo = wr := ⟨_, rfl⟩
    have HO := Lib.hid ho
    clear ho
    by_cases hlt : q < 10000
    · have hki : (q : Int) < 10000 := by omega
      have HLN := Lib.hid (minL_len n c wrong q)
      have HC2 := Lib.hid (HC.out wo (g0.t hG) q)
      have hy := minL_yes (n := n) (c := c) (wrong := wrong) (q := q)
      have hno := minL_no (n := n) (c := c) (wrong := wrong) (q := q)
      by_cases hle : ((agN c q n : Nat) : Int) ≤ wrong
      · have HM := Lib.hid (hy hle)
        clear hy hno HC
        generalize agN c q n = ag at *
        obtain ⟨T, hT⟩ : ∃ T, T = minL n c wrong q := ⟨_, rfl⟩
        rw [← hT] at HO HLN HM
        have HT := Lib.hid hT
        clear hT
        have hlen := HLN.out
        go_wp2_with (first | (go_at_call 65; refine (HC2.out).mono ?_; rintro e w5 ⟨rfl, hG5⟩) | (at_builtin; refine wpList_append_own _ rfl _ _ 22 rfl w2.heap.size 3 i0 (.int .i64 0) 1 8 Tryz.underlying22 hi0 hz0 hz1 hz2 rfl (by decide) _ T.length (natsV T) rfl ?hown ⟨_, 0, none⟩ 1 1 [.int .i64 (q : Nat)] rfl rfl (cell_one_new _ _ _) (by simp [Value.oneCell']) (by unfold maxLen; omega) (by omega) ?hbase ?hrest))
        case hown => exact own_G HO.out (hG5.a _)
        case hbase => exact ((hG.t hG5).a _).size
        case hrest =>
          intro v9 w9 hown9 hg9 _
          have gz : G w2 w9 := grow_own (hG.t (hG5.a _)) (own_G HO.out (hG5.a _)) (Nat.le_refl _) hg9
          have HN := Lib.hid hown9
          clear hown9 hg9
          go_wp2
          go_roundw
          case rel => exact ⟨q + 1, by omega, by go_num, by rw [HM.out, natsV_snoc, List.length_append]; exact HN.out, gz⟩
          case measure => simp [intOf]; omega
      · have HM := Lib.hid (hno hle)
        clear hy hno HC
        generalize agN c q n = ag at *
        go_wp2_with (go_at_call 65; refine (HC2.out).mono ?_; rintro e w5 ⟨rfl, hG5⟩)
        go_roundw
        case rel => exact ⟨q + 1, by omega, by go_num, by rw [HM.out]; exact own_G HO.out hG5, hG.t hG5⟩
        case measure => simp [intOf]; omega
    · obtain rfl : q = 10000 := by omega
      have hki : ¬ ((10000 : Nat) : Int) < 10000 := by omega
      have hb := b0.keep hG
      have hGw := g0.t hG
      obtain ⟨T, hT⟩ : ∃ T, T = minL n c wrong 10000 := ⟨_, rfl⟩
      have hlen : T.length ≤ 10000 := by rw [hT]; exact minL_len n c wrong 10000
      rw [← hT] at HO HR
      clear hT HC b0 g0
      have f0 := hb.cell 0
      have f1 := hb.cell 1
      have z0 := hb.frozen 0
      have z1 := hb.frozen 1
      have l0 := hb.lt
      cases T with
      | nil =>
        obtain ⟨ra, rc, rfl⟩ := own_slice HO.out
        simp only [List.length_nil]
        go_wp2_with fail
        have hb2 : Blk ((wo.setCell ⟨w.heap.size, 0, none⟩ (.int .i64 0)).setCell ⟨w.heap.size, 1, none⟩ (.int .i64 0)) w.heap.size 30 #[.int .i64 0, .int .i64 0] := (hb.set_ 0 _).set_ 1 _
        exact bodyPost_ret (resMin _ _ w.heap.size 0 0 3 rfl rfl (hb2.cell 0) (hb2.cell 1)) rfl ⟨by rw [HR.out], (hGw.s (p := ⟨w.heap.size, 0, none⟩) (Nat.le_refl _) _).s (p := ⟨w.heap.size, 1, none⟩) (Nat.le_refl _) _⟩
      | cons x l =>
        obtain ⟨g, cp, cur, rfl, hbT, hgT, htT⟩ := own_some HO.out (by simp)
        obtain ⟨lst, hlst⟩ : ∃ lst, lst = (x :: l).getLast (by simp) := ⟨_, rfl⟩
        have hc0 := take_cell hbT htT (k := 0) (by simp) (show (natsV (x :: l))[0]? = some (.int .i64 (x : Nat)) from rfl)
        have hc1 := take_cell hbT htT (k := l.length) (by simp) (show (natsV (x :: l))[l.length]? = some (.int .i64 (lst : Nat)) by
          rw [hlst]
          unfold natsV
          rw [List.getElem?_map]
          simp [List.getLast_eq_getElem])
        have HR2 : Hid (RR = .tuple #[.agg #[.int .i64 (x : Nat), .int .i64 (lst : Nat)], .int .i64 0]) := by rw [hlst]; exact HR.out
        clear hlst htT hbT HR HO
        obtain ⟨n1, hn1⟩ : ∃ n1, n1 = (x :: l).length := ⟨_, rfl⟩
        obtain ⟨m, hm⟩ : ∃ m, m = l.length := ⟨_, rfl⟩
        rw [← hm] at hc1
        have hmn : m < n1 := by rw [hm, hn1]; simp
        have x1 : IntKind.i64.wrap ((n1 : Int) - 1) = (m : Int) := by rw [IntWalk.i64_in _ (by rw [hn1]; simp; omega), hn1, hm]; simp
        rw [← hn1]
        have hn0 : ((n1 : Int) == 0) = false := by simp; omega
        have hp0 : 0 < n1 := by omega
        have hmi : (m : Int) < n1 := by omega
        clear hn1 hm hlen
        go_wp2_with fail
        have hSk : ∀ W', G wo W' → W'.cell? ⟨g, 0, none⟩ = some (.int .i64 (x : Nat)) ∧ W'.cell? ⟨g, m, none⟩ = some (.int .i64 (lst : Nat)) := fun W' h => ⟨((bcellB h).1 _ _ hgT).trans hc0, ((bcellB h).1 _ _ hgT).trans hc1⟩
        refine wp_region_Y (S := fun W' => W'.cell? ⟨g, 0, none⟩ = some (.int .i64 (x : Nat)) ∧ W'.cell? ⟨g, m, none⟩ = some (.int .i64 (lst : Nat))) 10 12 rfl (by kernel_rfl) (hSk _ (G.rf _).d) (fun hS => ?_)
        refine wpAnyY_take (i := 0) (v := ?_) rfl (by kernel_rfl) (by kernel_rfl) (by kernel_rfl) (by kernel_rfl) (fun _ _ _ h => h) (Or.inl ⟨by kernel_rfl, ?_⟩) hS ?_
        rotate_left
        · intro w' hSw; go_simp; with_reducible rfl
        try simp only [Act.put, List.getElem_toArray, List.getElem_cons_zero, List.getElem_cons_succ, List.setIfInBounds_toArray, List.set_cons_zero, List.set_cons_succ]
        refine wpAnyY_take (i := 1) (v := ?_) rfl (by kernel_rfl) (by kernel_rfl) (by kernel_rfl) (by kernel_rfl) (fun _ _ _ h => h) (Or.inl ⟨by kernel_rfl, ?_⟩) hS ?_
        rotate_left
        · intro w' hSw; go_simp; with_reducible rfl
        try simp only [Act.put, List.getElem_toArray, List.getElem_cons_zero, List.getElem_cons_succ, List.setIfInBounds_toArray, List.set_cons_zero, List.set_cons_succ]
        refine wpAnyY_take (i := 2) (v := ?_) rfl (by kernel_rfl) (by kernel_rfl) (by kernel_rfl) (by kernel_rfl) (fun _ _ _ h => h) (Or.inl ⟨by kernel_rfl, ?_⟩) hS ?_
        rotate_left
        · intro w' hSw; obtain ⟨y0, y1⟩ := hSw; go_simp; with_reducible rfl
        try simp only [Act.put, List.getElem_toArray, List.getElem_cons_zero, List.getElem_cons_succ, List.setIfInBounds_toArray, List.set_cons_zero, List.set_cons_succ]
        refine wpAnyY_take (i := 3) (v := ?_) rfl (by kernel_rfl) (by kernel_rfl) (by kernel_rfl) (by kernel_rfl) (fun _ _ _ h => h) (Or.inl ⟨by kernel_rfl, ?_⟩) hS ?_
        rotate_left
        · intro w' hSw; go_simp; with_reducible rfl
        try simp only [Act.put, List.getElem_toArray, List.getElem_cons_zero, List.getElem_cons_succ, List.setIfInBounds_toArray, List.set_cons_zero, List.set_cons_succ]
        refine wpAnyY_take (i := 4) (v := ?_) rfl (by kernel_rfl) (by kernel_rfl) (by kernel_rfl) (by kernel_rfl) (fun _ _ _ h => h) (Or.inl ⟨by kernel_rfl, ?_⟩) hS ?_
        rotate_left
        · intro w' hSw; go_simp; with_reducible rfl
        try simp only [Act.put, List.getElem_toArray, List.getElem_cons_zero, List.getElem_cons_succ, List.setIfInBounds_toArray, List.set_cons_zero, List.set_cons_succ]
        refine wpAnyY_take (i := 5) (v := ?_) rfl (by kernel_rfl) (by kernel_rfl) (by kernel_rfl) (by kernel_rfl) (fun _ _ _ h => h) (Or.inl ⟨by kernel_rfl, ?_⟩) hS ?_
        rotate_left
        · intro w' hSw; go_simp; with_reducible rfl
        try simp only [Act.put, List.getElem_toArray, List.getElem_cons_zero, List.getElem_cons_succ, List.setIfInBounds_toArray, List.set_cons_zero, List.set_cons_succ]
        refine wpAnyY_take (i := 6) (v := ?_) rfl (by kernel_rfl) (by kernel_rfl) (by kernel_rfl) (by kernel_rfl) (fun _ _ _ h => h) (Or.inl ⟨by kernel_rfl, ?_⟩) hS ?_
        rotate_left
        · intro w' hSw; go_simp; with_reducible rfl
        try simp only [Act.put, List.getElem_toArray, List.getElem_cons_zero, List.getElem_cons_succ, List.setIfInBounds_toArray, List.set_cons_zero, List.set_cons_succ]
        refine wpAnyY_take (i := 7) (v := ?_) rfl (by kernel_rfl) (by kernel_rfl) (by kernel_rfl) (by kernel_rfl) (fun _ _ _ h => h) (Or.inl ⟨by kernel_rfl, ?_⟩) hS ?_
        rotate_left
        · intro w' hSw; go_simp; with_reducible rfl
        try simp only [Act.put, List.getElem_toArray, List.getElem_cons_zero, List.getElem_cons_succ, List.setIfInBounds_toArray, List.set_cons_zero, List.set_cons_succ]
        refine wpAnyY_take (i := 8) (v := ?_) rfl (by kernel_rfl) (by kernel_rfl) (by kernel_rfl) (by kernel_rfl) (fun _ _ _ h => h) (Or.inl ⟨by kernel_rfl, ?_⟩) hS ?_
        rotate_left
        · intro w' hSw; obtain ⟨y0, y1⟩ := hSw; go_simp; with_reducible rfl
        try simp only [Act.put, List.getElem_toArray, List.getElem_cons_zero, List.getElem_cons_succ, List.setIfInBounds_toArray, List.set_cons_zero, List.set_cons_succ]
        refine wpAnyY_take (i := 9) (v := ?_) rfl (by kernel_rfl) (by kernel_rfl) (by kernel_rfl) (by kernel_rfl) (fun _ _ _ h => h) (Or.inl ⟨by kernel_rfl, ?_⟩) hS ?_
        rotate_left
        · intro w' hSw; go_simp; with_reducible rfl
        try simp only [Act.put, List.getElem_toArray, List.getElem_cons_zero, List.getElem_cons_succ, List.setIfInBounds_toArray, List.set_cons_zero, List.set_cons_succ]
        refine wpAnyY_oneW (i := 10) (by kernel_rfl) rfl (by kernel_rfl) (by kernel_rfl) (fun K10 hK10 => ?_)
        have hbd := hb.keep (G.rf wo).d
        have f0 := hbd.cell 0
        have f1 := hbd.cell 1
        have z0 := hbd.frozen 0
        have z1 := hbd.frozen 1
        have l0 := hbd.lt
        go_simp
        refine hK10.out _ _ ?_
        try simp only [Act.put, List.getElem_toArray, List.getElem_cons_zero, List.getElem_cons_succ, List.setIfInBounds_toArray, List.set_cons_zero, List.set_cons_succ]
        refine wpAnyY_oneW (i := 11) (by kernel_rfl) rfl (by kernel_rfl) (by kernel_rfl) (fun K11 hK11 => ?_)
        go_simp
        refine hK11.out _ _ ?_
        try simp only [Act.put, List.getElem_toArray, List.getElem_cons_zero, List.getElem_cons_succ, List.setIfInBounds_toArray, List.set_cons_zero, List.set_cons_succ]
        refine wpAnyY_done (by kernel_rfl) ?_ _
        have hb2 : Blk ((wo.drew.setCell ⟨w.heap.size, 0, none⟩ (.int .i64 (x : Nat))).setCell ⟨w.heap.size, 1, none⟩ (.int .i64 (lst : Nat))) w.heap.size 30 #[.int .i64 (x : Nat), .int .i64 (lst : Nat)] := (hbd.set_ 0 _).set_ 1 _
        have hGG := (hGw.d.s (p := ⟨w.heap.size, 0, none⟩) (Nat.le_refl _) (.int .i64 (x : Nat))).s (p := ⟨w.heap.size, 1, none⟩) (Nat.le_refl _) (.int .i64 (lst : Nat))
        clear hS hSk hK10 hK11 f0 f1 z0 z1 l0
        go_wp2_with fail
        exact bodyPost_ret (resMin _ _ w.heap.size _ _ _ rfl rfl (hb2.cell 0) (hb2.cell 1)) rfl ⟨by rw [HR2.out], hGG⟩
end
end Go.Proofs.YtcekdljjmfkacaaGreat
set_option linter.unusedSimpArgs false
set_option linter.unusedVariables false
namespace Go.Proofs.YtcekdljjmfkacaaGreat
open Go.RowKit Go.Shelf
attribute [local go_sem] Oper.semAt_some wide_fn wide_dep wideR_fn wideR_dep
namespace Rl
variable (r : Rl)
/-- the fronts do not contradict each other -/
def goodB : Bool := (List.range r.east.length).all fun y => (List.range r.cols).all fun x => (List.range r.hours).all fun t => !skNone (known r.f x y t r.k)
theorem good_iff : r.goodB = true ↔ r.good := by
  unfold goodB good GoodTo
  constructor
  · intro h x y t s hs
    unfold SD at hs
    split at hs
    · rename_i hd
      cases hs
      unfold doneB at hd
      simp only [decide_eq_true_eq] at hd
      obtain ⟨hx0, hx1, hy0, hy1, ht0, ht1, _⟩ := hd
      have h1 := List.all_eq_true.1 h y.toNat (List.mem_range.2 (by omega))
      have h2 := List.all_eq_true.1 h1 x.toNat (List.mem_range.2 (by omega))
      have h3 := List.all_eq_true.1 h2 t.toNat (List.mem_range.2 (by omega))
      rw [Int.toNat_of_nonneg hx0, Int.toNat_of_nonneg hy0, Int.toNat_of_nonneg ht0] at h3
      simpa using h3
    · cases hs
  · intro h
    refine List.all_eq_true.2 fun y hy => List.all_eq_true.2 fun x hx => List.all_eq_true.2 fun t ht => ?_
    have := h x y t (known r.f x y t r.k) (by
      unfold SD
      rw [if_pos]
      unfold doneB
      have h1 := List.mem_range.1 hy
      have h2 := List.mem_range.1 hx
      have h3 := List.mem_range.1 ht
      simp only [decide_eq_true_eq]
      omega)
    simp [this]
/-- the error of a question about a valid release -/
def err : Int := if r.goodB = true then 0 else 3
end Rl
theorem rQuestion_R {r : Rl} {w : World} (h : r.Ok w) : Calls Tryz.prog 48 #[.agg r.v, .bool true] w (QR w r.err r.Fc) := by
  refine (rQuestion_ok h).mono fun e w' hq => ?_
  rcases hq with ⟨h1, h2, h3⟩ | ⟨h1, F, h2, h3, h4⟩
  · have hb : r.goodB = false := by
      cases hg : r.goodB
      · rfl
      · exact absurd (r.good_iff.1 hg) h1
    have he : r.err = 3 := by unfold Rl.err; rw [hb]; rfl
    rw [he]
    exact ⟨_, h2, h3, fun h => by cases h⟩
  · have he : r.err = 0 := by unfold Rl.err; rw [r.good_iff.2 h1]; rfl
    rw [he]
    exact ⟨_, h2, h3, fun _ => ⟨F, rfl, h4⟩⟩
theorem rIs (r : Rl) : IsRel r.v := ⟨_, _, _, _, _, _, _, _, _, _, _, _, _, _, _, _, _, _, _, _, _, _, _, _, _, rfl⟩
theorem rHome (r : Rl) (i : Int) (w : World) (hn : r.n ≤ 6) : Calls Tryz.prog 39 #[.agg r.v, .int .i64 i] w fun e w' => e = .returned (.bool (isInB i 0 ((r.n : Int) - 1))) ∧ G w w' := by
  show Calls Tryz.prog 39 #[.agg #[.int .i64 r.north, .int .i64 (r.cols : Nat), .slice r.ea r.east.length r.ec, .int .i64 (r.lofts : Nat), .slice r.sa r.svs.length r.sc, .int .i64 r.wrong, .int .i64 (r.bx : Nat), .int .i64 (r.bY : Nat), .slice r.ha r.n r.hc, .int .i64 (r.sl : Nat), .int .i64 (r.sh : Nat), .slice r.fa r.k r.fc, .int .i64 r.lw, .int .i64 r.lg, .int .i64 r.lh, .int .i64 (r.hours : Nat), .int .i64 (r.dark : Nat)], .int .i64 i] w _
  exact isHome_any _ _ _ _ _ _ _ _ _ _ _ _ _ _ _ _ _ _ r.n r.ha r.hc i w (by omega)
theorem rMinute (i : Int) (w : World) : Calls Tryz.prog 43 #[.int .i64 i] w fun e w' => e = .returned (.bool (isInB i 0 9999)) ∧ G w w' := lMinute_any i w
theorem Fc_8 {r : Rl} {W : World} {F : Nat} (h : r.Fc W F) : W.cell? ⟨F, 8, none⟩ = some (.slice r.ha r.n r.hc) ∧ F < W.heap.size := by
  obtain ⟨m, cnt, v, wl, B, h1, h2, h3, h4⟩ := h
  exact ⟨(h1.cell 8).trans rfl, h1.lt⟩
/-- what safe answers of a release -/
def Rl.safe (r : Rl) (hi mi : Nat) : Int := safeN r.S r.lim (r.st hi) mi r.hours (r.ns hi)
def Rl.blk (r : Rl) (mi : Nat) (i : Nat) : Option (Nat × Nat) := blkR r.S r.lim (r.st i) mi r.hours (r.ns i)
theorem rSafe_ok {r : Rl} {w : World} (h : r.Ok w) {hi mi : Nat} (hh : hi < r.n) (hm : mi ≤ 9999) : Calls Tryz.prog 20 #[.agg r.v, .int .i64 (hi : Nat), .int .i64 (mi : Nat)] w (TwoPost w r.err (.int .i64 (r.safe hi mi)) (.int .i64 0)) := by
  have hn := h.nums.many
  refine Safe_walk hi mi r.err (r.safe hi mi) true true r.v r.Fc w (rIs r) (fun W => ?_) (fun W => ?_) (fun W hW => rQuestion_R (h.keep hW)) (fun W F hW hF => ?_)
  · have := rHome r hi W hn
    rwa [show isInB (hi : Int) 0 ((r.n : Int) - 1) = true by simp [isInB]; omega] at this
  · have := rMinute mi W
    rwa [show isInB (mi : Int) 0 9999 = true by simp [isInB]; omega] at this
  · exact Fc_safe hF (h.keep hW) hh (by omega)
theorem rBlocks_ok {r : Rl} {w : World} (h : r.Ok w) {mi : Nat} (hm : mi ≤ 9999) : Calls Tryz.prog 22 #[.agg r.v, .int .i64 (mi : Nat)] w (BkPost w r.err (bks (r.blk mi) r.n)) := by
  refine Blocks_walk mi r.err true r.v r.Fc (r.blk mi) r.ha r.n r.hc w (rIs r) (fun W => ?_) (fun W hW => rQuestion_R (h.keep hW)) (fun W W' F hF hG => hF.keep hG) (fun W F hF => Fc_8 hF) h.nums.many (fun W F i hW hF hi => ?_)
  · have := rMinute mi W
    rwa [show isInB (mi : Int) 0 9999 = true by simp [isInB]; omega] at this
  · exact Fc_block hF (h.keep hW) hi (by omega)
/-- the chapter's release -/
def exR (gE gS gH gF : Nat) : Rl := { north := 1000, wrong := 0, lw := 40, lg := 8, lh := 30, cols := 4, lofts := 2, bx := 0, bY := 0, sl := 400, sh := 800, hours := 2, dark := 110, east := exEast, svs := exSvs, n := 2, k := 3, hx := fun i => if i = 0 then 3 else 2, hy := fun i => if i = 0 then 0 else 2, f := exF, ea := some ⟨gE, 0, none⟩, sa := some ⟨gS, 0, none⟩, ha := some ⟨gH, 0, none⟩, fa := some ⟨gF, 0, none⟩, ec := 3, sc := 4, hc := 2, fc := 3 }
theorem exR_v (gE gS gH gF : Nat) : exRel gE gS gH gF = (exR gE gS gH gF).v := rfl
theorem exR_ok {gE gS gH gF : Nat} {w : World} (hE : IntsAt w (some ⟨gE, 0, none⟩) exEast) (hS : SvsAt w (some ⟨gS, 0, none⟩) exSvs) (hH : Blk w gH 27 #[.int .i64 3, .int .i64 0, .int .i64 2, .int .i64 2]) (hF : Blk w gF 71 exFronts) : (exR gE gS gH gF).Ok w := by
  have e : ∀ i, i < 2 → ∀ j, j < 2 → exH i j = (exR gE gS gH gF).h i j := fun i hi j hj => by
    match i, hi, j, hj with
    | 0, _, 0, _ => rfl
    | 0, _, 1, _ => rfl
    | 1, _, 0, _ => rfl
    | 1, _, 1, _ => rfl
  refine ⟨hE, hS, ex_check0, ⟨ex_rel.base, ex_rel.many, fun i hi => ?_, ex_rel.speed, ex_rel.wind, ex_rel.sight, ex_rel.heat, ex_rel.hrs, ex_rel.drk⟩, ?_, exF_row hF, (by show 3 ≤ 12; omega), ex_fronts⟩
  · rw [← e i hi 0 (by omega), ← e i hi 1 (by omega)]
    exact ex_rel.homes i hi
  · rcases exH_row hH with h | ⟨g, off, h1, h2, h3⟩
    · cases h
    · refine .inr ⟨g, off, h1, h2, fun i hi j hj => ?_⟩
      rw [h3 i hi j hj, e i hi j hj]
theorem exR_good (gE gS gH gF : Nat) : (exR gE gS gH gF).err = 0 := by
  show (exR 0 0 0 0).err = 0
  decide +kernel
theorem exR_safe (gE gS gH gF : Nat) : (exR gE gS gH gF).safe 0 60 = 2 := by
  show (exR 0 0 0 0).safe 0 60 = 2
  decide +kernel
theorem exR_blk (gE gS gH gF : Nat) : bks ((exR gE gS gH gF).blk 57) 2 = [(0, 1, 60), (1, 0, 60)] := by
  show bks ((exR 0 0 0 0).blk 57) 2 = [(0, 1, 60), (1, 0, 60)]
  decide +kernel
def exW (i r : Nat) : Int := ([5, 9, 8, 12, 20, 30] : List Int).getD (i * 2 + r) 0
theorem exW_min : minR 3 exW 1 = .tuple #[.agg #[.int .i64 8, .int .i64 9], .int .i64 0] := by
  have h : minL 3 exW 1 10000 = [8, 9] := by decide +kernel
  unfold minR
  rw [show (watchB 3 exW && isInB 1 0 8) = true by decide +kernel, h]
  rfl
theorem exW_row {W : World} {g : Nat} (h : Blk W g 30 #[.int .i64 5, .int .i64 9, .int .i64 8, .int .i64 12, .int .i64 20, .int .i64 30]) : RowAt W (some ⟨g, 0, none⟩) 3 2 exW := .inr ⟨_, 0, rfl, h.lt, fun i hi r hr => by
  rw [Nat.zero_add, h.cell]
  have : i * 2 + r < 6 := by omega
  unfold exW
  generalize i * 2 + r = q at *
  match q, this with
  | 0, _ => rfl
  | 1, _ => rfl
  | 2, _ => rfl
  | 3, _ => rfl
  | 4, _ => rfl
  | 5, _ => rfl⟩
end Go.Proofs.YtcekdljjmfkacaaGreat
