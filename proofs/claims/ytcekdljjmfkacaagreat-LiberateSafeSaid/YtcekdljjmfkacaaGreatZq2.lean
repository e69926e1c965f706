import Derived.Test.YtcekdljjmfkacaaGreatXd
set_option linter.unusedSimpArgs false
set_option linter.unusedVariables false
namespace Go.Proofs.YtcekdljjmfkacaaGreat
open Go.RowKit Go.Shelf
attribute [local go_sem] Oper.semAt_some wide_fn wide_dep wideR_fn wideR_dep
section
variable (mi : Int) (Z : Int) (b2 : Bool) (REL : Array Value) (FcP : World → Nat → Prop) (l : Nat → Option (Nat × Nat)) (ha : Option Addr) (n hc : Nat) (w : World)
set_option maxRecDepth 100000 in
set_option maxHeartbeats 4000000 in
theorem Blocks_walkI (hIs : IsRel REL) (hM : ∀ W, Calls Tryz.prog 43 #[.int .i64 mi] W fun e w' => e = .returned (.bool b2) ∧ G W w')
    (hQ : ∀ W, G w W → Calls Tryz.prog 48 #[.agg REL, .bool b2] W (QR W Z FcP)) (hK : ∀ W W' F, FcP W F → G W W' → FcP W' F) (h8 : ∀ W F, FcP W F → W.cell? ⟨F, 8, none⟩ = some (.slice ha n hc) ∧ F < W.heap.size) (hn : n ≤ 6)
    (hB : ∀ W F i, G w W → FcP W F → i < n → Calls Tryz.prog 58 #[.pointer (some ⟨F, 0, none⟩), .int .i64 (i : Nat), .int .i64 mi] W fun e w' => e = .returned (.tuple #[.agg (blkV i (l i)), .bool (l i).isSome]) ∧ G W w') :
    Calls Tryz.prog 22 #[.agg REL, .int .i64 mi] w (BkPost w Z (bks l n)) := by
  have HIS := Lib.hid hIs
  have HM := Lib.hid hM
  have HQ := Lib.hid hQ
  have HB := Lib.hid hB
  have HK := Lib.hid hK
  have H8 := Lib.hid h8
  clear hM hQ hB hIs hK h8
  have HOK : Hid (∀ w' v B, Z = 0 → G w w' → w.heap.size ≤ B → w'.ownsRow B 67 3 v (bks l n).length (bksV (bks l n)) → BkPost w Z (bks l n) (.returned (.tuple #[v, .int .i64 0])) w') := fun w' v B h a b c => ⟨a, .inl ⟨h, v, B, rfl, b, c⟩⟩
  have HER : Hid (∀ w', Z ≠ 0 → G w w' → BkPost w Z (bks l n) (.returned (.tuple #[.slice none 0 0, .int .i64 Z])) w') := fun w' h a => ⟨a, .inr ⟨h, rfl⟩⟩
  generalize BkPost w Z (bks l n) = PP at *
  have g0 : G w (w.alloc (.cells REL 35)) := (G.rf _).a _
  have b0 : Blk (w.alloc (.cells REL 35)) w.heap.size 35 REL := Blk.new w 35 REL
  go_enter Tryz.func22, Tryz.ntmps22
  go_upto_region 1 with fail
  change Code.wp _ _ _ _ (w.alloc (.cells REL 35))
  generalize w.alloc (.cells REL 35) = w1 at *
  refine wp_region_Y (S := fun W' => Blk W' w.heap.size 35 REL) 8 9 rfl (by kernel_rfl) (b0.keep (G.rf _).d) (fun hS => ?_)
  have ga := (G.rf w1).d
  refine wpAnyY_take (i := 0) (v := .agg REL) rfl (by kernel_rfl) (by kernel_rfl) (by kernel_rfl) (by kernel_rfl) (fun _ _ _ h => h) (Or.inl ⟨by kernel_rfl, ?_⟩) hS ?_
  · intro w' hSw; exact load46o w' w.heap.size 2 HIS.out _ _ rfl (by kernel_rfl) hSw
  try simp only [Act.put, List.getElem_toArray, List.getElem_cons_zero, List.getElem_cons_succ, List.setIfInBounds_toArray, List.set_cons_zero, List.set_cons_succ]
  refine wpAnyY_take (i := 1) (v := ?_) rfl (by kernel_rfl) (by kernel_rfl) (by kernel_rfl) (by kernel_rfl) (fun _ _ _ h => h) (Or.inl ⟨by kernel_rfl, ?_⟩) hS ?_
  rotate_left
  · intro w' hSw; go_simp; with_reducible rfl
  try simp only [Act.put, List.getElem_toArray, List.getElem_cons_zero, List.getElem_cons_succ, List.setIfInBounds_toArray, List.set_cons_zero, List.set_cons_succ]
  refine wpAnyY_oneSW (i := 2) (by kernel_rfl) rfl (by kernel_rfl) (fun K2 hK2 => ?_)
  go_simp
  refine (HM.out _).mono ?_
  rintro e w2 ⟨rfl, hG2⟩
  replace ga := ga.t hG2
  refine hK2.out _ _ (b0.keep ga) (fun hS => ?_)
  try simp only [Act.put, List.getElem_toArray, List.getElem_cons_zero, List.getElem_cons_succ, List.setIfInBounds_toArray, List.set_cons_zero, List.set_cons_succ]
  refine wpAnyY_oneSW (i := 3) (by kernel_rfl) rfl (by kernel_rfl) (fun K3 hK3 => ?_)
  go_simp
  refine (HQ.out _ (g0.t ga)).mono ?_
  rintro e w4 ⟨p, rfl, hG3, hZ⟩
  replace ga := ga.t hG3
  refine hK3.out _ _ (b0.keep ga) (fun hS => ?_)
  try simp only [Act.put, List.getElem_toArray, List.getElem_cons_zero, List.getElem_cons_succ, List.setIfInBounds_toArray, List.set_cons_zero, List.set_cons_succ]
  refine wpAnyY_take (i := 4) (v := ?_) rfl (by kernel_rfl) (by kernel_rfl) (by kernel_rfl) (by kernel_rfl) (fun _ _ _ h => h) (Or.inl ⟨by kernel_rfl, ?_⟩) hS ?_
  rotate_left
  · intro w' hSw; go_simp; with_reducible rfl
  try simp only [Act.put, List.getElem_toArray, List.getElem_cons_zero, List.getElem_cons_succ, List.setIfInBounds_toArray, List.set_cons_zero, List.set_cons_succ]
  refine wpAnyY_take (i := 5) (v := ?_) rfl (by kernel_rfl) (by kernel_rfl) (by kernel_rfl) (by kernel_rfl) (fun _ _ _ h => h) (Or.inl ⟨by kernel_rfl, ?_⟩) hS ?_
  rotate_left
  · intro w' hSw; go_simp; with_reducible rfl
  try simp only [Act.put, List.getElem_toArray, List.getElem_cons_zero, List.getElem_cons_succ, List.setIfInBounds_toArray, List.set_cons_zero, List.set_cons_succ]
  refine wpAnyY_take (i := 6) (v := ?_) rfl (by kernel_rfl) (by kernel_rfl) (by kernel_rfl) (by kernel_rfl) (fun _ _ _ h => h) (Or.inl ⟨by kernel_rfl, ?_⟩) hS ?_
  rotate_left
  · intro w' hSw; go_simp; with_reducible rfl
  try simp only [Act.put, List.getElem_toArray, List.getElem_cons_zero, List.getElem_cons_succ, List.setIfInBounds_toArray, List.set_cons_zero, List.set_cons_succ]
  refine wpAnyY_oneSW (i := 7) (by kernel_rfl) rfl (by kernel_rfl) (fun K7 hK7 => ?_)
  go_simp
  refine hK7.out _ _ (b0.keep ga) (fun hS => ?_)
  try simp only [Act.put, List.getElem_toArray, List.getElem_cons_zero, List.getElem_cons_succ, List.setIfInBounds_toArray, List.set_cons_zero, List.set_cons_succ]
  refine wpAnyY_oneW (i := 8) (by kernel_rfl) rfl (by kernel_rfl) (by kernel_rfl) (fun K8 hK8 => ?_)
  go_simp
  refine hK8.out _ _ ?_
  try simp only [Act.put, List.getElem_toArray, List.getElem_cons_zero, List.getElem_cons_succ, List.setIfInBounds_toArray, List.set_cons_zero, List.set_cons_succ]
  refine wpAnyY_done (by kernel_rfl) ?_ _
  have gz := g0.t ga
  clear b0 hS HM HQ HIS g0 ga
  by_cases hz : Z = 0
  · obtain ⟨F, rfl, hfc⟩ := hZ hz
    subst hz
    have HO := Lib.hid (fun w' v B h => HOK.out w' v B rfl h)
    clear HOK HER hZ
    obtain ⟨f8, lF⟩ := H8.out _ _ hfc
    have HFc := Lib.hid hfc
    clear hfc
    obtain ⟨i0, hi0, hz0, hz1, hz2⟩ := info_parts info73
    go_wp2_with fail
    clear f8 lF
    go_loopw [8, 9, 10, 11, 28] (fun v u9 u10 u11 i wr => ∃ q : Nat, q ≤ n ∧ i = .int .i64 q ∧ wr.ownsRow w4.heap.size 67 3 v (bks l q).length (bksV (bks l q)) ∧ G w4 wr) (fun _ _ _ _ i _ => n - (intOf i).toNat)
    case atStart => exact ⟨0, Nat.zero_le _, rfl, World.ownsRow_nil _ _ _ _, G.rf _⟩
    case round =>
      obtain ⟨q, hq, rfl, ho, hG⟩ := hrel
      obtain ⟨wo, rfl⟩ : ∃ wo, wo = wr := ⟨_, rfl⟩
      have HOW := Lib.hid ho
      clear ho
      by_cases hlt : q < n
      · have hki : (q : Int) < n := by omega
        have HBq := Lib.hid (HB.out wo F q (gz.t hG) (HK.out _ _ _ HFc.out hG) hlt)
        have hbl := bks_len l q
        cases hl : l q with
        | none =>
          rw [hl] at HBq
          have HN := Lib.hid (bks_none hl)
          unfold blkV at HBq
          clear hl HB
          go_wp2_with (go_at_call 58; refine (HBq.out).mono ?_; rintro e w5 ⟨rfl, hG5⟩)
          go_roundw
          case rel => exact ⟨q + 1, by omega, by go_num, by rw [HN.out]; exact own_G HOW.out (hG5.a _), hG.t (hG5.a _)⟩
          case measure => simp [intOf]; omega
        | some p =>
          obtain ⟨pk, px⟩ := p
          rw [hl] at HBq
          have HN := Lib.hid (bks_some hl)
          rw [show blkV q (some (pk, px)) = #[.int .i64 (q : Nat), .int .i64 (pk : Nat), .int .i64 (px : Nat)] from rfl, show (some (pk, px)).isSome = true from rfl] at HBq
          clear hl HB
          generalize bks l q = T at *
          go_wp2_with (first | (go_at_call 58; refine (HBq.out).mono ?_; rintro e w5 ⟨rfl, hG5⟩) | (at_builtin; refine wpList_append_own _ rfl _ _ 58 rfl w4.heap.size 67 i0 _ 3 24 Tryz.underlying58 hi0 hz0 hz1 hz2 rfl (by decide) _ T.length (bksV T) rfl ?hown ⟨_, 0, none⟩ 1 1 [.int .i64 (q : Nat), .int .i64 (pk : Nat), .int .i64 (px : Nat)] rfl rfl (cells_three6 (Blk.new1 _ _ _ _)) (by simp [Value.oneCell']) (by unfold maxLen; omega) (by omega) ?hbase ?hrest))
          case hown => exact own_G HOW.out ((hG5.a _).a _)
          case hbase => exact ((hG.t (hG5.a _)).a _).size
          case hrest =>
            intro v9 w9 hown9 hg9 _
            have gz9 : G w4 w9 := grow_own ((hG.t (hG5.a _)).a _) (own_G HOW.out ((hG5.a _).a _)) (Nat.le_refl _) hg9
            have HN9 := Lib.hid hown9
            clear hown9 hg9
            go_wp2
            go_roundw
            case rel => exact ⟨q + 1, by omega, by go_num, by rw [HN.out, bksV_snoc, List.length_append]; exact HN9.out, gz9⟩
            case measure => simp [intOf]; omega
      · obtain rfl : n = q := by omega
        have HF := Lib.hid (HO.out wo _ _ (gz.t hG) gz.size HOW.out)
        clear HO HB
        go_wp2
        exact HF.out
  · have hz1 : (Z == 0) = false := by simpa using hz
    have HE := Lib.hid (HER.out _ hz gz)
    clear HOK HER hZ HB
    go_wp2
    exact HE.out
end
end Go.Proofs.YtcekdljjmfkacaaGreat
