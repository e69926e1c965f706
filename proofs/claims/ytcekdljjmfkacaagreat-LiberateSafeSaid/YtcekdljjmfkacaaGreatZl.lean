import Derived.Test.YtcekdljjmfkacaaGreatXd
set_option linter.unusedSimpArgs false
set_option linter.unusedVariables false
namespace Go.Proofs.YtcekdljjmfkacaaGreat
open Go.RowKit Go.Shelf
attribute [local go_sem] Oper.semAt_some wide_fn wide_dep wideR_fn wideR_dep
def OwnBk (w : World) (L : List (Nat × Nat × Nat)) (v : Value) (w' : World) : Prop := ∃ B, w.heap.size ≤ B ∧ w'.ownsRow B 67 3 v L.length (bksV L)
section
variable (mi : Int) (REL : Array Value) (l : Nat → Option (Nat × Nat)) (ha : Option Addr) (n hc : Nat) (w : World)
set_option maxRecDepth 100000 in
set_option maxHeartbeats 4000000 in
theorem rBlocks6_in (hIs : IsRel REL) (h8 : REL[8]? = some (.slice ha n hc)) (hn : n ≤ 100)
    (hB : ∀ W i, G w W → i < n → Calls Tryz.prog 91 #[.agg REL, .int .i64 (i : Nat), .int .i64 mi] W fun e w' => e = .returned (.tuple #[.agg (blkV i (l i)), .bool (l i).isSome]) ∧ G W w') :
    Calls Tryz.prog 59 #[.agg REL, .int .i64 mi] w fun e w' => ∃ v, e = .returned v ∧ OwnBk w (bks l n) v w' ∧ G w w' := by
  have HIS := Lib.hid hIs
  have HB := Lib.hid hB
  have H8 := Lib.hid h8
  clear hB hIs h8
  have HO : Hid (∀ w' v B, G w w' → w.heap.size ≤ B → w'.ownsRow B 67 3 v (bks l n).length (bksV (bks l n)) → (fun e w' => ∃ v, e = .returned v ∧ OwnBk w (bks l n) v w' ∧ G w w' : Ending → World → Prop) (.returned v) w') := fun w' v B a b c => ⟨v, rfl, ⟨B, b, c⟩, a⟩
  generalize (fun e w' => ∃ v, e = .returned v ∧ OwnBk w (bks l n) v w' ∧ G w w' : Ending → World → Prop) = PP at *
  have g0 : G w (w.alloc (.cells REL 35)) := (G.rf _).a _
  have b0 : Blk (w.alloc (.cells REL 35)) w.heap.size 35 REL := Blk.new w 35 REL
  go_enter Tryz.func59, Tryz.ntmps59
  go_upto_region 1 with fail
  change Code.wp _ _ _ _ (w.alloc (.cells REL 35))
  generalize w.alloc (.cells REL 35) = w4 at *
  obtain ⟨i0, hi0, hz0, hz1, hz2⟩ := info_parts info73
  go_wp2_with fail
  go_loopw [5, 6, 7, 8] (fun v i u7 u8 wr => ∃ q : Nat, q ≤ n ∧ i = .int .i64 q ∧ wr.ownsRow w4.heap.size 67 3 v (bks l q).length (bksV (bks l q)) ∧ G w4 wr) (fun _ i _ _ _ => n - (intOf i).toNat)
  case atStart => exact ⟨0, Nat.zero_le _, rfl, World.ownsRow_nil _ _ _ _, G.rf _⟩
  case round =>
    obtain ⟨q, hq, rfl, ho, hG⟩ := hrel
    obtain ⟨wo, rfl⟩ : ∃ wo, wo = wr := ⟨_, rfl⟩
    have HOW := Lib.hid ho
    clear ho
    have bq := b0.keep hG
    have e8 := (bq.cell 8).trans H8.out
    have lb := bq.lt
    by_cases hlt : q < n
    · have hki : (q : Int) < n := by omega
      have HBq := Lib.hid (HB.out wo q (g0.t hG) hlt)
      have hbl := bks_len l q
      cases hl : l q with
      | none =>
          rw [hl] at HBq
          have HN := Lib.hid (bks_none hl)
          unfold blkV at HBq
          clear hl HB HO
          go_upto_region 5 with fail
          clear e8 lb
          refine wp_region_lit ?_
          refine wpList_load35 w.heap.size 2 HIS.out rfl rfl rfl bq ?_
          try simp only [Act.put, List.getElem_toArray, List.getElem_cons_zero, List.getElem_cons_succ, List.setIfInBounds_toArray, List.set_cons_zero, List.set_cons_succ]
          go_wp2_with (go_at_call 91; refine (HBq.out).mono ?_; rintro e w5 ⟨rfl, hG5⟩)
          go_roundw
          case rel => exact ⟨q + 1, by omega, by go_num, by rw [HN.out]; exact own_G HOW.out (hG5.a _), hG.t (hG5.a _)⟩
          case measure => simp [intOf]; omega
      | some p =>
          obtain ⟨pk, px⟩ := p
          rw [hl] at HBq
          have HN := Lib.hid (bks_some hl)
          rw [show blkV q (some (pk, px)) = #[.int .i64 (q : Nat), .int .i64 (pk : Nat), .int .i64 (px : Nat)] from rfl, show (some (pk, px)).isSome = true from rfl] at HBq
          clear hl HB HO
          go_upto_region 5 with fail
          clear e8 lb
          refine wp_region_lit ?_
          refine wpList_load35 w.heap.size 2 HIS.out rfl rfl rfl bq ?_
          try simp only [Act.put, List.getElem_toArray, List.getElem_cons_zero, List.getElem_cons_succ, List.setIfInBounds_toArray, List.set_cons_zero, List.set_cons_succ]
          generalize bks l q = T at *
          go_wp2_with (first | (go_at_call 91; refine (HBq.out).mono ?_; rintro e w5 ⟨rfl, hG5⟩) | (at_builtin; refine wpList_append_own _ rfl _ _ 58 rfl w4.heap.size 67 i0 _ 3 24 Tryz.underlying58 hi0 hz0 hz1 hz2 rfl (by decide) _ T.length (bksV T) rfl ?hown ⟨_, 0, none⟩ 1 1 [.int .i64 (q : Nat), .int .i64 (pk : Nat), .int .i64 (px : Nat)] rfl rfl (cells_three6 (Blk.new1 _ _ _ _)) (by simp [Value.oneCell']) (by unfold maxLen; omega) (by omega) ?hbase ?hrest))
          case hown => exact own_G HOW.out ((hG5.a _).a _)
          case hbase => exact ((hG.t (hG5.a _)).a _).size
          case hrest =>
            intro v9 w9 hown9 hg9 _
            have gz9 : G w4 w9 := grow_own ((hG.t (hG5.a _)).a _) (own_G HOW.out ((hG5.a _).a _)) (Nat.le_refl _) hg9
            have HN9 := Lib.hid hown9
            clear hown9 hg9
            go_wp2
            go_roundw
            case rel => exact ⟨q + 1, by omega, by go_num, by rw [HN.out, bksV_snoc, List.length_append]; exact HN9.out, gz9⟩
            case measure => simp [intOf]; omega
    · obtain rfl : n = q := by omega
      have HF := Lib.hid (HO.out wo _ _ (g0.t hG) g0.size HOW.out)
      clear HO HB
      go_wp2
      exact HF.out
end
end Go.Proofs.YtcekdljjmfkacaaGreat
