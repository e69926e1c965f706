import Derived.Test.YtpjfdfddcnocpaaSd
import Derived.Test.YtpjfdfddcnocpaaSe
set_option linter.unusedSimpArgs false
set_option linter.unusedVariables false
namespace Go.Proofs.Ytpjfdfddcnocpaa
open Go.RowKit
attribute [local go_sem] Oper.semAt_some

theorem rCheckShow_any (north cols lofts wrong : Int) (east : List Int) (svs : List Sv) (ea sa : Option Addr) (ec sc : Nat) (w : World) (he : IntsAt w ea east) (hs : SvsAt w sa svs) (hl : east.length ≤ 9223372036854775807) (hl2 : svs.length ≤ 9223372036854775807) :
    Calls Try.prog 48 #[.agg #[.int .i64 north, .int .i64 cols, .slice ea east.length ec, .int .i64 lofts, .slice sa svs.length sc, .int .i64 wrong]] w fun e w' =>
      e = .returned (.int .i64 (ctE north cols lofts wrong east svs 0 0 0)) ∧ G w w' := by
  have HT := Lib.hid (fun (W : World) (hW : G w W) => rCheckTruth_any north cols lofts wrong 0 0 0 east svs ea sa ec sc W (he.below hW) (hs.below hW) hl hl2)
  have g0 : G w (w.alloc (.cells #[.int .i64 north, .int .i64 cols, .slice ea east.length ec, .int .i64 lofts, .slice sa svs.length sc, .int .i64 wrong] 25)) := (G.rf _).a _
  generalize ctE north cols lofts wrong east svs 0 0 0 = E at *
  go_enter Try.func48, Try.ntmps48
  go_wp2_with (go_at_call 74; refine (HT.out _ g0).mono ?_; rintro e w1 ⟨rfl, hG1⟩)
  go_ret
  exact ⟨rfl, g0.t hG1⟩
/-- a place of Show -/
def bestP (rows : Nat → List Sp) (j : Nat) : Nat × Nat := (((rows j).getD (bestN (rows j)) default).x, ((rows j).getD (bestN (rows j)) default).y)
theorem spots_best (north : Int) (cols : Nat) (east : List Int) (svs : List Sv) (j : Nat) (hc : 1 ≤ cols) (hr : 1 ≤ east.length) : ∃ s ∈ spotsOf north cols east svs j, s.more = 0 := by
  obtain ⟨_, p, hp, h2⟩ := low_spec north cols east svs j hc hr
  exact ⟨⟨p.1, p.2, cost north east svs j p - lowC north east svs j (allP cols east.length)⟩, List.mem_map.2 ⟨p, hp, rfl⟩, by simp only; omega⟩
theorem bestP_low (north : Int) (cols : Nat) (east : List Int) (svs : List Sv) (j : Nat) (hc : 1 ≤ cols) (hr : 1 ≤ east.length) :
    cost north east svs j (bestP (spotsOf north cols east svs) j) = lowC north east svs j (allP cols east.length) ∧ bestP (spotsOf north cols east svs) j ∈ allP cols east.length := by
  obtain ⟨h1, h2, _⟩ := bestN_spec (spots_best north cols east svs j hc hr)
  have hm : (spotsOf north cols east svs j).getD (bestN (spotsOf north cols east svs j)) default ∈ spotsOf north cols east svs j := by simp [h1]
  unfold bestP
  generalize (spotsOf north cols east svs j).getD (bestN (spotsOf north cols east svs j)) default = s at *
  obtain ⟨⟨px, py⟩, hp, rfl⟩ := List.mem_map.1 hm
  simp only at h2 ⊢
  have := low_le north cols east svs j hp
  exact ⟨by omega, hp⟩
/-- Show's answer is a truth -/
theorem show_truth {north wrong : Int} {cols lofts : Nat} {east : List Int} {svs : List Sv} (hc : 1 ≤ cols) (hr : 1 ≤ east.length) (hw : ¬ wrong < fewSum north cols east svs lofts) :
    truthB north cols lofts wrong east svs ((List.range lofts).map fun j => (((bestP (spotsOf north cols east svs) j).1 : Int), ((bestP (spotsOf north cols east svs) j).2 : Int))) = true := by
  have hbp := fun j => bestP_low north cols east svs j hc hr
  generalize bestP (spotsOf north cols east svs) = bp at *
  unfold truthB
  simp only [Bool.and_eq_true, List.all_eq_true, beq_iff_eq, decide_eq_true_eq]
  refine ⟨fun p hp => ?_, by simp, ?_⟩
  · obtain ⟨j, _, rfl⟩ := List.mem_map.1 hp
    have := allP_mem (hbp j).2
    simp [isPlaceB, isInB]
    omega
  · have e : wrongsOf north east svs (natP ((List.range lofts).map fun j => (((bp j).1 : Int), ((bp j).2 : Int)))) ((List.range lofts).map fun j => (((bp j).1 : Int), ((bp j).2 : Int))).length = fewSum north cols east svs lofts := by
      rw [List.length_map, List.length_range]
      unfold wrongsOf fewSum
      refine sumR_congr lofts fun j hj => ?_
      have e2 : (natP ((List.range lofts).map fun j => (((bp j).1 : Int), ((bp j).2 : Int)))).getD j (0, 0) = bp j := by
        unfold natP
        simp [hj]
      rw [e2]
      exact (hbp j).1
    rw [e]
    omega
section
variable (north wrong : Int) (cols lofts : Nat) (east : List Int) (svs : List Sv) (ea sa : Option Addr) (ec sc : Nat) (w : World)
def ShowPost (w : World) (L : List (Nat × Nat)) (e : Ending) (w' : World) : Prop := ∃ v, e = .returned (.tuple #[v, .int .i64 0]) ∧ w'.ownsRow w.heap.size 27 2 v L.length (ptsV L) ∧ G w w'
set_option maxRecDepth 100000 in
set_option maxHeartbeats 4000000 in
theorem Show_ok (he : IntsAt w ea east) (hs : SvsAt w sa svs) (hk : checkE north cols east lofts svs wrong = 0) (hw : ¬ wrong < fewSum north cols east svs lofts) :
    Calls Try.prog 47 #[.agg #[.int .i64 north, .int .i64 cols, .slice ea east.length ec, .int .i64 lofts, .slice sa svs.length sc, .int .i64 wrong]] w
      (ShowPost w ((List.range lofts).map (bestP (spotsOf north cols east svs)))) := by
  obtain ⟨hv, hl2, hso⟩ := checkE_zero hk
  have hvb := vm_bounds hv
  have hQ := fun (W : World) (hW : G w W) => question_ok north wrong cols lofts east svs ea sa ec sc true [] none 0 W (he.below hW) (hs.below hW) (.inl rfl) (by simp) hk
  have HQ := Lib.hid hQ
  have hl8 : lofts ≤ 8 := by omega
  have HB := Lib.hid (fun (W : World) (O k : Nat) (hk : k < lofts) (hO : Opened W O north wrong cols lofts (.slice ea east.length ec) (.slice sa svs.length sc) (fewSum north cols east svs lofts) (spotsOf north cols east svs)) =>
    have h := bestN_spec (spots_best north cols east svs k (by omega) (by omega))
    best_any O north wrong cols lofts (.slice ea east.length ec) (.slice sa svs.length sc) (fewSum north cols east svs lofts) (spotsOf north cols east svs) W hO k (bestN (spotsOf north cols east svs k)) hk hl8 (Nat.le_trans (spotsOf_len north cols east svs k (by omega) (by omega)) (by omega)) h.1 h.2.1 h.2.2)
  have HB2 : Hid (∀ (W : World) (O k : Nat), k < lofts → Opened W O north wrong cols lofts (.slice ea east.length ec) (.slice sa svs.length sc) (fewSum north cols east svs lofts) (spotsOf north cols east svs) →
    Calls Try.prog 77 #[.pointer (some ⟨O, 0, none⟩), .int .i64 k] W fun e w' => e = .returned (.agg #[.int .i64 (bestP (spotsOf north cols east svs) k).1, .int .i64 (bestP (spotsOf north cols east svs) k).2]) ∧ G W w') := HB.out
  clear hQ hso hvb HB
  obtain ⟨bp, hbp⟩ : ∃ bp, bp = bestP (spotsOf north cols east svs) := ⟨_, rfl⟩
  rw [← hbp] at HB2 ⊢
  clear hbp
  have HP : Hid (∀ w' v, w'.ownsRow w.heap.size 27 2 v lofts (ptsV ((List.range lofts).map bp)) → G w w' → ShowPost w ((List.range lofts).map bp) (.returned (.tuple #[v, .int .i64 0])) w') := fun w' v h1 h2 => ⟨v, rfl, by simpa using h1, h2⟩
  generalize ShowPost w ((List.range lofts).map bp) = PP at *
  obtain ⟨i0, hi0, hz0, hz1, hz2⟩ := info_parts info27
  have g0 : G w (w.alloc (.cells #[.int .i64 north, .int .i64 cols, .slice ea east.length ec, .int .i64 lofts, .slice sa svs.length sc, .int .i64 wrong] 25)) := (G.rf _).a _
  have b0 := Blk.new w 25 #[.int .i64 north, .int .i64 cols, .slice ea east.length ec, .int .i64 lofts, .slice sa svs.length sc, .int .i64 wrong]
  go_enter Try.func47, Try.ntmps47
  go_wp2_with fail
  refine (HQ.out _ g0).mono ?_
  rintro e w1 ⟨hGx, hp⟩
  rw [if_neg (by simp), if_neg (by omega)] at hp
  obtain ⟨O, hOl, rfl, hOp⟩ := hp
  replace b0 := b0.keep hGx
  replace g0 := g0.t hGx
  have m3 := b0.cell 3
  have l0 := b0.lt
  clear HQ hGx
  go_wp2_with fail
  go_loopw [6, 18] (fun v i wr => ∃ k : Nat, k ≤ lofts ∧ i = .int .i64 k ∧ wr.ownsRow w1.heap.size 27 2 v k (ptsV ((List.range k).map bp)) ∧ G w1 wr) (fun _ i _ => lofts - (intOf i).toNat)
  case atStart => exact ⟨0, Nat.zero_le _, rfl, World.ownsRow_nil _ _ _ _, G.rf _⟩
  case round =>
    obtain ⟨k, hk, rfl, hown, hGr⟩ := hrel
    obtain ⟨wo, rfl⟩ : ∃ wo, wo = wr := ⟨_, rfl⟩
    have HO := Lib.hid hown
    clear hown
    by_cases hlt : k < lofts
    · have hki : (k : Int) < lofts := by omega
      have hsr : ptsV ((List.range (k + 1)).map bp) = ptsV ((List.range k).map bp) ++ [.int .i64 (bp k).1, .int .i64 (bp k).2] := by
        rw [List.range_succ, List.map_append]
        exact ptsV_snoc _ _
      have HS := Lib.hid hsr
      clear hsr
      have HBk := HB2.out wo O k hlt (hOp.keep hGr)
      generalize bp k = p at *
      obtain ⟨px, py⟩ := p
      have HBK := Lib.hid HBk
      clear HBk
      go_wp2_with (first | (go_at_call 77; refine HBK.out.mono ?_; rintro e w3 ⟨rfl, hG3⟩) | (at_builtin; refine wpList_append_own _ rfl _ _ 36 rfl w1.heap.size 27 i0 _ 2 16 Try.underlying36 hi0 hz0 hz1 hz2 rfl (by decide) _ k (ptsV ((List.range k).map bp)) rfl ?hown ⟨_, 0, none⟩ 1 1 [.int .i64 px, .int .i64 py] rfl rfl (cell_two_new _ _ _ _) (by simp [Value.oneCell']) (by unfold maxLen; omega) (by omega) ?hbase ?hrest))
      case hown => exact own_G HO.out (hG3.a _)
      case hbase => exact ((hGr.t hG3).a _).size
      case hrest =>
        intro v' w4 hown' hg4 hnil4
        have gX : G wo (w3.alloc (.cells #[.int .i64 px, .int .i64 py] 27)) := hG3.a _
        have y2 := grow_own (hGr.t gX) (own_G HO.out gX) (Nat.le_refl _) hg4
        have HN := Lib.hid hown'
        clear hown' hg4 hnil4 gX
        go_wp2
        go_roundw
        case rel => exact ⟨k + 1, by omega, by go_num, by rw [HS.out]; exact HN.out, y2⟩
        case measure => simp [intOf]; omega
    · have hki : ¬ (k : Int) < lofts := by omega
      obtain rfl : k = lofts := by omega
      have HF := Lib.hid (HP.out wo _ (own_weaken HO.out g0.size) (g0.t hGr))
      go_wp2
      exact HF.out
end
end Go.Proofs.Ytpjfdfddcnocpaa
