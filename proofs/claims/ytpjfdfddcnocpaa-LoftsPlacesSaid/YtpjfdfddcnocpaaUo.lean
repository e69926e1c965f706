import Derived.Test.YtpjfdfddcnocpaaUn
import Derived.Test.YtpjfdfddcnocpaaUi
import Derived.Test.YtpjfdfddcnocpaaHc
import Derived.Test.YtpjfdfddcnocpaaTm
set_option linter.unusedSimpArgs false
set_option linter.unusedVariables false
namespace Go.Proofs.Ytpjfdfddcnocpaa
open Go.RowKit
attribute [local go_sem] Oper.semAt_some

/-- an answer that is a list of numbers, with its error -/
def LiP (w : World) (E : Int) (L : List Int) (e : Ending) (w' : World) : Prop := ∃ (a : Option Addr) (cap : Nat), e = .returned (.tuple #[.slice a L.length cap, .int .i64 E]) ∧ IntsAt w' a L ∧ G w w'
/-- an answer that is a list of places, with its error -/
def LzP (w : World) (E : Int) (L : List (Int × Int)) (e : Ending) (w' : World) : Prop := ∃ (a : Option Addr) (cap : Nat), e = .returned (.tuple #[.slice a L.length cap, .int .i64 E]) ∧ ZAt w' a L ∧ G w w'
def zz (P : List (Nat × Nat)) : List (Int × Int) := P.map fun p => ((p.1 : Int), (p.2 : Int))
theorem zats_own {W : World} {base n : Nat} {v : Value} {P : List (Nat × Nat)} (hn : n = P.length) (h : W.ownsRow base 27 2 v n (ptsV P)) : ∃ a c, v = .slice a (zz P).length c ∧ ZAt W a (zz P) := by
  by_cases h0 : 0 < n
  · obtain ⟨g, cap, rfl, hg, hp⟩ := pts_own hn h h0
    refine ⟨some ⟨g, 0, none⟩, cap, by simp [zz], .inr ⟨g, 0, rfl, hg, fun k hk => ?_⟩⟩
    have hk2 : k < P.length := by simpa [zz] using hk
    obtain ⟨c0, c1⟩ := hp k hk2
    rw [Nat.zero_add, c0, c1]
    simp [zz, hk2]
  · have hP : P = [] := List.eq_nil_of_length_eq_zero (by omega)
    subst hP
    rcases h.2 with ⟨rfl, _⟩ | ⟨g, cap, cur, rfl, _, hb, h1, _, hs, ht⟩
    · exact ⟨none, 0, rfl, .inl rfl⟩
    · exact ⟨_, cap, by rw [hn]; rfl, .inl rfl⟩
theorem ptCells_eq (l : Nat) (L : List At) : ptCells l L = ptsV (L.map fun f => f l) := by
  simp [ptCells, ptsV, List.flatMap_map]
theorem sv_loft {cols lofts : Int} {rows : Nat} {s : Sv} (h : svOk cols rows lofts s = true) : 0 ≤ s.loft ∧ s.loft < lofts := by
  unfold svOk validSurveyB at h
  rw [Bool.and_eq_true] at h
  have h1 := h.1
  simp [isInB] at h1
  omega
section
variable (north cols lofts wrong : Int) (east : List Int) (svs : List Sv)
/-- Blame of the program and of the reference: one list -/
theorem blames : ∃ (E : Int) (L : List Int), L.length ≤ 1000000 ∧
    (∀ (W : World) (ea sa : Option Addr) (ec sc : Nat), IntsAt W ea east → SvsAt W sa svs → east.length ≤ 100 → svs.length ≤ 100 → Calls Try.prog 32 #[.agg #[.int .i64 north, .int .i64 cols, .slice ea east.length ec, .int .i64 lofts, .slice sa svs.length sc, .int .i64 wrong]] W (LiP W E L)) ∧
    (∀ (W : World) (ea sa : Option Addr) (ec sc : Nat), IntsAt W ea east → SvsAt W sa svs → east.length ≤ 100 → svs.length ≤ 100 → Calls Try.prog 39 #[.agg #[.int .i64 north, .int .i64 cols, .slice ea east.length ec, .int .i64 lofts, .slice sa svs.length sc, .int .i64 wrong]] W (LiP W E L)) := by
  by_cases hk : checkE north cols east lofts svs wrong = 0
  · obtain ⟨hv, hl2, hso⟩ := checkE_zero hk
    have hvb := vm_bounds hv
    obtain ⟨cn, rfl⟩ := Int.eq_ofNat_of_zero_le (show 0 ≤ cols by omega)
    obtain ⟨ln, rfl⟩ := Int.eq_ofNat_of_zero_le (show 0 ≤ lofts by omega)
    by_cases hw : wrong < fewSum north cn east svs ln
    · have hct : ctE north cn ln wrong east svs 0 0 0 = 3 := by
        unfold ctE
        rw [if_pos hk, if_pos (by simp [isInB]; omega)]
        simp [hw]
      refine ⟨3, [], by simp, fun W ea sa ec sc he hs h1 h2 => (Blame_none north wrong cn ln east svs ea sa ec sc W he hs hk hw).mono ?_, fun W ea sa ec sc he hs h1 h2 => (rBlame_err north cn ln wrong east svs ea sa ec sc W he hs (by omega) (by omega) (by rw [hct]; decide)).mono ?_⟩
      · rintro e w' ⟨rfl, hG⟩
        exact ⟨none, 0, rfl, .inl rfl, hG⟩
      · rintro e w' ⟨rfl, hG⟩
        exact ⟨none, 0, by rw [hct]; rfl, .inl rfl, hG⟩
    · have hbl : blameK (blB north wrong cn ln east svs) svs svs.length = blameK (blamed north east (spotsOf north cn east svs) (wrong - fewSum north cn east svs ln)) svs svs.length := by
        unfold blameK
        refine List.filter_congr fun i hi => ?_
        have hi2 : i < svs.length := by simpa using hi
        have hm : svs.getD i default ∈ svs := by
          rw [show svs.getD i default = svs[i] by simp [hi2]]
          exact List.getElem_mem hi2
        have h3 := sv_loft (List.all_eq_true.1 hso _ hm)
        exact blB_eq (by omega) hw
      have hB := fun (W : World) (ea sa : Option Addr) (ec sc : Nat) (he : IntsAt W ea east) (hs : SvsAt W sa svs) => rBlame_ok north wrong cn ln east svs ea sa ec sc W he hs hk hw
      rw [hbl] at hB
      have hP := fun (W : World) (ea sa : Option Addr) (ec sc : Nat) (he : IntsAt W ea east) (hs : SvsAt W sa svs) => Blame_ok north wrong cn ln east svs ea sa ec sc W he hs hk hw
      have hlen : (blameK (blamed north east (spotsOf north cn east svs) (wrong - fewSum north cn east svs ln)) svs svs.length).length ≤ 1000000 := by
        unfold blameK
        refine Nat.le_trans (List.length_filter_le _ _) ?_
        rw [List.length_range]
        omega
      generalize blameK (blamed north east (spotsOf north cn east svs) (wrong - fewSum north cn east svs ln)) svs svs.length = bl at *
      have key : ∀ (W : World) (e : Ending) (w' : World), BlamePost W bl e w' → LiP W 0 (bl.map fun n : Nat => (n : Int)) e w' := by
        rintro W e w' ⟨v, rfl, hown, hG⟩
        obtain ⟨a, c, rfl, hI⟩ := ints_own rfl hown
        exact ⟨a, c, rfl, hI, hG⟩
      exact ⟨0, bl.map fun n : Nat => (n : Int), by simpa using hlen, fun W ea sa ec sc he hs _ _ => (hP W ea sa ec sc he hs).mono (key W), fun W ea sa ec sc he hs _ _ => (hB W ea sa ec sc he hs).mono (key W)⟩
  · have hct : ctE north cols lofts wrong east svs 0 0 0 = checkE north cols east lofts svs wrong := by unfold ctE; rw [if_neg hk]
    refine ⟨checkE north cols east lofts svs wrong, [], by simp, fun W ea sa ec sc he hs h1 h2 => (BlameP_err north cols lofts wrong east svs ea sa ec sc W he hs (by omega) (by omega) hk).mono ?_, fun W ea sa ec sc he hs h1 h2 => (rBlame_err north cols lofts wrong east svs ea sa ec sc W he hs (by omega) (by omega) (by rw [hct]; exact hk)).mono ?_⟩
    · rintro e w' ⟨rfl, hG⟩
      exact ⟨none, 0, rfl, .inl rfl, hG⟩
    · rintro e w' ⟨rfl, hG⟩
      exact ⟨none, 0, by rw [hct]; rfl, .inl rfl, hG⟩
/-- Places of the program and of the reference: one list -/
theorem placesB (l : Int) : ∃ (E : Int) (L : List (Int × Int)), L.length ≤ 1000000 ∧
    (∀ (W : World) (ea sa : Option Addr) (ec sc : Nat), IntsAt W ea east → SvsAt W sa svs → east.length ≤ 100 → svs.length ≤ 100 → Calls Try.prog 22 #[.agg #[.int .i64 north, .int .i64 cols, .slice ea east.length ec, .int .i64 lofts, .slice sa svs.length sc, .int .i64 wrong], .int .i64 l] W (LzP W E L)) ∧
    (∀ (W : World) (ea sa : Option Addr) (ec sc : Nat), IntsAt W ea east → SvsAt W sa svs → east.length ≤ 100 → svs.length ≤ 100 → Calls Try.prog 40 #[.agg #[.int .i64 north, .int .i64 cols, .slice ea east.length ec, .int .i64 lofts, .slice sa svs.length sc, .int .i64 wrong], .int .i64 l] W (LzP W E L)) := by
  by_cases hk : checkE north cols east lofts svs wrong = 0
  · obtain ⟨hv, hl2, hso⟩ := checkE_zero hk
    have hvb := vm_bounds hv
    obtain ⟨cn, rfl⟩ := Int.eq_ofNat_of_zero_le (show 0 ≤ cols by omega)
    obtain ⟨ln, rfl⟩ := Int.eq_ofNat_of_zero_le (show 0 ≤ lofts by omega)
    cases hll : isInB l 0 (ln - 1)
    · have hct : ctE north cn ln wrong east svs l l 0 = 1 := by
        unfold ctE
        rw [if_pos hk, hll]
        simp
      refine ⟨1, [], by simp, fun W ea sa ec sc he hs h1 h2 => (Places_arg north wrong l cn ln east svs ea sa ec sc W he hs hk hll).mono ?_, fun W ea sa ec sc he hs h1 h2 => (rPlaces_err north cn ln wrong l east svs ea sa ec sc W he hs (by omega) (by omega) (by rw [hct]; decide)).mono ?_⟩
      · rintro e w' ⟨rfl, hG⟩
        exact ⟨none, 0, rfl, .inl rfl, hG⟩
      · rintro e w' ⟨rfl, hG⟩
        exact ⟨none, 0, by rw [hct]; rfl, .inl rfl, hG⟩
    · have hlb : 0 ≤ l ∧ l < ln := by simp [isInB] at hll; omega
      obtain ⟨l, rfl⟩ := Int.eq_ofNat_of_zero_le hlb.1
      have hln : l < ln := by omega
      by_cases hw : wrong < fewSum north cn east svs ln
      · have hct : ctE north cn ln wrong east svs l l 0 = 3 := by
          unfold ctE
          rw [if_pos hk, hll, if_pos (by simp [isInB])]
          simp [hw]
        refine ⟨3, [], by simp, fun W ea sa ec sc he hs h1 h2 => (Places_none north wrong cn ln l east svs ea sa ec sc W he hs hk hln hw).mono ?_, fun W ea sa ec sc he hs h1 h2 => (rPlaces_err north cn ln wrong l east svs ea sa ec sc W he hs (by omega) (by omega) (by rw [hct]; decide)).mono ?_⟩
        · rintro e w' ⟨rfl, hG⟩
          exact ⟨none, 0, rfl, .inl rfl, hG⟩
        · rintro e w' ⟨rfl, hG⟩
          exact ⟨none, 0, by rw [hct]; rfl, .inl rfl, hG⟩
      · have hLL : (truthsOf (spotsOf north cn east svs) [l] (wrong - fewSum north cn east svs ln)).length ≤ 1000000 := truths_len3 (by simp) (by omega) (by omega)
        have hpl := plF_eq (cols := cn) (wrong := wrong) (east := east) (north := north) (svs := svs) hln hw
        have hP := fun (W : World) (ea sa : Option Addr) (ec sc : Nat) (he : IntsAt W ea east) (hs : SvsAt W sa svs) => Places_ok north wrong cn ln l east svs ea sa ec sc W he hs hk hln hw hLL
        have hR := fun (W : World) (ea sa : Option Addr) (ec sc : Nat) (he : IntsAt W ea east) (hs : SvsAt W sa svs) => rPlacesF_ok north wrong cn ln l east svs ea sa ec sc W he hs hk hln hw
        rw [← hpl] at hR
        unfold PlacesPost at hP
        generalize truthsOf (spotsOf north cn east svs) [l] (wrong - fewSum north cn east svs ln) = T at *
        have key : ∀ (W : World) (e : Ending) (w' : World) (v : Value) (n : Nat), n = (T.map fun f => f l).length → e = .returned (.tuple #[v, .int .i64 0]) → w'.ownsRow W.heap.size 27 2 v n (ptsV (T.map fun f => f l)) → G W w' → LzP W 0 (zz (T.map fun f => f l)) e w' := by
          rintro W e w' v n hn rfl hown hG
          obtain ⟨a, c, rfl, hI⟩ := zats_own hn hown
          exact ⟨a, c, rfl, hI, hG⟩
        refine ⟨0, zz (T.map fun f => f l), by simpa [zz] using hLL, fun W ea sa ec sc he hs _ _ => (hP W ea sa ec sc he hs).mono ?_, fun W ea sa ec sc he hs _ _ => (hR W ea sa ec sc he hs).mono ?_⟩
        · rintro e w' ⟨v, h1, h2, h3⟩
          rw [ptCells_eq] at h2
          exact key W e w' v _ (by simp) h1 h2 h3
        · rintro e w' ⟨v, h1, h2, h3⟩
          exact key W e w' v _ rfl h1 h2 h3
  · have hct : ctE north cols lofts wrong east svs l l 0 = checkE north cols east lofts svs wrong := by unfold ctE; rw [if_neg hk]
    refine ⟨checkE north cols east lofts svs wrong, [], by simp, fun W ea sa ec sc he hs h1 h2 => (Places_err north cols lofts wrong l east svs ea sa ec sc W he hs (by omega) (by omega) hk).mono ?_, fun W ea sa ec sc he hs h1 h2 => (rPlaces_err north cols lofts wrong l east svs ea sa ec sc W he hs (by omega) (by omega) (by rw [hct]; exact hk)).mono ?_⟩
    · rintro e w' ⟨rfl, hG⟩
      exact ⟨none, 0, rfl, .inl rfl, hG⟩
    · rintro e w' ⟨rfl, hG⟩
      exact ⟨none, 0, by rw [hct]; rfl, .inl rfl, hG⟩
/-- the three pairs of numbers, opened -/
theorem lenV_open (px py qx qy rule : Int) : ∃ a e : Int, lenV north cols lofts wrong east svs px py qx qy rule = .tuple #[.int .i64 a, .int .i64 e] := by
  unfold lenV
  split
  · split <;> exact ⟨_, _, rfl⟩
  · exact ⟨_, _, rfl⟩
theorem mnyV_open : ∃ a e : Int, mnyV north cols lofts wrong east svs = .tuple #[.int .i64 a, .int .i64 e] := by
  unfold mnyV
  split <;> exact ⟨_, _, rfl⟩
theorem fewV_open : ∃ a e : Int, fewV north cols lofts wrong east svs = .tuple #[.int .i64 a, .int .i64 e] := by
  unfold fewV
  split <;> exact ⟨_, _, rfl⟩
end
end Go.Proofs.Ytpjfdfddcnocpaa
