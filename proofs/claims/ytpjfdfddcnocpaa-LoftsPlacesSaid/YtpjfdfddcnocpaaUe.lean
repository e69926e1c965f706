import Derived.Test.YtpjfdfddcnocpaaUd
set_option linter.unusedSimpArgs false
set_option linter.unusedVariables false
namespace Go.Proofs.Ytpjfdfddcnocpaa
open Go.RowKit
attribute [local go_sem] Oper.semAt_some

section
variable (north cols lofts wrong l : Int) (east : List Int) (svs : List Sv) (ea sa : Option Addr) (ec sc : Nat) (w : World)
theorem rPlaces_err (he : IntsAt w ea east) (hs : SvsAt w sa svs) (hl : east.length ≤ 9223372036854775807) (hl2 : svs.length ≤ 9223372036854775807) (hc : ¬ ctE north cols lofts wrong east svs l l 0 = 0) :
    Calls Try.prog 40 #[.agg #[.int .i64 north, .int .i64 cols, .slice ea east.length ec, .int .i64 lofts, .slice sa svs.length sc, .int .i64 wrong], .int .i64 l] w fun e w' => e = .returned (.tuple #[.slice none 0 0, .int .i64 (ctE north cols lofts wrong east svs l l 0)]) ∧ G w w' := by
  have HT := Lib.hid (fun (W : World) (hW : G w W) => rCheckTruth_any north cols lofts wrong l l 0 east svs ea sa ec sc W (he.below hW) (hs.below hW) hl hl2)
  have g0 : G w (w.alloc (.cells #[.int .i64 north, .int .i64 cols, .slice ea east.length ec, .int .i64 lofts, .slice sa svs.length sc, .int .i64 wrong] 25)) := (G.rf _).a _
  generalize ctE north cols lofts wrong east svs l l 0 = E at *
  have hE : (E == 0) = false := by simp [hc]
  go_enter Try.func40, Try.ntmps40
  go_wp2_with (go_at_call 74; refine (HT.out _ g0).mono ?_; rintro e w1 ⟨rfl, hG1⟩)
  go_ret2
  exact ⟨rfl, g0.t hG1⟩
theorem Places_err (he : IntsAt w ea east) (hs : SvsAt w sa svs) (hl : east.length ≤ 9223372036854775807) (hl2 : svs.length ≤ 9223372036854775807) (hk : checkE north cols east lofts svs wrong ≠ 0) :
    Calls Try.prog 22 #[.agg #[.int .i64 north, .int .i64 cols, .slice ea east.length ec, .int .i64 lofts, .slice sa svs.length sc, .int .i64 wrong], .int .i64 l] w fun e w' => e = .returned (.tuple #[.slice none 0 0, .int .i64 (checkE north cols east lofts svs wrong)]) ∧ G w w' := by
  have HQ := Lib.hid (fun (W : World) (hW : G w W) (L : Value) => question_err north cols lofts wrong east svs ea sa ec sc true L W (he.below hW) (hs.below hW) hl hl2 hk)
  obtain ⟨g0, b0, b1, b2⟩ := w3_spec w #[.int .i64 north, .int .i64 cols, .slice ea east.length ec, .int .i64 lofts, .slice sa svs.length sc, .int .i64 wrong] #[.int .i64 l] #[.int .i64 l] 25 3 3
  generalize checkE north cols east lofts svs wrong = E at *
  have hE : (E == 0) = false := by simp [hk]
  go_enter Try.func22, Try.ntmps22
  go_wp2_with (go_at_call 57; refine (HQ.out _ g0 _).mono ?_; rintro e w1 ⟨rfl, hG1⟩)
  go_ret2
  exact ⟨rfl, g0.t hG1⟩
end
theorem Places_arg (north wrong l : Int) (cols lofts : Nat) (east : List Int) (svs : List Sv) (ea sa : Option Addr) (ec sc : Nat) (w : World) (he : IntsAt w ea east) (hs : SvsAt w sa svs) (hk : checkE north cols east lofts svs wrong = 0) (hll : isInB l 0 (lofts - 1) = false) :
    Calls Try.prog 22 #[.agg #[.int .i64 north, .int .i64 cols, .slice ea east.length ec, .int .i64 lofts, .slice sa svs.length sc, .int .i64 wrong], .int .i64 l] w fun e w' => e = .returned (.tuple #[.slice none 0 0, .int .i64 1]) ∧ G w w' := by
  have hQ := fun (W : World) (hW : G w W) (g : Nat) (hg : Blk W g 3 #[.int .i64 l]) => question_ok north wrong cols lofts east svs ea sa ec sc true [l] (some ⟨g, 0, none⟩) 1 W (he.below hW) (hs.below hW)
    (.inr ⟨g, 0, rfl, hg.lt, fun k hk2 => by
      rw [hg.cell]
      match k, hk2 with
      | 0, _ => rfl⟩) (by simp) hk
  have hD : (true && ([l].all fun n => isInB n 0 (lofts - 1))) = false := by simp [hll]
  rw [hD] at hQ
  have HQ := Lib.hid hQ
  obtain ⟨g0, b0, b1, b2⟩ := w3_spec w #[.int .i64 north, .int .i64 cols, .slice ea east.length ec, .int .i64 lofts, .slice sa svs.length sc, .int .i64 wrong] #[.int .i64 l] #[.int .i64 l] 25 3 3
  clear hQ hD
  go_enter Try.func22, Try.ntmps22
  go_wp2_with (go_at_call 57; refine (HQ.out _ g0 _ b2).mono ?_; rintro e w1 ⟨hG1, hp⟩; rw [if_pos rfl] at hp; subst hp)
  go_ret2
  exact ⟨rfl, g0.t hG1⟩
/-- the places of the program are those of the document -/
theorem plF_eq {north wrong : Int} {cols lofts l : Nat} {east : List Int} {svs : List Sv} (hl : l < lofts) (hw : ¬ wrong < fewSum north cols east svs lofts) :
    ((truthsOf (spotsOf north cols east svs) [l] (wrong - fewSum north cols east svs lofts)).map fun f => f l) = plF north wrong cols lofts east svs l (allP cols east.length) := by
  rw [places_eq]
  unfold plF
  refine List.filter_congr fun p hp => ?_
  have h := low_le north cols east svs l hp
  rw [decide_eq_decide]
  omega
end Go.Proofs.Ytpjfdfddcnocpaa
