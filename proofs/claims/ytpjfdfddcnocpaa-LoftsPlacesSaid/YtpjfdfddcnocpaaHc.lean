import Derived.Test.YtpjfdfddcnocpaaHb
import Derived.Test.YtpjfdfddcnocpaaJa
import Derived.Test.YtpjfdfddcnocpaaKd
set_option linter.unusedSimpArgs false
set_option linter.unusedVariables false
namespace Go.Proofs.Ytpjfdfddcnocpaa
open Go.RowKit
attribute [local go_sem] Oper.semAt_some

section
variable (north wrong : Int) (cols lofts : Nat) (east : List Int) (svs : List Sv) (ea sa : Option Addr) (ec sc : Nat) (w : World)
set_option maxHeartbeats 4000000 in
theorem Blame_none (he : IntsAt w ea east) (hs : SvsAt w sa svs) (hk : checkE north cols east lofts svs wrong = 0) (hw : wrong < fewSum north cols east svs lofts) :
    Calls Try.prog 32 #[.agg #[.int .i64 north, .int .i64 cols, .slice ea east.length ec, .int .i64 lofts, .slice sa svs.length sc, .int .i64 wrong]] w fun e w' => e = .returned (.tuple #[.slice none 0 0, .int .i64 3]) ∧ G w w' := by
  have HQ := Lib.hid (fun (W : World) (hW : G w W) => question_ok north wrong cols lofts east svs ea sa ec sc true [] none 0 W (he.below hW) (hs.below hW) (.inl rfl) (by simp) hk)
  have hG1 : G w (w.alloc (.cells #[.int .i64 north, .int .i64 cols, .slice ea east.length ec, .int .i64 lofts, .slice sa svs.length sc, .int .i64 wrong] 25)) := (G.rf _).a _
  clear hk
  go_enter Try.func32, Try.ntmps32
  go_wp2_with (go_at_call 57; refine (HQ.out _ hG1).mono ?_; rintro e w1 ⟨hGx, hp⟩; rw [if_neg (by simp), if_pos hw] at hp; subst hp)
  go_ret2
  exact ⟨rfl, hG1.t hGx⟩
/-- whether there is a truth or not: an answer of Blame that LoftsLiars lets by -/
def BlameAny (w : World) (wrong fv : Int) (e : Ending) (w' : World) : Prop := ∃ lv ll lc, e = .returned (.tuple #[.slice lv ll lc, .int .i64 fv]) ∧ (ll : Int) ≤ wrong ∧ G w w'
theorem Blame_any (he : IntsAt w ea east) (hs : SvsAt w sa svs) (hk : checkE north cols east lofts svs wrong = 0) :
    ∃ fv : Int, ((fv = 0 ∧ ¬ wrong < fewSum north cols east svs lofts) ∨ (fv = 3 ∧ wrong < fewSum north cols east svs lofts)) ∧ ∀ W, G w W →
    Calls Try.prog 32 #[.agg #[.int .i64 north, .int .i64 cols, .slice ea east.length ec, .int .i64 lofts, .slice sa svs.length sc, .int .i64 wrong]] W (BlameAny W wrong fv) := by
  obtain ⟨hv, hl2, hso⟩ := checkE_zero hk
  have hvb := vm_bounds hv
  by_cases hw : wrong < fewSum north cols east svs lofts
  · exact ⟨3, .inr ⟨rfl, hw⟩, fun W hW => (Blame_none north wrong cols lofts east svs ea sa ec sc W (he.below hW) (hs.below hW) hk hw).mono fun e w' ⟨h1, h2⟩ => ⟨_, _, _, h1, by omega, h2⟩⟩
  · refine ⟨0, .inl ⟨rfl, hw⟩, fun W hW => (Blame_ok north wrong cols lofts east svs ea sa ec sc W (he.below hW) (hs.below hW) hk hw).mono fun e w' ⟨v, h1, h2, h3⟩ => ?_⟩
    have hb := blamed_few (north := north) (cols := cols) (lofts := lofts) (east := east) (svs := svs) (by omega) (by omega) hw (fun s hs => by
      have := (List.all_eq_true.1 hso) s hs
      unfold svOk validSurveyB isInB at this
      simp at this
      omega)
    rw [← blameK_count] at hb
    rcases h2.2 with ⟨hn, h0⟩ | ⟨g, cap, cur, hv2, _⟩
    · subst hn
      exact ⟨_, _, _, h1, by omega, h3⟩
    · subst hv2
      exact ⟨_, _, _, h1, hb, h3⟩

abbrev LiarsGoal (cols lofts t : Int) : Prop := Calls Try.prog 9 #[.agg #[.int .i64 north, .int .i64 cols, .slice ea east.length ec, .int .i64 lofts, .slice sa svs.length sc, .int .i64 wrong], .int .i64 t] w fun e w' => e = .returned (.bool true) ∧ G w w'
theorem w1_spec (w : World) (c0 : Array Value) (t0 : TypeId) : G w (w.alloc (.cells c0 t0)) ∧ Blk (w.alloc (.cells c0 t0)) w.heap.size t0 c0 := ⟨(G.rf w).a _, Blk.new w t0 c0⟩
set_option maxRecDepth 100000 in
set_option maxHeartbeats 4000000 in
theorem liars_1 (cols lofts t : Int) (he : IntsAt w ea east) (hs : SvsAt w sa svs) (hl : east.length ≤ 9223372036854775807) (hl2 : svs.length ≤ 9223372036854775807) (hv : validB north cols east lofts svs wrong = false) : LiarsGoal north wrong east svs ea sa ec sc w cols lofts t := by
  obtain ⟨g0, b0⟩ := w1_spec w #[.int .i64 north, .int .i64 cols, .slice ea east.length ec, .int .i64 lofts, .slice sa svs.length sc, .int .i64 wrong] 25
  have hV := fun (W : World) (hW : G w W) => valid_any north cols lofts wrong east svs ea sa ec sc W (he.below hW) (hs.below hW) hl hl2
  rw [hv] at hV
  have HV := Lib.hid hV
  clear hV
  unfold LiarsGoal
  go_enter Try.func9, Try.ntmps9
  go_wp2_with (first | (go_at_call 19; refine (HV.out _ g0).mono ?_; rintro e w1 ⟨rfl, hG1⟩; replace g0 := g0.t hG1; clear hG1) | (go_at_call 16; refine (works_any _).mono ?_; rintro e w2 ⟨rfl, hG2⟩))
  go_ret
  exact ⟨rfl, g0.t hG2⟩
set_option maxRecDepth 100000 in
set_option maxHeartbeats 4000000 in
theorem liars_2 (t : Int) (he : IntsAt w ea east) (hs : SvsAt w sa svs) (hl : east.length ≤ 9223372036854775807) (hl2 : svs.length ≤ 9223372036854775807) (hv : validB north cols east lofts svs wrong = true) (hk : checkE north cols east lofts svs wrong = 0) (ht : t < 0 ∨ (svs.length : Int) ≤ t) : LiarsGoal north wrong east svs ea sa ec sc w cols lofts t := by
  obtain ⟨g0, b0⟩ := w1_spec w #[.int .i64 north, .int .i64 cols, .slice ea east.length ec, .int .i64 lofts, .slice sa svs.length sc, .int .i64 wrong] 25
  have hvb := vm_bounds (checkE_ok hk)
  have hV := fun (W : World) (hW : G w W) => valid_any north cols lofts wrong east svs ea sa ec sc W (he.below hW) (hs.below hW) hl hl2
  rw [hv] at hV
  have HV := Lib.hid hV
  have HF := Lib.hid (fun (W : World) (hW : G w W) => Fewest_ok north wrong cols lofts east svs ea sa ec sc W (he.below hW) (hs.below hW) hk)
  have hfl := fewSum_len north cols east svs lofts (by omega) (by omega)
  obtain ⟨fv, hfv, hB⟩ := Blame_any north wrong cols lofts east svs ea sa ec sc w he hs hk
  generalize fewSum north cols east svs lofts = F at *
  have HB := Lib.hid hB
  clear hB hV hvb hk
  have hF0 : ¬ (F : Int) < 0 := by omega
  have hfl' : ¬ svs.length < F := by omega
  unfold LiarsGoal
  rcases hfv with ⟨rfl, hw⟩ | ⟨rfl, hw⟩
  · have hw1 : decide ((F : Int) ≤ wrong) = true := by simp; omega
    rcases ht with ht | ht
    all_goals
      go_enter Try.func9, Try.ntmps9
      go_wp2_with (first | (go_at_call 19; refine (HV.out _ g0).mono ?_; rintro e w1 ⟨rfl, hG1⟩; replace b0 := b0.keep hG1; replace g0 := g0.t hG1; clear hG1; have m0 := b0.cell 0; have m1 := b0.cell 1; have m2 := b0.cell 2; have m3 := b0.cell 3; have m4 := b0.cell 4; have m5 := b0.cell 5) | (go_at_call 31; refine (HF.out _ g0).mono ?_; rintro e w2 ⟨rfl, hG1⟩; replace b0 := b0.keep hG1; replace g0 := g0.t hG1; clear hG1 m0 m1 m2 m3 m4 m5; have m0 := b0.cell 0; have m1 := b0.cell 1; have m2 := b0.cell 2; have m3 := b0.cell 3; have m4 := b0.cell 4; have m5 := b0.cell 5) | (go_at_call 32; refine (HB.out _ g0).mono ?_; rintro e w3 ⟨lv, ll, lc, rfl, hll, hG1⟩; replace b0 := b0.keep hG1; replace g0 := g0.t hG1; clear hG1 m0 m1 m2 m3 m4 m5; have m0 := b0.cell 0; have m1 := b0.cell 1; have m2 := b0.cell 2; have m3 := b0.cell 3; have m4 := b0.cell 4; have m5 := b0.cell 5; have hll' : ¬ wrong < (ll : Int) := by omega) | (go_at_call 16; refine (works_any _).mono ?_; rintro e w4 ⟨rfl, hG2⟩))
      go_ret
      exact ⟨rfl, g0.t hG2⟩
  · have hw1 : decide ((F : Int) ≤ wrong) = false := by simp; omega
    rcases ht with ht | ht
    all_goals
      go_enter Try.func9, Try.ntmps9
      go_wp2_with (first | (go_at_call 19; refine (HV.out _ g0).mono ?_; rintro e w1 ⟨rfl, hG1⟩; replace b0 := b0.keep hG1; replace g0 := g0.t hG1; clear hG1; have m0 := b0.cell 0; have m1 := b0.cell 1; have m2 := b0.cell 2; have m3 := b0.cell 3; have m4 := b0.cell 4; have m5 := b0.cell 5) | (go_at_call 31; refine (HF.out _ g0).mono ?_; rintro e w2 ⟨rfl, hG1⟩; replace b0 := b0.keep hG1; replace g0 := g0.t hG1; clear hG1 m0 m1 m2 m3 m4 m5; have m0 := b0.cell 0; have m1 := b0.cell 1; have m2 := b0.cell 2; have m3 := b0.cell 3; have m4 := b0.cell 4; have m5 := b0.cell 5) | (go_at_call 32; refine (HB.out _ g0).mono ?_; rintro e w3 ⟨lv, ll, lc, rfl, hll, hG1⟩; replace b0 := b0.keep hG1; replace g0 := g0.t hG1; clear hG1 m0 m1 m2 m3 m4 m5; have m0 := b0.cell 0; have m1 := b0.cell 1; have m2 := b0.cell 2; have m3 := b0.cell 3; have m4 := b0.cell 4; have m5 := b0.cell 5; have hll' : ¬ wrong < (ll : Int) := by omega) | (go_at_call 16; refine (works_any _).mono ?_; rintro e w4 ⟨rfl, hG2⟩))
      go_ret
      exact ⟨rfl, g0.t hG2⟩
end
end Go.Proofs.Ytpjfdfddcnocpaa
