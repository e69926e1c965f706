import Derived.Test.YtpjfdfddcnocpaaOn
set_option linter.unusedSimpArgs false
set_option linter.unusedVariables false
namespace Go.Proofs.Ytpjfdfddcnocpaa
open Go.RowKit

set_option maxHeartbeats 2000000 in
theorem question_err (north cols lofts wrong : Int) (east : List Int) (svs : List Sv) (ea sa : Option Addr) (ec sc : Nat) (d : Bool) (L : Value) (w : World) (he : IntsAt w ea east) (hs : SvsAt w sa svs) (hl : east.length ≤ 9223372036854775807) (hl2 : svs.length ≤ 9223372036854775807)
    (hk : checkE north cols east lofts svs wrong ≠ 0) :
    Calls Try.prog 57 #[.agg #[.int .i64 north, .int .i64 cols, .slice ea east.length ec, .int .i64 lofts, .slice sa svs.length sc, .int .i64 wrong], .bool d, L] w fun e w' =>
      e = .returned (.tuple #[.pointer none, .int .i64 (checkE north cols east lofts svs wrong)]) ∧ G w w' := by
  have hC := fun (W : World) (hW : G w W) => Check_any north cols lofts wrong east svs ea sa ec sc W (he.below hW) (hs.below hW) hl hl2
  have hG1 : G w (w.alloc (.cells #[.int .i64 north, .int .i64 cols, .slice ea east.length ec, .int .i64 lofts, .slice sa svs.length sc, .int .i64 wrong] 25)) := (G.rf _).a _
  have HC := Lib.hid hC
  clear hC
  generalize checkE north cols east lofts svs wrong = E at *
  go_enter Try.func57, Try.ntmps57
  go_wp2_with (go_at_call 34; refine (HC.out _ hG1).mono ?_; rintro e w' ⟨rfl, hGx⟩; have hcy := (bcellB hGx).1; have hG := G.t hG1 hGx)
  go_ret2
  exact ⟨rfl, hG⟩

/-- what a question answers of a valid map -/
def QPost (w : World) (north wrong : Int) (cols lofts : Nat) (east : List Int) (svs : List Sv) (ea sa : Option Addr) (ec sc : Nat) (D : Bool) (e : Ending) (w' : World) : Prop :=
  G w w' ∧ if D = false then e = .returned (.tuple #[.pointer none, .int .i64 1])
    else if wrong < fewSum north cols east svs lofts then e = .returned (.tuple #[.pointer none, .int .i64 3])
    else ∃ O, w.heap.size ≤ O ∧ e = .returned (.tuple #[.pointer (some ⟨O, 0, none⟩), .int .i64 0]) ∧ Opened w' O north wrong cols lofts (.slice ea east.length ec) (.slice sa svs.length sc) (fewSum north cols east svs lofts) (spotsOf north cols east svs)

set_option maxHeartbeats 4000000 in
theorem question_ok (north wrong : Int) (cols lofts : Nat) (east : List Int) (svs : List Sv) (ea sa : Option Addr) (ec sc : Nat) (d : Bool) (ls : List Int) (la : Option Addr) (lc : Nat) (w : World) (he : IntsAt w ea east) (hs : SvsAt w sa svs) (hls : IntsAt w la ls) (hll : ls.length ≤ 9223372036854775807)
    (hk : checkE north cols east lofts svs wrong = 0) :
    Calls Try.prog 57 #[.agg #[.int .i64 north, .int .i64 cols, .slice ea east.length ec, .int .i64 lofts, .slice sa svs.length sc, .int .i64 wrong], .bool d, .slice la ls.length lc] w
      (QPost w north wrong cols lofts east svs ea sa ec sc (d && ls.all fun n => isInB n 0 (lofts - 1))) := by
  obtain ⟨hv, hl2, hso⟩ := checkE_zero hk
  have hvb := vm_bounds hv
  have hlf : 0 ≤ (lofts : Int) ∧ (lofts : Int) ≤ 9223372036854775807 := by omega
  have hC := fun (W : World) (hW : G w W) => Check_any north cols lofts wrong east svs ea sa ec sc W (he.below hW) (hs.below hW) (by omega) (by omega)
  rw [hk] at hC
  have hO := fun (W : World) (hW : G w W) => open_any north wrong cols lofts east svs ea sa ec sc W (he.below hW) (hs.below hW) hl2 hv hso
  have hfs : fewSum north cols east svs lofts ≤ 128 := Nat.le_trans (fewSum_le north cols east svs lofts hl2) (by omega)
  have hS := fun (W : World) (O : Nat) (h : Opened W O north wrong cols lofts (.slice ea east.length ec) (.slice sa svs.length sc) (fewSum north cols east svs lofts) (spotsOf north cols east svs)) =>
    spare_any W h (by omega) hfs
  have hL := fun (W : World) (n : Int) => isLoft_any north cols lofts wrong n (.slice ea east.length ec) (.slice sa svs.length sc) W hlf
  have hG1 : G w (w.alloc (.cells #[.int .i64 north, .int .i64 cols, .slice ea east.length ec, .int .i64 lofts, .slice sa svs.length sc, .int .i64 wrong] 25)) := (G.rf _).a _
  have hB1 : Blk (w.alloc (.cells #[.int .i64 north, .int .i64 cols, .slice ea east.length ec, .int .i64 lofts, .slice sa svs.length sc, .int .i64 wrong] 25)) w.heap.size 25 #[.int .i64 north, .int .i64 cols, .slice ea east.length ec, .int .i64 lofts, .slice sa svs.length sc, .int .i64 wrong] := Blk.new _ _ _
  have HC := Lib.hid hC
  have HO := Lib.hid hO
  have HS := Lib.hid hS
  have HL := Lib.hid hL
  clear hC hO hS hL hk hvb hv
  go_enter Try.func57, Try.ntmps57
  go_wp2_with (go_at_call 34; refine (HC.out _ hG1).mono ?_; rintro e w' ⟨rfl, hGx⟩; have hcy := (bcellB hGx).1; have hG := G.t hG1 hGx; have hB := hB1.keep hGx)
  clear hcy hGx hG1 hB1 HC
  rename_i w'
  go_loopw [1, 19] (fun b i W' => ∃ k : Nat, k ≤ ls.length ∧ i = .int .i64 k ∧ b = .bool (d && (ls.take k).all fun n => isInB n 0 (lofts - 1)) ∧ G w W' ∧ Blk W' w.heap.size 25 #[.int .i64 north, .int .i64 cols, .slice ea east.length ec, .int .i64 lofts, .slice sa svs.length sc, .int .i64 wrong]) (fun _ i _ => ls.length - (intOf i).toNat)
  case atStart => exact ⟨0, Nat.zero_le _, rfl, by simp, hG, hB⟩
  case round =>
    clear hG hB
    obtain ⟨k, hk, rfl, rfl, hG, hB⟩ := hrel
    have m0 := hB.cell 0
    have m1 := hB.cell 1
    have m2 := hB.cell 2
    have m3 := hB.cell 3
    have m4 := hB.cell 4
    have m5 := hB.cell 5
    by_cases hlt : k < ls.length
    · have hls' := hls.below hG
      rcases hls' with rfl | ⟨b, off, rfl, hbb, hcell⟩
      · simp at hlt
      have hcx := hcell k hlt
      have hat := all_take_succ (fun n => isInB n 0 (lofts - 1)) ls k hlt
      have hki : (k : Int) < ls.length := by omega
      generalize ls.getD k 0 = x at hcx hat
      have HAT := Lib.hid hat
      clear hat hcell
      cases hb : (d && (ls.take k).all fun n => isInB n 0 (lofts - 1))
      · go_wp2_with (go_at_call 86; refine (HL.out _ _).mono ?_; rintro e w' ⟨rfl, hGx⟩)
        refine ⟨⟨k + 1, by omega, by simp, ?_, hG, hB⟩, by simp [intOf]; omega⟩
        rw [HAT.out, ← Bool.and_assoc, hb]; rfl
      · go_wp2_with (go_at_call 86; refine (HL.out _ _).mono ?_; rintro e w' ⟨rfl, hGx⟩)
        refine ⟨⟨k + 1, by omega, by simp, ?_, hG.t hGx, hB.keep hGx⟩, by simp [intOf]; omega⟩
        rw [HAT.out, ← Bool.and_assoc, hb]; rfl
    · have hta : ls.take k = ls := List.take_of_length_le (by omega)
      rw [hta]
      obtain ⟨D, hD⟩ : ∃ D, (d && ls.all fun n => isInB n 0 (lofts - 1)) = D := ⟨_, rfl⟩
      rw [hD]
      have HD := Lib.hid hD
      clear hD
      cases D
      · go_wp2
        go_ret2
        refine ⟨hG, ?_⟩
        rw [HD.out, if_pos rfl]
        rfl
      · by_cases hw : wrong - (fewSum north cols east svs lofts : Int) < 0
        · go_wp2_with (first | (go_at_call 64; refine (HO.out _ hG).mono ?_; rintro e w' ⟨rfl, hOp, hGx⟩; have hG := G.t hG hGx) | (go_at_call 87; refine (HS.out _ _ hOp).mono ?_; rintro e w' ⟨rfl, hGx⟩; have hG := G.t hG hGx))
          go_ret2
          refine ⟨hG, ?_⟩
          rw [HD.out, if_neg (by simp), if_pos (by omega)]
          rfl
        · go_wp2_with (first | (go_at_call 64; refine (HO.out _ hG).mono ?_; rintro e w' ⟨rfl, hOp, hGx⟩; have hGo := hG; have hG := G.t hG hGx) | (go_at_call 87; refine (HS.out _ _ hOp).mono ?_; rintro e w' ⟨rfl, hGx⟩; have hG := G.t hG hGx; have hOp := hOp.keep hGx))
          go_ret2
          refine ⟨hG, ?_⟩
          rw [HD.out, if_neg (by simp), if_neg (by omega)]
          exact ⟨_, by have := hGo.size; omega, rfl, hOp⟩
end Go.Proofs.Ytpjfdfddcnocpaa
