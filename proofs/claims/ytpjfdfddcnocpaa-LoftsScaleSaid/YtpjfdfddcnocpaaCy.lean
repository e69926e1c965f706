import Derived.Test.YtpjfdfddcnocpaaCx
set_option linter.unusedSimpArgs false
set_option linter.unusedVariables false
namespace Go.Proofs.Ytpjfdfddcnocpaa
open Go.RowKit

def badB (north : Int) (east : List Int) (loft x y : Int) (s : Sv) : Bool := (s.loft == loft) && !holdsB north east s x y
def wrongN (north : Int) (east : List Int) (svs : List Sv) (loft x y : Int) : Nat := (svs.filter (badB north east loft x y)).length

theorem filter_take_succ {α : Type} [Inhabited α] (p : α → Bool) (l : List α) (k : Nat) (h : k < l.length) : ((l.take (k + 1)).filter p).length = ((l.take k).filter p).length + (if p (l.getD k default) then 1 else 0) := by
  rw [List.take_succ_eq_append_getElem h, List.filter_append]
  have : l.getD k default = l[k] := by simp [h]
  rw [this]
  cases hp : p l[k] <;> simp [hp]

set_option maxHeartbeats 4000000 in
theorem wrongAt_any (north cols lofts wrong loft x : Int) (q : Nat) (east : List Int) (svs : List Sv) (ea sa : Option Addr) (ec sc : Nat) (w : World) (he : IntsAt w ea east) (hs : SvsAt w sa svs)
    (hl2 : svs.length ≤ 16) (hv : validMapB north cols east lofts wrong = true) (hso : svs.all (svOk cols east.length lofts) = true) (hp : isPlaceB cols east.length x q = true) :
    Calls Try.prog 94 #[.agg #[.int .i64 north, .int .i64 cols, .slice ea east.length ec, .int .i64 lofts, .slice sa svs.length sc, .int .i64 wrong], .int .i64 loft, .agg #[.int .i64 x, .int .i64 q]] w fun e w' =>
    e = .returned (.int .i64 (wrongN north east svs loft x q)) ∧ G w w' := by
  have hH := fun (W : World) (hW : G w W) (s : Sv) (hs : svOk cols east.length lofts s = true) => holds_any north cols lofts wrong x q east s ea ec (.slice sa svs.length sc) W (he.below hW) hv hs hp
  have HH := Lib.hid hH
  clear hH he hv
  go_enter Try.func94, Try.ntmps94
  go_wp2_with fail
  obtain ⟨W0, hW0⟩ : ∃ W0, ((w.alloc (.cells #[.int .i64 north, .int .i64 cols, .slice ea east.length ec, .int .i64 lofts, .slice sa svs.length sc, .int .i64 wrong] 25)).alloc (.cells #[.int .i64 x, .int .i64 q] 27)) = W0 := ⟨_, rfl⟩
  have hG0 : G w W0 := by rw [← hW0]; exact ((G.rf _).a _).a _
  have k0 : Blk W0 w.heap.size 25 #[.int .i64 north, .int .i64 cols, .slice ea east.length ec, .int .i64 lofts, .slice sa svs.length sc, .int .i64 wrong] := by rw [← hW0]; exact (Blk.new _ _ _).alloc _
  have k1 : Blk W0 (w.heap.size + 1) 27 #[.int .i64 x, .int .i64 q] := by rw [← hW0]; exact Blk.new1 _ _ _ _
  rw [hW0]
  clear hW0
  go_loopw [7, 13] (fun n i wr => ∃ k : Nat, k ≤ svs.length ∧ i = .int .i64 k ∧ n = .int .i64 (((svs.take k).filter (badB north east loft x q)).length : Nat) ∧ G W0 wr) (fun _ i _ => svs.length - (intOf i).toNat)
  case atStart => exact ⟨0, Nat.zero_le _, rfl, rfl, G.rf _⟩
  case round =>
    obtain ⟨k, hk, rfl, rfl, hb0⟩ := hrel
    have hG := hG0.t hb0
    have j0 := k0.keep hb0
    have j1 := k1.keep hb0
    have hlen : ((svs.take k).filter (badB north east loft x q)).length ≤ k := by
      have := List.length_filter_le (badB north east loft x q) (svs.take k)
      have := List.length_take_le k svs
      omega
    by_cases hlt : k < svs.length
    · have hs' := hs.below hG
      rcases hs' with rfl | ⟨b, off, rfl, hbb, hcell⟩
      · simp at hlt
      have hcx := hcell k hlt
      have hfs := filter_take_succ (badB north east loft x q) svs k hlt
      have hsx : svOk cols east.length lofts (svs.getD k default) = true := by
        have := (List.all_eq_true.1 hso) svs[k] (List.getElem_mem hlt)
        simpa [hlt] using this
      generalize svs.getD k default = s at hcx hfs hsx
      clear hcell hs hso k0 k1
      have hH2 := fun (W : World) (hW : G w W) => HH.out W hW s hsx
      have HH2 := Lib.hid hH2
      clear hH2 HH hsx
      obtain ⟨x0, x1, x2, x3, x4, x5, x6, x7, x8, x9⟩ := hcx
      have m0 := j0.cell 0
      have m1 := j0.cell 1
      have m2 := j0.cell 2
      have m3 := j0.cell 3
      have m4 := j0.cell 4
      have m5 := j0.cell 5
      have n0 := j1.cell 0
      have n1 := j1.cell 1
      have l0 := j0.lt
      have l1 := j1.lt
      clear j0 j1
      have hb : badB north east loft x q s = ((s.loft == loft) && !holdsB north east s x q) := rfl
      by_cases hl : s.loft = loft
      · have hlb : (s.loft == loft) = true := by simp [hl]
        cases hh : holdsB north east s x q
        · rw [hlb, hh] at hb
          rw [hb] at hfs
          have HF := Lib.hid hfs
          clear hfs hb hl
          go_wp2_with (go_at_call 95; refine (HH2.out _ (hG.a _)).mono ?_; rintro e w' ⟨rfl, hGx⟩)
          go_roundw
          case rel => exact ⟨k + 1, by omega, by go_num, by rw [HF.out]; go_num, (hb0.a _).t hGx⟩
          case measure => simp [intOf]; omega
        · rw [hlb, hh] at hb
          rw [hb] at hfs
          have HF := Lib.hid hfs
          clear hfs hb hl
          go_wp2_with (go_at_call 95; refine (HH2.out _ (hG.a _)).mono ?_; rintro e w' ⟨rfl, hGx⟩)
          go_roundw
          case rel => exact ⟨k + 1, by omega, by go_num, by rw [HF.out]; rfl, (hb0.a _).t hGx⟩
          case measure => simp [intOf]; omega
      · have hlb : (s.loft == loft) = false := by simp [hl]
        rw [hlb] at hb
        rw [hb] at hfs
        have HF := Lib.hid hfs
        clear hfs hb hl
        go_wp2_with (go_at_call 95; refine (HH2.out _ (hG.a _)).mono ?_; rintro e w' ⟨rfl, hGx⟩)
        go_roundw
        case rel => exact ⟨k + 1, by omega, by go_num, by rw [HF.out]; rfl, hb0.a _⟩
        case measure => simp [intOf]; omega
    · have : svs.take k = svs := List.take_of_length_le (by omega)
      rw [this]
      go_wp2
      go_ret
      exact ⟨rfl, hG⟩
end Go.Proofs.Ytpjfdfddcnocpaa
