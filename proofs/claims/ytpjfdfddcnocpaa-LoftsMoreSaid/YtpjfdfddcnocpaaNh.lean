import Derived.Test.YtpjfdfddcnocpaaNg
set_option linter.unusedSimpArgs false
set_option linter.unusedVariables false
namespace Go.Proofs.Ytpjfdfddcnocpaa
open Go.RowKit Go.ChangeShapes Go.WideShapes Go.ChangeAt
set_option maxRecDepth 100000

section
variable {H : Type} {enc : TypeId × Value → H} {w : World}
theorem map_cap {v0 v1 v2 v3 v5 : Value} {sa : Option Addr} {k sc : Nat} {d : DataW H} {p : List MemPlace} (h : DataW.Trod enc Try.prog w 0 (fun _ => true) true 25 (.agg #[v0, v1, v2, v3, .slice sa k sc, v5]) d p) : k ≤ sc := by
  obtain ⟨fuel, hf0⟩ := h
  obtain ⟨xs, n, _, _, hl, hlen, hf⟩ := DataW.trod_struct Try.underlying25 hf0
  match xs, hlen with
  | [y0, y1, y2, y3, y4, y5], _ =>
    have h4 := hf 4 _ rfl
    simp [k23, Value.cells] at h4
    rcases Deep.open_slice Try.underlying23 h4 with ⟨e, _⟩ | ⟨a, len, cap, m, n, D, Pl, e, _, hc, _⟩
    · simp at e
      omega
    · simp at e
      omega
end
section
variable {H : Type} {enc : TypeId × Value → H} {w : World}
theorem survey_val {v : Value} {d : DataW H} {p : List MemPlace} {r : Reach} {b0 : Nat} (hv : Value.okWide Try.prog w r b0 56 v) (h : DataW.Trod enc Try.prog w 0 (fun _ => true) true 56 v d p) :
    ∃ s : Sv, v = .agg #[.int .i64 s.loft, .int .i64 s.kind, .int .i64 s.xl, .int .i64 s.xh, .int .i64 s.yl, .int .i64 s.yh, .int .i64 s.ax, .int .i64 s.ay, .int .i64 s.dl, .int .i64 s.dh] := by
  obtain ⟨cs, rfl, hsz⟩ := okWide_struct Try.underlying56 hv
  obtain ⟨l⟩ := cs
  obtain ⟨fuel, hf0⟩ := h
  obtain ⟨s, e⟩ := survey_of hf0
  have e' : l = [.int .i64 s.loft, .int .i64 s.kind, .int .i64 s.xl, .int .i64 s.xh, .int .i64 s.yl, .int .i64 s.yh, .int .i64 s.ax, .int .i64 s.ay, .int .i64 s.dl, .int .i64 s.dh] := by simpa [Value.cells] using e
  exact ⟨s, by rw [e']⟩
end
theorem More_any (north cols lofts wrong f a b r rc px py qx qy : Int) (s : Sv) (east : List Int) (svs : List Sv) (ea sa : Option Addr) (ec sc : Nat) (w : World) (he : IntsAt w ea east) (hs : SvsAt w sa svs) (hn : sa = none → sc = 0)
    (hl : east.length ≤ 9223372036854775807) (hl2 : svs.length ≤ 9223372036854775807) : MoreGoal north cols lofts wrong f a b r rc px py qx qy s east svs ea sa ec sc w := by
  cases hv : validB north cols east lofts svs wrong
  · exact more_1 north cols lofts wrong f a b r rc px py qx qy s east svs ea sa ec sc w he hs hl hl2 hv
  by_cases h : 16 ≤ svs.length
  · exact more_2 north cols lofts wrong f a b r rc px py qx qy s east svs ea sa ec sc w he hs hl hl2 hv h
  cases ha : (decide (0 ≤ a) && decide (a < lofts))
  · exact more_3 north cols lofts wrong f a b r rc px py qx qy s east svs ea sa ec sc w he hs hl hl2 hv h ha
  cases hb : (decide (0 ≤ b) && decide (b < lofts))
  · exact more_4 north cols lofts wrong f a b r rc px py qx qy s east svs ea sa ec sc w he hs hl hl2 hv h ha hb
  have hk := validB_ok hv
  have hvb := vm_bounds (checkE_ok hk)
  obtain ⟨an, rfl, ha'⟩ := loft_nat ha
  obtain ⟨bn, rfl, hb'⟩ := loft_nat hb
  obtain ⟨cn, rfl⟩ := Int.eq_ofNat_of_zero_le (show 0 ≤ cols by omega)
  obtain ⟨ln, rfl⟩ := Int.eq_ofNat_of_zero_le (show 0 ≤ lofts by omega)
  exact more_main north wrong f r rc px py qx qy cn ln an bn s east svs ea sa ec sc w he hs hn hl hl2 hv hk h (by omega) (by omega)
end Go.Proofs.Ytpjfdfddcnocpaa
