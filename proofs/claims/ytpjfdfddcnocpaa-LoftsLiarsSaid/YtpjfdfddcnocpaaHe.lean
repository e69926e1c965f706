import Derived.Test.YtpjfdfddcnocpaaHd
set_option linter.unusedSimpArgs false
set_option linter.unusedVariables false
namespace Go.Proofs.Ytpjfdfddcnocpaa
open Go.RowKit Go.ChangeShapes Go.WideShapes Go.ChangeAt
set_option maxRecDepth 100000

section
variable {H : Type} {enc : TypeId × Value → H} {w : World}
theorem map_cap {v0 v1 v2 v3 v5 : Value} {sa : Option Addr} {k sc : Nat} {d : DataW H} {p : List MemPlace} (h : DataW.Trod enc Try.prog w 0 (fun _ => true) true 25 (.agg #[v0, v1, v2, v3, .slice sa k sc, v5]) d p) : k ≤ sc := by
  obtain ⟨fuel, hf0⟩ := h
  obtain ⟨xs, n, _, _, hl, hlen, hf⟩ := DataW.trod_struct Try.underlying25 hf0
  match xs, hlen with
  | [y0, y1, y2, y3, y4, y5], _ =>
    have h4 := hf 4 _ rfl
    simp [k23, Value.cells] at h4
    rcases Deep.open_slice Try.underlying23 h4 with ⟨e, _⟩ | ⟨a, len, cap, m, n, D, Pl, e, _, hc, _⟩
    · simp at e
      omega
    · simp at e
      omega
end
theorem validB_ok {north cols lofts wrong : Int} {east : List Int} {svs : List Sv} (h : validB north cols east lofts svs wrong = true) : checkE north cols east lofts svs wrong = 0 := by
  unfold validB at h
  simp at h
  exact h.2
theorem Liars_any (north cols lofts wrong t : Int) (east : List Int) (svs : List Sv) (ea sa : Option Addr) (ec sc : Nat) (w : World) (he : IntsAt w ea east) (hs : SvsAt w sa svs) (hn : sa = none → sc = 0) (hcap : svs.length ≤ sc)
    (hl : east.length ≤ 9223372036854775807) (hl2 : svs.length ≤ 9223372036854775807) : LiarsGoal north wrong east svs ea sa ec sc w cols lofts t := by
  cases hv : validB north cols east lofts svs wrong
  · exact liars_1 north wrong east svs ea sa ec sc w cols lofts t he hs hl hl2 hv
  have hk := validB_ok hv
  have hvb := vm_bounds (checkE_ok hk)
  obtain ⟨cn, rfl⟩ := Int.eq_ofNat_of_zero_le (show 0 ≤ cols by omega)
  obtain ⟨ln, rfl⟩ := Int.eq_ofNat_of_zero_le (show 0 ≤ lofts by omega)
  by_cases ht : t < 0 ∨ (svs.length : Int) ≤ t
  · exact liars_2 north wrong cn ln east svs ea sa ec sc w t he hs hl hl2 hv hk ht
  · obtain ⟨i, rfl⟩ := Int.eq_ofNat_of_zero_le (show 0 ≤ t by omega)
    exact liars_3 north wrong cn ln east svs ea sa ec sc w i he hs hn hcap hl hl2 hv hk (by omega)
end Go.Proofs.Ytpjfdfddcnocpaa
