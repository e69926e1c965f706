import Derived.Test.YtpjfdfddcnocpaaYb
set_option linter.unusedSimpArgs false
set_option linter.unusedVariables false
namespace Go.Proofs.Ytpjfdfddcnocpaa
open Go.RowKit Go.ChangeShapes Go.WideShapes Go.ChangeAt
set_option maxRecDepth 100000

section
variable {H : Type} {enc : TypeId × Value → H} {w : World}
theorem map_cap {v0 v1 v2 v3 v5 : Value} {sa : Option Addr} {k sc : Nat} {d : DataW H} {p : List MemPlace} (h : DataW.Trod enc Try.prog w 0 (fun _ => true) true 25 (.agg #[v0, v1, v2, v3, .slice sa k sc, v5]) d p) : k ≤ sc := by
  obtain ⟨fuel, hf0⟩ := h
  obtain ⟨xs, n, _, _, hl, hlen, hf⟩ := DataW.trod_struct Try.underlying25 hf0
  match xs, hlen with
  | [y0, y1, y2, y3, y4, y5], _ =>
    have h4 := hf 4 _ rfl
    simp [k23, Value.cells] at h4
    rcases Deep.open_slice Try.underlying23 h4 with ⟨e, _⟩ | ⟨a, len, cap, m, n, D, Pl, e, _, hc, _⟩
    · simp at e
      omega
    · simp at e
      omega
end
theorem validB_ok {north cols lofts wrong : Int} {east : List Int} {svs : List Sv} (h : validB north cols east lofts svs wrong = true) : checkE north cols east lofts svs wrong = 0 := by
  unfold validB at h
  simp at h
  exact h.2
theorem loft_nat {a lofts : Int} (h : (decide (0 ≤ a) && decide (a < lofts)) = true) : ∃ n : Nat, a = n ∧ (n : Int) < lofts := by
  simp at h
  obtain ⟨n, rfl⟩ := Int.eq_ofNat_of_zero_le h.1
  exact ⟨n, rfl, h.2⟩
theorem Order_any (north cols lofts wrong t o a b r rc px py qx qy : Int) (east : List Int) (svs : List Sv) (ea sa : Option Addr) (ec sc : Nat) (w : World) (he : IntsAt w ea east) (hs : SvsAt w sa svs) (hn : sa = none → sc = 0)
    (hl : east.length ≤ 9223372036854775807) (hl2 : svs.length ≤ 9223372036854775807) : OrderGoal north cols lofts wrong t o a b r rc px py qx qy east svs ea sa ec sc w := by
  cases hv : validB north cols east lofts svs wrong
  · exact order_1 north cols lofts wrong t o a b r rc px py qx qy east svs ea sa ec sc w he hs hl hl2 hv
  by_cases h1 : t < 0
  · exact order_2 north cols lofts wrong t o a b r rc px py qx qy east svs ea sa ec sc w he hs hl hl2 hv h1
  by_cases h2 : 100 < t
  · exact order_3 north cols lofts wrong t o a b r rc px py qx qy east svs ea sa ec sc w he hs hl hl2 hv h1 h2
  cases ha : (decide (0 ≤ a) && decide (a < lofts))
  · exact order_4 north cols lofts wrong t o a b r rc px py qx qy east svs ea sa ec sc w he hs hl hl2 hv h1 h2 ha
  cases hb : (decide (0 ≤ b) && decide (b < lofts))
  · exact order_5 north cols lofts wrong t o a b r rc px py qx qy east svs ea sa ec sc w he hs hl hl2 hv h1 h2 ha hb
  cases ho : (decide (0 ≤ o) && decide (o < lofts))
  · exact order_6 north cols lofts wrong t o a b r rc px py qx qy east svs ea sa ec sc w he hs hl hl2 hv h1 h2 ha hb ho
  have hk := validB_ok hv
  have hvb := vm_bounds (checkE_ok hk)
  obtain ⟨an, rfl, ha'⟩ := loft_nat ha
  obtain ⟨bn, rfl, hb'⟩ := loft_nat hb
  obtain ⟨on, rfl, ho'⟩ := loft_nat ho
  obtain ⟨cn, rfl⟩ := Int.eq_ofNat_of_zero_le (show 0 ≤ cols by omega)
  obtain ⟨ln, rfl⟩ := Int.eq_ofNat_of_zero_le (show 0 ≤ lofts by omega)
  obtain ⟨tn, rfl⟩ := Int.eq_ofNat_of_zero_le (show 0 ≤ t by omega)
  exact order_main north wrong r rc px py qx qy cn ln on an bn tn east svs ea sa ec sc w he hs hn hl hl2 hv hk (by omega) (by omega) (by omega) (by omega)
end Go.Proofs.Ytpjfdfddcnocpaa
