import Derived.Test.YtpjfdfddcnocpaaXc
import Derived.Test.YtpjfdfddcnocpaaWg
set_option linter.unusedSimpArgs false
set_option linter.unusedVariables false
namespace Go.Proofs.Ytpjfdfddcnocpaa
open Go.RowKit Go.ChangeShapes Go.WideShapes Go.ChangeAt
set_option maxRecDepth 100000

theorem Scale_any (north cols lofts wrong t f a b r rc px py qx qy : Int) (east : List Int) (svs : List Sv) (ea sa : Option Addr) (ec sc : Nat) (w : World) (he : IntsAt w ea east) (hs : SvsAt w sa svs) (hn : sa = none → sc = 0)
    (hl : east.length ≤ 9223372036854775807) (hl2 : svs.length ≤ 9223372036854775807) : ScaleGoal north cols lofts wrong t f a b r rc px py qx qy east svs ea sa ec sc w := by
  by_cases h : 40 < east.length
  · exact scale_1 north cols lofts wrong t f a b r rc px py qx qy east svs ea sa ec sc w hl h
  by_cases h2 : 60 < svs.length
  · exact scale_2 north cols lofts wrong t f a b r rc px py qx qy east svs ea sa ec sc w hl2 h h2
  by_cases h3 : t < 1
  · exact scale_3 north cols lofts wrong t f a b r rc px py qx qy east svs ea sa ec sc w h h2 h3
  by_cases h4 : 1000 < t
  · exact scale_4 north cols lofts wrong t f a b r rc px py qx qy east svs ea sa ec sc w h h2 h3 h4
  cases hk : (checkE north cols east lofts svs wrong == 0)
  · exact scale_5 north cols lofts wrong t f a b r rc px py qx qy east svs ea sa ec sc w he hs hl hl2 h h2 h3 h4 hk
  have hk : checkE north cols east lofts svs wrong = 0 := by simpa using hk
  cases hp : isPlaceB cols east.length px py
  · exact scale_6 north cols lofts wrong t f a b r rc px py qx qy east svs ea sa ec sc w he hs hl hl2 h h2 h3 h4 hk hp
  cases hq : isPlaceB cols east.length qx qy
  · exact scale_7 north cols lofts wrong t f a b r rc px py qx qy east svs ea sa ec sc w he hs hl hl2 h h2 h3 h4 hk hp hq
  have hp0 : 0 ≤ py := by simp [isPlaceB, isInB] at hp; omega
  have hq0 : 0 ≤ qy := by simp [isPlaceB, isInB] at hq; omega
  obtain ⟨p, rfl⟩ := Int.eq_ofNat_of_zero_le hp0
  obtain ⟨q, rfl⟩ := Int.eq_ofNat_of_zero_le hq0
  exact scale_main north cols lofts wrong t f a b r rc px qx p q east svs ea sa ec sc w he hs hn h h2 h3 h4 hk hp hq

section
variable {H : Type} {enc : TypeId × Value → H} {w : World}
theorem k38 : Try.prog.cellsOf 38 = 9 := by kernel_rfl
theorem map_nil {v0 v1 v2 v3 v5 : Value} {sa : Option Addr} {k sc : Nat} {d : DataW H} {p : List MemPlace} (h : DataW.Trod enc Try.prog w 0 (fun _ => true) true 25 (.agg #[v0, v1, v2, v3, .slice sa k sc, v5]) d p) : sa = none → sc = 0 := by
  obtain ⟨fuel, hf0⟩ := h
  obtain ⟨xs, n, _, _, hl, hlen, hf⟩ := DataW.trod_struct Try.underlying25 hf0
  match xs, hlen with
  | [y0, y1, y2, y3, y4, y5], _ =>
    have h4 := hf 4 _ rfl
    simp [k23, Value.cells] at h4
    rcases Deep.open_slice Try.underlying23 h4 with ⟨e, _⟩ | ⟨a, len, cap, m, n, D, Pl, e, _⟩
    · simp at e
      exact fun _ => e.2.2
    · simp at e
      intro hs
      rw [hs] at e
      simp at e
theorem ask_val {v : Value} {d : DataW H} {p : List MemPlace} {r : Reach} {b0 : Nat} (hv : Value.okWide Try.prog w r b0 38 v) (h : DataW.Trod enc Try.prog w 0 (fun _ => true) true 38 v d p) :
    ∃ f a b r rc px py qx qy : Int, v = .agg #[.int .i64 f, .int .i64 a, .int .i64 b, .int .i64 r, .int .i64 rc, .int .i64 px, .int .i64 py, .int .i64 qx, .int .i64 qy] := by
  obtain ⟨cs, rfl, hsz⟩ := okWide_struct Try.underlying38 hv
  rw [k38] at hsz
  obtain ⟨l⟩ := cs
  obtain ⟨fuel, hf0⟩ := h
  obtain ⟨xs, n, _, _, hl, hlen, hf⟩ := DataW.trod_struct Try.underlying38 hf0
  match l, hsz, xs, hlen with
  | [c0, c1, c2, c3, c4, c5, c6, c7, c8], _, [y0, y1, y2, y3, y4, y5, y6], _ =>
    have h0 := hf 0 _ rfl
    have h1 := hf 1 _ rfl
    have h2 := hf 2 _ rfl
    have h3 := hf 3 _ rfl
    have h4 := hf 4 _ rfl
    have h5 := hf 5 _ rfl
    have h6 := hf 6 _ rfl
    simp [k3, k27, Value.cells] at h0 h1 h2 h3 h4 h5 h6
    obtain ⟨a0, e0, _, _⟩ := DataW.trod_int Try.underlying3 h0
    obtain ⟨a1, e1, _, _⟩ := DataW.trod_int Try.underlying3 h1
    obtain ⟨a2, e2, _, _⟩ := DataW.trod_int Try.underlying3 h2
    obtain ⟨a3, e3, _, _⟩ := DataW.trod_int Try.underlying3 h3
    obtain ⟨a4, e4, _, _⟩ := DataW.trod_int Try.underlying3 h4
    obtain ⟨a5, a6, e5⟩ := point_of h5
    obtain ⟨a7, a8, e6⟩ := point_of h6
    simp at e0 e1 e2 e3 e4 e5 e6
    exact ⟨a0, a1, a2, a3, a4, a5, a6, a7, a8, by simp [e0, e1, e2, e3, e4, e5, e6]⟩
end
end Go.Proofs.Ytpjfdfddcnocpaa
