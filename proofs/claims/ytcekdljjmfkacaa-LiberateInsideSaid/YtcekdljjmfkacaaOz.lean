import Derived.Test.YtcekdljjmfkacaaOv
import Derived.Test.YtcekdljjmfkacaaOi
import Derived.Deep.Cut
set_option linter.unusedSimpArgs false
set_option linter.unusedVariables false
namespace Go.Proofs.Ytcekdljjmfkacaa
open Go.RowKit Go.ChangeShapes Go.WideShapes Go.ChangeAt
set_option maxRecDepth 100000
theorem k60 : Try.prog.cellsOf 60 = 12 := by kernel_rfl
theorem k55 : Try.prog.cellsOf 55 = 6 := by kernel_rfl
theorem k33 : Try.prog.cellsOf 33 = 3 := by kernel_rfl
theorem k35 : Try.prog.cellsOf 35 = 17 := by kernel_rfl
theorem k28 : Try.prog.cellsOf 28 = 1 := by kernel_rfl
theorem k31 : Try.prog.cellsOf 31 = 1 := by kernel_rfl
section
variable {H : Type} {enc : TypeId × Value → H} {w : World} {fuel : Nat}
theorem sky_of {cs : List Value} {x : DataW H × List MemPlace} {fuel : Nat} (h : DataW.trod enc Try.prog w 0 (fun _ => true) true fuel 55 cs = some x) : ∃ a b c d e f, cs = [.int .i64 a, .int .i64 b, .int .i64 c, .int .i64 d, .int .i64 e, .int .i64 f] := by
  obtain ⟨xs, n, _, _, hl, hlen, hf⟩ := DataW.trod_struct Try.underlying55 h
  rw [k55] at hl
  match cs, hl, xs, hlen with
  | [c0, c1, c2, c3, c4, c5], _, [y0, y1, y2], _ =>
    have h0 := hf 0 _ rfl
    have h1 := hf 1 _ rfl
    have h2 := hf 2 _ rfl
    simp [k46] at h0 h1 h2
    obtain ⟨a0, a1, e0⟩ := span_of h0
    obtain ⟨a2, a3, e1⟩ := span_of h1
    obtain ⟨a4, a5, e2⟩ := span_of h2
    simp at e0 e1 e2
    exact ⟨a0, a1, a2, a3, a4, a5, by simp [e0, e1, e2]⟩
theorem lims_of {cs : List Value} {x : DataW H × List MemPlace} {fuel : Nat} (h : DataW.trod enc Try.prog w 0 (fun _ => true) true fuel 33 cs = some x) : ∃ a b c, cs = [.int .i64 a, .int .i64 b, .int .i64 c] := by
  obtain ⟨xs, n, _, _, hl, hlen, hf⟩ := DataW.trod_struct Try.underlying33 h
  rw [k33] at hl
  match cs, hl, xs, hlen with
  | [c0, c1, c2], _, [y0, y1, y2], _ =>
    have h0 := hf 0 _ rfl
    have h1 := hf 1 _ rfl
    have h2 := hf 2 _ rfl
    simp [k3] at h0 h1 h2
    obtain ⟨a0, e0, _, _⟩ := DataW.trod_int Try.underlying3 h0
    obtain ⟨a1, e1, _, _⟩ := DataW.trod_int Try.underlying3 h1
    obtain ⟨a2, e2, _, _⟩ := DataW.trod_int Try.underlying3 h2
    simp at e0 e1 e2
    exact ⟨a0, a1, a2, by simp [e0, e1, e2]⟩
theorem front_cells {cs : List Value} {x : DataW H × List MemPlace} {fuel : Nat} (h : DataW.trod enc Try.prog w 0 (fun _ => true) true fuel 60 cs = some x) : ∃ f : Nat → Int, ∀ r, r < 12 → cs[r]? = some (.int .i64 (f r)) := by
  obtain ⟨xs, n, _, _, hl, hlen, hf⟩ := DataW.trod_struct Try.underlying60 h
  rw [k60] at hl
  match cs, hl, xs, hlen with
  | [c0, c1, c2, c3, c4, c5, c6, c7, c8, c9, c10, c11], _, [y0, y1, y2, y3], _ =>
    have h0 := hf 0 _ rfl
    have h1 := hf 1 _ rfl
    have h2 := hf 2 _ rfl
    have h3 := hf 3 _ rfl
    simp [k46, k55] at h0 h1 h2 h3
    obtain ⟨a0, a1, e0⟩ := span_of h0
    obtain ⟨a2, a3, e1⟩ := span_of h1
    obtain ⟨a4, a5, e2⟩ := span_of h2
    obtain ⟨a6, a7, a8, a9, a10, a11, e3⟩ := sky_of h3
    simp at e0 e1 e2 e3
    refine ⟨fun r => ([a0, a1, a2, a3, a4, a5, a6, a7, a8, a9, a10, a11] : List Int).getD r 0, fun r hr => ?_⟩
    obtain ⟨rfl, rfl⟩ := e0
    obtain ⟨rfl, rfl⟩ := e1
    obtain ⟨rfl, rfl⟩ := e2
    obtain ⟨rfl, rfl, rfl, rfl, rfl, rfl⟩ := e3
    match r, hr with
    | 0, _ => rfl
    | 1, _ => rfl
    | 2, _ => rfl
    | 3, _ => rfl
    | 4, _ => rfl
    | 5, _ => rfl
    | 6, _ => rfl
    | 7, _ => rfl
    | 8, _ => rfl
    | 9, _ => rfl
    | 10, _ => rfl
    | 11, _ => rfl
theorem fronts_of {cs : List Value} {x : DataW H × List MemPlace} {fuel : Nat} (h : DataW.trod enc Try.prog w 0 (fun _ => true) true fuel 31 cs = some x) : ∃ (a : Option Addr) (cap n : Nat) (c : Nat → Nat → Int), cs = [.slice a n cap] ∧ RowAt w a n 12 c ∧ n ≤ maxLen ∧ n ≤ cap ∧ (a = none → cap = 0) :=
  rows_of Try.underlying31 k60 (by omega) front_cells h
theorem map_cells {cs : List Value} {x : DataW H × List MemPlace} {fuel : Nat} (h : DataW.trod enc Try.prog w 0 (fun _ => true) true fuel 25 cs = some x) : ∃ (north cols lofts wrong : Int) (ea sa : Option Addr) (ec sc : Nat) (east : List Int) (svs : List Sv), cs = [.int .i64 north, .int .i64 cols, .slice ea east.length ec, .int .i64 lofts, .slice sa svs.length sc, .int .i64 wrong] ∧
      IntsAt w ea east ∧ SvsAt w sa svs ∧ east.length ≤ maxLen ∧ svs.length ≤ maxLen := by
  obtain ⟨xs, n, _, _, hl, hlen, hf⟩ := DataW.trod_struct Try.underlying25 h
  rw [k25] at hl
  match cs, hl, xs, hlen with
  | [c0, c1, c2, c3, c4, c5], _, [y0, y1, y2, y3, y4, y5], _ =>
    have h0 := hf 0 _ rfl
    have h1 := hf 1 _ rfl
    have h2 := hf 2 _ rfl
    have h3 := hf 3 _ rfl
    have h4 := hf 4 _ rfl
    have h5 := hf 5 _ rfl
    simp [k3, k22, k23] at h0 h1 h2 h3 h4 h5
    obtain ⟨a0, e0, _, _⟩ := DataW.trod_int Try.underlying3 h0
    obtain ⟨a1, e1, _, _⟩ := DataW.trod_int Try.underlying3 h1
    obtain ⟨ea, ec, east, e2, g2, m2⟩ := ints_of h2
    obtain ⟨a3, e3, _, _⟩ := DataW.trod_int Try.underlying3 h3
    obtain ⟨sa, sc, svs, e4, g4, m4⟩ := surveys_of h4
    obtain ⟨a5, e5, _, _⟩ := DataW.trod_int Try.underlying3 h5
    simp at e0 e1 e2 e3 e4 e5
    subst e0 e1 e2 e3 e4 e5
    exact ⟨a0, a1, a3, a5, ea, sa, ec, sc, east, svs, rfl, g2, g4, m2, m4⟩
/-- a release that was handed in -/
theorem rel_of {v : Value} {d : DataW H} {p : List MemPlace} {r : Reach} {b0 : Nat} (hv : Value.okWide Try.prog w r b0 35 v) (h : DataW.Trod enc Try.prog w 0 (fun _ => true) true 35 v d p) :
    ∃ (north cols lofts wrong bx bY sl sh lw lg lh hours dark : Int) (east : List Int) (svs : List Sv) (n k : Nat) (hh f : Nat → Nat → Int) (ea sa ha fa : Option Addr) (ec sc hc fc : Nat), v = .agg #[.int .i64 north, .int .i64 cols, .slice ea east.length ec, .int .i64 lofts, .slice sa svs.length sc, .int .i64 wrong, .int .i64 bx, .int .i64 bY, .slice ha n hc, .int .i64 sl, .int .i64 sh, .slice fa k fc, .int .i64 lw, .int .i64 lg, .int .i64 lh, .int .i64 hours, .int .i64 dark] ∧ Laid east svs n k hh f ea sa ha fa w := by
  obtain ⟨cs, rfl, hsz⟩ := okWide_struct Try.underlying35 hv
  rw [k35] at hsz
  obtain ⟨l⟩ := cs
  obtain ⟨fuel, hf0⟩ := h
  obtain ⟨xs, n, _, _, hl, hlen, hf⟩ := DataW.trod_struct Try.underlying35 hf0
  match l, hsz, xs, hlen with
  | [c0, c1, c2, c3, c4, c5, c6, c7, c8, c9, c10, c11, c12, c13, c14, c15, c16], _, [y0, y1, y2, y3, y4, y5, y6, y7], _ =>
    have h0 := hf 0 _ rfl
    have h1 := hf 1 _ rfl
    have h2 := hf 2 _ rfl
    have h3 := hf 3 _ rfl
    have h4 := hf 4 _ rfl
    have h5 := hf 5 _ rfl
    have h6 := hf 6 _ rfl
    have h7 := hf 7 _ rfl
    simp [k3, k25, k27, k28, k31, k33, k46, Value.cells] at h0 h1 h2 h3 h4 h5 h6 h7
    obtain ⟨north, cols, lofts, wrong, ea, sa, ec, sc, east, svs, e0, g1, g2, m1, m2⟩ := map_cells h0
    obtain ⟨bx, bY, e1⟩ := point_of h1
    obtain ⟨ha, hc, n', hh, e2, gH, mH, _, _⟩ := points_of6 h2
    obtain ⟨sl, sh, e3⟩ := span_of h3
    obtain ⟨fa, fc, k', f, e4, gF, mF, _, _⟩ := fronts_of h4
    obtain ⟨lw, lg, lh, e5⟩ := lims_of h5
    obtain ⟨hours, e6, _, _⟩ := DataW.trod_int Try.underlying3 h6
    obtain ⟨dark, e7, _, _⟩ := DataW.trod_int Try.underlying3 h7
    simp at e0 e1 e2 e3 e4 e5 e6 e7
    obtain ⟨rfl, rfl, rfl, rfl, rfl, rfl⟩ := e0
    obtain ⟨rfl, rfl⟩ := e1
    subst e2
    obtain ⟨rfl, rfl⟩ := e3
    subst e4
    obtain ⟨rfl, rfl, rfl⟩ := e5
    subst e6 e7
    exact ⟨north, cols, lofts, wrong, bx, bY, sl, sh, lw, lg, lh, hours, dark, east, svs, n', k', hh, f, ea, sa, ha, fa, ec, sc, hc, fc, rfl, ⟨g1, g2, Nat.le_trans m1 (by decide), Nat.le_trans m2 (by decide), gH, Nat.le_trans mH (by decide), gF, Nat.le_trans mF (by decide)⟩⟩
end
end Go.Proofs.Ytcekdljjmfkacaa
