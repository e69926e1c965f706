import Derived.Test.YtdneehbhncekaaaLv
import Derived.Test.YtdneehbhncekaaaLz5
import Derived.Test.YtdneehbhncekaaaLz6
import Derived.Test.YtdneehbhncekaaaLz7
set_option linter.unusedSimpArgs false
set_option linter.unusedVariables false
namespace Go.Proofs.Ytdneehbhncekaaa
open Go.RowKit Go.ChangeShapes Go.WideShapes Go.ChangeAt
set_option maxRecDepth 100000

theorem list_one {α : Type} {l : List α} (h : l.length = 1) : ∃ a, l = [a] := by
  match l, h with
  | [a], _ => exact ⟨a, rfl⟩
theorem Straight_any (north cols lofts wrong A B mi sl sh : Int) (east : List Int) (svs : List Sv) (ea sa : Option Addr) (ec sc : Nat) (w : World) (he : IntsAt w ea east) (hs : SvsAt w sa svs)
    (hl : east.length ≤ 9223372036854775807) (hl2 : svs.length ≤ 9223372036854775807) : StGoal north cols lofts wrong A B mi sl sh east svs ea sa ec sc w := by
  cases t1 : farB north cols east lofts svs wrong
  rotate_left
  · exact st_1 north cols lofts wrong A B mi sl sh east svs ea sa ec sc w he hs hl hl2 t1
  by_cases t2 : checkE north cols east lofts svs wrong = 0
  rotate_left
  · exact st_2 north cols lofts wrong A B mi sl sh east svs ea sa ec sc w he hs hl hl2 t1 t2
  by_cases t3 : A < 0
  · exact st_3 north cols lofts wrong A B mi sl sh east svs ea sa ec sc w he hs hl hl2 t1 t2 t3
  by_cases t4 : lofts ≤ A
  · exact st_4 north cols lofts wrong A B mi sl sh east svs ea sa ec sc w he hs hl hl2 t1 t2 t3 t4
  by_cases t5 : B < 0
  · exact st_5 north cols lofts wrong A B mi sl sh east svs ea sa ec sc w he hs hl hl2 t1 t2 t3 t4 t5
  by_cases t6 : lofts ≤ B
  · exact st_6 north cols lofts wrong A B mi sl sh east svs ea sa ec sc w he hs hl hl2 t1 t2 t3 t4 t5 t6
  by_cases t7 : mi < 0
  · exact st_7 north cols lofts wrong A B mi sl sh east svs ea sa ec sc w he hs hl hl2 t1 t2 t3 t4 t5 t6 t7
  by_cases t8 : 9999 < mi
  · exact st_8 north cols lofts wrong A B mi sl sh east svs ea sa ec sc w he hs hl hl2 t1 t2 t3 t4 t5 t6 t7 t8
  by_cases t9 : sl < 1
  · exact st_9 north cols lofts wrong A B mi sl sh east svs ea sa ec sc w he hs hl hl2 t1 t2 t3 t4 t5 t6 t7 t8 t9
  by_cases t10 : sh < sl
  · exact st_10 north cols lofts wrong A B mi sl sh east svs ea sa ec sc w he hs hl hl2 t1 t2 t3 t4 t5 t6 t7 t8 t9 t10
  by_cases t11 : 3000000 < sh
  · exact st_11 north cols lofts wrong A B mi sl sh east svs ea sa ec sc w he hs hl hl2 t1 t2 t3 t4 t5 t6 t7 t8 t9 t10 t11
  have hvb := vm_bounds (checkE_ok t2)
  obtain ⟨an, rfl⟩ := Int.eq_ofNat_of_zero_le (show 0 ≤ A by omega)
  obtain ⟨bn, rfl⟩ := Int.eq_ofNat_of_zero_le (show 0 ≤ B by omega)
  obtain ⟨mn, rfl⟩ := Int.eq_ofNat_of_zero_le (show 0 ≤ mi by omega)
  obtain ⟨sl, rfl⟩ := Int.eq_ofNat_of_zero_le (show 0 ≤ sl by omega)
  obtain ⟨sh, rfl⟩ := Int.eq_ofNat_of_zero_le (show 0 ≤ sh by omega)
  obtain ⟨cn, rfl⟩ := Int.eq_ofNat_of_zero_le (show 0 ≤ cols by omega)
  obtain ⟨ln, rfl⟩ := Int.eq_ofNat_of_zero_le (show 0 ≤ lofts by omega)
  by_cases hw : wrong < fewSum north cn east svs ln
  · exact st_none north wrong cn ln an bn mn sl sh east svs ea sa ec sc w he hs hl hl2 t1 t2 (by omega) (by omega) (by omega) (by omega) (by omega) (by omega) hw
  by_cases hP : (truthsOf (spotsOf north cn east svs) [an] (wrong - fewSum north cn east svs ln)).length = 1
  rotate_left
  · exact st_lenP north wrong cn ln an bn mn sl sh east svs ea sa ec sc w he hs hl hl2 t1 t2 (by omega) (by omega) (by omega) (by omega) (by omega) (by omega) hw hP
  by_cases hQ : (truthsOf (spotsOf north cn east svs) [bn] (wrong - fewSum north cn east svs ln)).length = 1
  rotate_left
  · exact st_lenQ north wrong cn ln an bn mn sl sh east svs ea sa ec sc w he hs hl hl2 t1 t2 (by omega) (by omega) (by omega) (by omega) (by omega) (by omega) hw hP hQ
  obtain ⟨f, hLA⟩ := list_one hP
  obtain ⟨g, hLB⟩ := list_one hQ
  obtain ⟨⟨px, py⟩, hf⟩ : ∃ p, f an = p := ⟨_, rfl⟩
  obtain ⟨⟨qx, qy⟩, hg⟩ : ∃ q, g bn = q := ⟨_, rfl⟩
  by_cases hx : px = qx
  · exact st_on6 north wrong cn ln an bn mn sl sh px py qx qy east svs ea sa ec sc w he hs hl hl2 t1 t2 (by omega) (by omega) (by omega) (by omega) (by omega) (by omega) hw f g hLA hLB hf hg hx
  by_cases hy : py = qy
  · exact st_on7 north wrong cn ln an bn mn sl sh px py qx qy east svs ea sa ec sc w he hs hl hl2 t1 t2 (by omega) (by omega) (by omega) (by omega) (by omega) (by omega) hw f g hLA hLB hf hg hx hy
  · exact st_off north wrong cn ln an bn mn sl sh px py qx qy east svs ea sa ec sc w he hs hl hl2 t1 t2 (by omega) (by omega) (by omega) (by omega) (by omega) (by omega) hw f g hLA hLB hf hg hx hy
section
variable {H : Type} {enc : TypeId × Value → H} {w : World}
theorem k29 : Try.prog.cellsOf 29 = 5 := by kernel_rfl
theorem flown_val {v : Value} {d : DataW H} {p : List MemPlace} {r : Reach} {b0 : Nat} (hv : Value.okWide Try.prog w r b0 29 v) (h : DataW.Trod enc Try.prog w 0 (fun _ => true) true 29 v d p) :
    ∃ a b m lo hi : Int, v = .agg #[.int .i64 a, .int .i64 b, .int .i64 m, .int .i64 lo, .int .i64 hi] := by
  obtain ⟨cs, rfl, hsz⟩ := okWide_struct Try.underlying29 hv
  rw [k29] at hsz
  obtain ⟨l⟩ := cs
  obtain ⟨fuel, hf0⟩ := h
  obtain ⟨xs, n, _, _, hl, hlen, hf⟩ := DataW.trod_struct Try.underlying29 hf0
  match l, hsz, xs, hlen with
  | [c0, c1, c2, c3, c4], _, [y0, y1, y2, y3], _ =>
    have h0 := hf 0 _ rfl
    have h1 := hf 1 _ rfl
    have h2 := hf 2 _ rfl
    have h3 := hf 3 _ rfl
    simp [k3, k46, Value.cells] at h0 h1 h2 h3
    obtain ⟨a0, e0, _, _⟩ := DataW.trod_int Try.underlying3 h0
    obtain ⟨a1, e1, _, _⟩ := DataW.trod_int Try.underlying3 h1
    obtain ⟨a2, e2, _, _⟩ := DataW.trod_int Try.underlying3 h2
    obtain ⟨a3, a4, e3⟩ := span_of h3
    simp at e0 e1 e2 e3
    exact ⟨a0, a1, a2, a3, a4, by simp [e0, e1, e2, e3]⟩
end
end Go.Proofs.Ytdneehbhncekaaa
