import Derived.Test.YtcekdljjmfkacaaOd
import Derived.Test.YtcekdljjmfkacaaNp
set_option linter.unusedSimpArgs false
set_option linter.unusedVariables false
namespace Go.Proofs.Ytcekdljjmfkacaa
open Go.RowKit Go.Shelf
attribute [local go_sem] Oper.semAt_some wide_fn wide_dep wideR_fn wideR_dep
namespace Rl
variable (r : Rl)
/-- the fronts do not contradict each other -/
def goodB : Bool := (List.range r.east.length).all fun y => (List.range r.cols).all fun x => (List.range r.hours).all fun t => !skNone (known r.f x y t r.k)
theorem good_iff : r.goodB = true ↔ r.good := by
  unfold goodB good GoodTo
  constructor
  · intro h x y t s hs
    unfold SD at hs
    split at hs
    · rename_i hd
      cases hs
      unfold doneB at hd
      simp only [decide_eq_true_eq] at hd
      obtain ⟨hx0, hx1, hy0, hy1, ht0, ht1, _⟩ := hd
      have h1 := List.all_eq_true.1 h y.toNat (List.mem_range.2 (by omega))
      have h2 := List.all_eq_true.1 h1 x.toNat (List.mem_range.2 (by omega))
      have h3 := List.all_eq_true.1 h2 t.toNat (List.mem_range.2 (by omega))
      rw [Int.toNat_of_nonneg hx0, Int.toNat_of_nonneg hy0, Int.toNat_of_nonneg ht0] at h3
      simpa using h3
    · cases hs
  · intro h
    refine List.all_eq_true.2 fun y hy => List.all_eq_true.2 fun x hx => List.all_eq_true.2 fun t ht => ?_
    have := h x y t (known r.f x y t r.k) (by
      unfold SD
      rw [if_pos]
      unfold doneB
      have h1 := List.mem_range.1 hy
      have h2 := List.mem_range.1 hx
      have h3 := List.mem_range.1 ht
      simp only [decide_eq_true_eq]
      omega)
    simp [this]
/-- the error of a question about a valid release -/
def err : Int := if r.goodB = true then 0 else 3
end Rl
theorem rQuestion_R {r : Rl} {w : World} (h : r.Ok w) : Calls Try.prog 42 #[.agg r.v, .bool true] w (QR w r.err r.Fc) := by
  refine (rQuestion_ok h).mono fun e w' hq => ?_
  rcases hq with ⟨h1, h2, h3⟩ | ⟨h1, F, h2, h3, h4⟩
  · have hb : r.goodB = false := by
      cases hg : r.goodB
      · rfl
      · exact absurd (r.good_iff.1 hg) h1
    have he : r.err = 3 := by unfold Rl.err; rw [hb]; rfl
    rw [he]
    exact ⟨_, h2, h3, fun h => by cases h⟩
  · have he : r.err = 0 := by unfold Rl.err; rw [r.good_iff.2 h1]; rfl
    rw [he]
    exact ⟨_, h2, h3, fun _ => ⟨F, rfl, h4⟩⟩
theorem rIs (r : Rl) : IsRel r.v := ⟨_, _, _, _, _, _, _, _, _, _, _, _, _, _, _, _, _, _, _, _, _, _, _, _, _, rfl⟩
theorem rHome (r : Rl) (i : Int) (w : World) (hn : r.n ≤ 6) : Calls Try.prog 33 #[.agg r.v, .int .i64 i] w fun e w' => e = .returned (.bool (isInB i 0 ((r.n : Int) - 1))) ∧ G w w' := by
  show Calls Try.prog 33 #[.agg #[.int .i64 r.north, .int .i64 (r.cols : Nat), .slice r.ea r.east.length r.ec, .int .i64 (r.lofts : Nat), .slice r.sa r.svs.length r.sc, .int .i64 r.wrong, .int .i64 (r.bx : Nat), .int .i64 (r.bY : Nat), .slice r.ha r.n r.hc, .int .i64 (r.sl : Nat), .int .i64 (r.sh : Nat), .slice r.fa r.k r.fc, .int .i64 r.lw, .int .i64 r.lg, .int .i64 r.lh, .int .i64 (r.hours : Nat), .int .i64 (r.dark : Nat)], .int .i64 i] w _
  exact isHome_any _ _ _ _ _ _ _ _ _ _ _ _ _ _ _ _ _ _ r.n r.ha r.hc i w (by omega)
theorem rMinute (i : Int) (w : World) : Calls Try.prog 35 #[.int .i64 i] w fun e w' => e = .returned (.bool (isInB i 0 9999)) ∧ G w w' := lMinute_any i w
theorem Fc_8 {r : Rl} {W : World} {F : Nat} (h : r.Fc W F) : W.cell? ⟨F, 8, none⟩ = some (.slice r.ha r.n r.hc) ∧ F < W.heap.size := by
  obtain ⟨m, cnt, v, wl, B, h1, h2, h3, h4⟩ := h
  exact ⟨(h1.cell 8).trans rfl, h1.lt⟩
/-- what safe answers of a release -/
def Rl.safe (r : Rl) (hi mi : Nat) : Int := safeN r.S r.lim (r.st hi) mi r.hours (r.ns hi)
def Rl.blk (r : Rl) (mi : Nat) (i : Nat) : Option (Nat × Nat) := blkR r.S r.lim (r.st i) mi r.hours (r.ns i)
theorem rSafe_ok {r : Rl} {w : World} (h : r.Ok w) {hi mi : Nat} (hh : hi < r.n) (hm : mi ≤ 9999) : Calls Try.prog 17 #[.agg r.v, .int .i64 (hi : Nat), .int .i64 (mi : Nat)] w (TwoPost w r.err (.int .i64 (r.safe hi mi)) (.int .i64 0)) := by
  have hn := h.nums.many
  refine Safe_walk hi mi r.err (r.safe hi mi) true true r.v r.Fc w (rIs r) (fun W => ?_) (fun W => ?_) (fun W hW => rQuestion_R (h.keep hW)) (fun W F hW hF => ?_)
  · have := rHome r hi W hn
    rwa [show isInB (hi : Int) 0 ((r.n : Int) - 1) = true by simp [isInB]; omega] at this
  · have := rMinute mi W
    rwa [show isInB (mi : Int) 0 9999 = true by simp [isInB]; omega] at this
  · exact Fc_safe hF (h.keep hW) hh (by omega)
theorem rBlocks_ok {r : Rl} {w : World} (h : r.Ok w) {mi : Nat} (hm : mi ≤ 9999) : Calls Try.prog 23 #[.agg r.v, .int .i64 (mi : Nat)] w (BkPost w r.err (bks (r.blk mi) r.n)) := by
  refine Blocks_walk mi r.err true r.v r.Fc (r.blk mi) r.ha r.n r.hc w (rIs r) (fun W => ?_) (fun W hW => rQuestion_R (h.keep hW)) (fun W W' F hF hG => hF.keep hG) (fun W F hF => Fc_8 hF) h.nums.many (fun W F i hW hF hi => ?_)
  · have := rMinute mi W
    rwa [show isInB (mi : Int) 0 9999 = true by simp [isInB]; omega] at this
  · exact Fc_block hF (h.keep hW) hi (by omega)
/-- the chapter's release -/
def exR (gE gS gH gF : Nat) : Rl := { north := 1000, wrong := 0, lw := 40, lg := 8, lh := 30, cols := 4, lofts := 2, bx := 0, bY := 0, sl := 400, sh := 800, hours := 2, dark := 110, east := exEast, svs := exSvs, n := 2, k := 3, hx := fun i => if i = 0 then 3 else 2, hy := fun i => if i = 0 then 0 else 2, f := exF, ea := some ⟨gE, 0, none⟩, sa := some ⟨gS, 0, none⟩, ha := some ⟨gH, 0, none⟩, fa := some ⟨gF, 0, none⟩, ec := 3, sc := 4, hc := 2, fc := 3 }
theorem exR_v (gE gS gH gF : Nat) : exRel gE gS gH gF = (exR gE gS gH gF).v := rfl
theorem exR_ok {gE gS gH gF : Nat} {w : World} (hE : IntsAt w (some ⟨gE, 0, none⟩) exEast) (hS : SvsAt w (some ⟨gS, 0, none⟩) exSvs) (hH : Blk w gH 27 #[.int .i64 3, .int .i64 0, .int .i64 2, .int .i64 2]) (hF : Blk w gF 60 exFronts) : (exR gE gS gH gF).Ok w := by
  have e : ∀ i, i < 2 → ∀ j, j < 2 → exH i j = (exR gE gS gH gF).h i j := fun i hi j hj => by
    match i, hi, j, hj with
    | 0, _, 0, _ => rfl
    | 0, _, 1, _ => rfl
    | 1, _, 0, _ => rfl
    | 1, _, 1, _ => rfl
  refine ⟨hE, hS, ex_check0, ⟨ex_rel.base, ex_rel.many, fun i hi => ?_, ex_rel.speed, ex_rel.wind, ex_rel.sight, ex_rel.heat, ex_rel.hrs, ex_rel.drk⟩, ?_, exF_row hF, (by show 3 ≤ 12; omega), ex_fronts⟩
  · rw [← e i hi 0 (by omega), ← e i hi 1 (by omega)]
    exact ex_rel.homes i hi
  · rcases exH_row hH with h | ⟨g, off, h1, h2, h3⟩
    · cases h
    · refine .inr ⟨g, off, h1, h2, fun i hi j hj => ?_⟩
      rw [h3 i hi j hj, e i hi j hj]
theorem exR_good (gE gS gH gF : Nat) : (exR gE gS gH gF).err = 0 := by
  show (exR 0 0 0 0).err = 0
  decide +kernel
theorem exR_safe (gE gS gH gF : Nat) : (exR gE gS gH gF).safe 0 60 = 2 := by
  show (exR 0 0 0 0).safe 0 60 = 2
  decide +kernel
theorem exR_blk (gE gS gH gF : Nat) : bks ((exR gE gS gH gF).blk 57) 2 = [(0, 1, 60), (1, 0, 60)] := by
  show bks ((exR 0 0 0 0).blk 57) 2 = [(0, 1, 60), (1, 0, 60)]
  decide +kernel
def exW (i r : Nat) : Int := ([5, 9, 8, 12, 20, 30] : List Int).getD (i * 2 + r) 0
theorem exW_min : minR 3 exW 1 = .tuple #[.agg #[.int .i64 8, .int .i64 9], .int .i64 0] := by
  have h : minL 3 exW 1 10000 = [8, 9] := by decide +kernel
  unfold minR
  rw [show (watchB 3 exW && isInB 1 0 8) = true by decide +kernel, h]
  rfl
theorem exW_row {W : World} {g : Nat} (h : Blk W g 30 #[.int .i64 5, .int .i64 9, .int .i64 8, .int .i64 12, .int .i64 20, .int .i64 30]) : RowAt W (some ⟨g, 0, none⟩) 3 2 exW := .inr ⟨_, 0, rfl, h.lt, fun i hi r hr => by
  rw [Nat.zero_add, h.cell]
  have : i * 2 + r < 6 := by omega
  unfold exW
  generalize i * 2 + r = q at *
  match q, this with
  | 0, _ => rfl
  | 1, _ => rfl
  | 2, _ => rfl
  | 3, _ => rfl
  | 4, _ => rfl
  | 5, _ => rfl⟩
end Go.Proofs.Ytcekdljjmfkacaa
