import Derived.Test.YtnkmcoljijmgpaaGreatBw
import Derived.Test.YtnkmcoljijmgpaaGreatCa
import Derived.ChangeOld
import Derived.Test.YtnkmcoljijmgpaaGreatKa
import Derived.Laws.StructEq
set_option linter.unusedSimpArgs false
set_option linter.unusedVariables false
namespace Go.Proofs.YtnkmcoljijmgpaaGreat
open Go.RowKit Go.Shelf Go.Sort Go.Maps
attribute [local go_sem] Oper.semAt_some
/-- a race as it lies, of any size -/
structure Ra.Laid (r : Ra) (W : World) : Prop where
  rs : RcsAt W r.ra r.racers
  ps : PosAt W r.pa r.pools
  ts : IntsAt W r.ta r.protests
  cr : r.racers.length ≤ r.rc
  ct : r.protests.length ≤ r.tc
theorem Ra.Laid.keep {r : Ra} {W W' : World} (h : r.Laid W) (hG : G W W') : r.Laid W' := ⟨h.rs.below hG, h.ps.below hG, h.ts.below hG, h.cr, h.ct⟩
def bigR (l : List Rc) : Bool := anyU (fun i => decide (20 < (l.getD i default).pools.length)) l.length
def bigP (l : List Po) : Bool := anyU (fun i => decide (20 < (l.getD i default).table.length)) l.length
def farR (r : Ra) : Bool := decide (40 < r.racers.length) || decide (20 < r.pools.length) || decide (20 < r.protests.length) || bigR r.racers || bigP r.pools
theorem anyU_false {p : Nat → Bool} {n : Nat} (h : anyU p n = false) {i : Nat} (hi : i < n) : p i = false := by
  unfold anyU at h
  have := List.any_eq_false.1 h i (List.mem_range.2 hi)
  simpa using this
theorem Ra.Laid.at {r : Ra} {W : World} (h : r.Laid W) (hf : farR r = false) : r.At W := by
  unfold farR at hf
  simp only [Bool.or_eq_false_iff, decide_eq_false_iff_not] at hf
  obtain ⟨⟨⟨⟨h1, h2⟩, h3⟩, h4⟩, h5⟩ := hf
  refine ⟨h.rs, h.ps, h.ts, by omega, h.cr, h.ct, by omega, by omega, fun i hi => ?_, fun i hi => ?_⟩
  · have := anyU_false h4 hi
    simp only [decide_eq_false_iff_not] at this
    omega
  · have := anyU_false h5 hi
    simp only [decide_eq_false_iff_not] at this
    omega
set_option maxRecDepth 100000 in
set_option maxHeartbeats 8000000 in
theorem Far8_any (r : Ra) (w : World) (h : r.Laid w) : Calls Tryz.prog 13 #[.agg r.v] w fun e w' => e = .returned (.bool (farR r)) ∧ G w w' := by
  have hpr := h.rs.row
  have hpp := h.ps.row
  have HT : Hid (∀ W', farR r = true → G w W' → ((Ending.returned (.bool true) = .returned (.bool (farR r))) ∧ G w W')) := fun W' a b => ⟨by rw [a], b⟩
  have HF : Hid (∀ W', farR r = false → G w W' → ((Ending.returned (.bool false) = .returned (.bool (farR r))) ∧ G w W')) := fun W' a b => ⟨by rw [a], b⟩
  have HE : Hid (farR r = (decide (40 < r.racers.length) || decide (20 < r.pools.length) || decide (20 < r.protests.length) || bigR r.racers || bigP r.pools)) := rfl
  have HBR : Hid (∀ k, k < r.racers.length → 20 < (r.racers.getD k default).pools.length → bigR r.racers = true) := fun k hk hh => anyU_yes hk (by simpa using hh)
  have HBN : Hid ((∀ k, k < r.racers.length → ¬ 20 < (r.racers.getD k default).pools.length) → bigR r.racers = false) := fun hh => anyU_no (fun k hk => by simpa using hh k hk)
  have HPR : Hid (∀ k, k < r.pools.length → 20 < (r.pools.getD k default).table.length → bigP r.pools = true) := fun k hk hh => anyU_yes hk (by simpa using hh)
  have HPN : Hid ((∀ k, k < r.pools.length → ¬ 20 < (r.pools.getD k default).table.length) → bigP r.pools = false) := fun hh => anyU_no (fun k hk => by simpa using hh k hk)
  generalize farR r = FB at *
  clear h
  obtain ⟨ra, rc, racers, pa, pc, pools, ta, tc, protests⟩ := r
  unfold Ra.v
  dsimp only at *
  generalize bigR racers = BR at *
  generalize bigP pools = BP at *
  have g0 : G w (w.alloc (.cells #[.slice ra racers.length rc, .slice pa pools.length pc, .slice ta protests.length tc] 26)) := (G.rf _).a _
  have b0 : Blk (w.alloc (.cells #[.slice ra racers.length rc, .slice pa pools.length pc, .slice ta protests.length tc] 26)) w.heap.size 26 #[.slice ra racers.length rc, .slice pa pools.length pc, .slice ta protests.length tc] := Blk.new _ _ _
  have hr0 := hpr.below g0
  have hp0 := hpp.below g0
  clear hpr hpp
  go_enter Tryz.func13, Tryz.ntmps13
  go_upto_region 1 with fail
  change Code.wp _ _ _ _ (w.alloc (.cells #[.slice ra racers.length rc, .slice pa pools.length pc, .slice ta protests.length tc] 26))
  generalize w.alloc (.cells #[.slice ra racers.length rc, .slice pa pools.length pc, .slice ta protests.length tc] 26) = W1 at *
  have m0 := b0.cell 0
  have m1 := b0.cell 1
  have m2 := b0.cell 2
  have l0 := b0.lt
  by_cases h1 : 40 < racers.length
  · have h1i : (40 : Int) < racers.length := by omega
    have HZ := Lib.hid (HT.out W1 (by rw [HE.out]; simp [h1]) g0)
    go_wp2_with fail
    first | exact HZ.out | (go_ret; exact HZ.out)
  · have h1i : ¬ (40 : Int) < racers.length := by omega
    by_cases h2 : 20 < pools.length
    · have h2i : (20 : Int) < pools.length := by omega
      have HZ := Lib.hid (HT.out W1 (by rw [HE.out]; simp [h2]) g0)
      go_wp2_with fail
      first | exact HZ.out | (go_ret; exact HZ.out)
    · have h2i : ¬ (20 : Int) < pools.length := by omega
      by_cases h3 : 20 < protests.length
      · have h3i : (20 : Int) < protests.length := by omega
        have HZ := Lib.hid (HT.out W1 (by rw [HE.out]; simp [h3]) g0)
        go_wp2_with fail
        first | exact HZ.out | (go_ret; exact HZ.out)
      · have h3i : ¬ (20 : Int) < protests.length := by omega
        go_wp2_with fail
        clear m0 m1 m2 l0
        go_loopw [3] (fun i wr => ∃ k : Nat, k ≤ racers.length ∧ i = .int .i64 k ∧ Hid (∀ j, j < k → ¬ 20 < (racers.getD j default).pools.length) ∧ G W1 wr) (fun i _ => racers.length - (intOf i).toNat)
        case atStart => exact ⟨0, Nat.zero_le _, rfl, fun j hj => by omega, G.rf _⟩
        case round =>
          obtain ⟨k, hk, rfl, HN, hG⟩ := hrel
          obtain ⟨wo, rfl⟩ : ∃ wo, wo = wr := ⟨_, rfl⟩
          have bo := b0.keep hG
          have m0 := bo.cell 0
          have l0 := bo.lt
          by_cases hlt : k < racers.length
          · have hki : (k : Int) < racers.length := by omega
            rcases hr0 with h | ⟨g, off, rfl, hg, hcell⟩
            · omega
            have q4 : wo.cell? ⟨g, off + k * 5 + 4, none⟩ = some (.slice (racers.getD k default).pa (racers.getD k default).pools.length (racers.getD k default).pc) := ((bcellB hG).1 g _ hg).trans (hcell k hlt 4 (by omega))
            have lg := Nat.lt_of_lt_of_le hg hG.size
            have HB := Lib.hid (HBR.out k hlt)
            obtain ⟨y, hy⟩ : ∃ y, y = racers.getD k default := ⟨_, rfl⟩
            have HY := Lib.hid hy
            rw [← hy] at q4 HB
            clear hy hcell
            obtain ⟨zbird, zowner, zrank, zday, zpa, zpc, zpools⟩ := y
            dsimp only at q4 HB
            by_cases hb : 20 < zpools.length
            · have hbi : (20 : Int) < zpools.length := by omega
              have HZ := Lib.hid (HT.out wo (by rw [HE.out, HB.out hb]; simp) (g0.t hG))
              go_wp2_with fail
              first | exact HZ.out | (go_ret; exact HZ.out)
            · have hbi : ¬ (20 : Int) < zpools.length := by omega
              go_wp2_with fail
              go_roundw
              case rel => exact ⟨k + 1, by omega, by go_num, fun j hj => by
                rcases Nat.lt_or_ge j k with h4 | h4
                · exact HN.out j h4
                · obtain rfl : j = k := by omega
                  rw [← HY.out]; exact hb, hG⟩
              case measure => simp [intOf] <;> omega
          · obtain rfl : k = racers.length := by omega
            have hki : ¬ ((racers.length : Nat) : Int) < racers.length := by omega
            have m1 := bo.cell 1
            have HBF := Lib.hid (HBN.out HN.out)
            go_wp2_with fail
            clear m0 m1 l0
            go_loopw [4] (fun i wr => ∃ k : Nat, k ≤ pools.length ∧ i = .int .i64 k ∧ Hid (∀ j, j < k → ¬ 20 < (pools.getD j default).table.length) ∧ G W1 wr) (fun i _ => pools.length - (intOf i).toNat)
            case atStart => exact ⟨0, Nat.zero_le _, rfl, fun j hj => by omega, hG⟩
            case round =>
              clear hG bo
              obtain ⟨k, hk, rfl, HN, hG⟩ := hrel
              obtain ⟨wo, rfl⟩ : ∃ wo, wo = wr := ⟨_, rfl⟩
              have bo := b0.keep hG
              have m1 := bo.cell 1
              have l0 := bo.lt
              by_cases hlt : k < pools.length
              · have hki : (k : Int) < pools.length := by omega
                rcases hp0 with h | ⟨g, off, rfl, hg, hcell⟩
                · omega
                have q3 : wo.cell? ⟨g, off + k * 6 + 3, none⟩ = some (.slice (pools.getD k default).ta (pools.getD k default).table.length (pools.getD k default).tc) := ((bcellB hG).1 g _ hg).trans (hcell k hlt 3 (by omega))
                have lg := Nat.lt_of_lt_of_le hg hG.size
                have HB := Lib.hid (HPR.out k hlt)
                obtain ⟨y, hy⟩ : ∃ y, y = pools.getD k default := ⟨_, rfl⟩
                have HY := Lib.hid hy
                rw [← hy] at q3 HB
                clear hy hcell
                obtain ⟨ystake, ycut, ykind, yta, ytc, ytable, yquota, yfirst⟩ := y
                dsimp only at q3 HB
                by_cases hb : 20 < ytable.length
                · have hbi : (20 : Int) < ytable.length := by omega
                  have HZ := Lib.hid (HT.out wo (by rw [HE.out, HB.out hb]; simp) (g0.t hG))
                  go_wp2_with fail
                  first | exact HZ.out | (go_ret; exact HZ.out)
                · have hbi : ¬ (20 : Int) < ytable.length := by omega
                  go_wp2_with fail
                  go_roundw
                  case rel => exact ⟨k + 1, by omega, by go_num, fun j hj => by
                    rcases Nat.lt_or_ge j k with h4 | h4
                    · exact HN.out j h4
                    · obtain rfl : j = k := by omega
                      rw [← HY.out]; exact hb, hG⟩
                  case measure => simp [intOf] <;> omega
              · obtain rfl : k = pools.length := by omega
                have hki : ¬ ((pools.length : Nat) : Int) < pools.length := by omega
                have HZ := Lib.hid (HF.out wo (by rw [HE.out, HBF.out, HPN.out HN.out]; simp [h1, h2, h3]) (g0.t hG))
                go_wp2_with fail
                first | exact HZ.out | (go_ret; exact HZ.out)
end Go.Proofs.YtnkmcoljijmgpaaGreat
set_option linter.unusedSimpArgs false
set_option linter.unusedVariables false
namespace Go.Proofs.YtnkmcoljijmgpaaGreat
open Go.RowKit Go.Shelf Go.Sort Go.Maps
attribute [local go_sem] Oper.semAt_some
/-- what of a racer the prizes look at -/
def rcK (x : Rc) : Int × Int × Int := (x.bird, x.rank, x.day)
theorem getK {l l' : List Rc} (h : l.map rcK = l'.map rcK) (i : Nat) : rcK (l.getD i default) = rcK (l'.getD i default) := by
  have e := congrArg (fun m => m[i]?) h
  simp only [List.getElem?_map] at e
  rw [List.getD_eq_getElem?_getD, List.getD_eq_getElem?_getD]
  cases h1 : l[i]? <;> cases h2 : l'[i]? <;> rw [h1, h2] at e <;> simp at e ⊢
  exact e
theorem lenK {l l' : List Rc} (h : l.map rcK = l'.map rcK) : l.length = l'.length := by
  have := congrArg List.length h
  simpa using this
theorem srtK {l l' : List Rc} (h : l.map rcK = l'.map rcK) : (srt l).map rcK = (srt l').map rcK := by
  unfold srt
  rw [List.map_mergeSort (f := rcK) (r := fun x y : Rc => decide (x.bird ≤ y.bird)) (s := fun a b : Int × Int × Int => decide (a.1 ≤ b.1)) (fun a _ b _ => rfl), List.map_mergeSort (f := rcK) (r := fun x y : Rc => decide (x.bird ≤ y.bird)) (s := fun a b : Int × Int × Int => decide (a.1 ≤ b.1)) (fun a _ b _ => rfl), h]
theorem tksK {l l' : List Rc} (h : l.map rcK = l'.map rcK) : (tks l).map rcK = (tks l').map rcK := by
  unfold tks
  rw [List.map_mergeSort (f := rcK) (r := fun x y : Rc => !lexL y x) (s := fun a b : Int × Int × Int => !decide (b.2.2 < a.2.2 ∨ (b.2.2 = a.2.2 ∧ (b.2.1 < a.2.1 ∨ (b.2.1 = a.2.1 ∧ b.1 < a.1))))) (fun a _ b _ => rfl), List.map_mergeSort (f := rcK) (r := fun x y : Rc => !lexL y x) (s := fun a b : Int × Int × Int => !decide (b.2.2 < a.2.2 ∨ (b.2.2 = a.2.2 ∧ (b.2.1 < a.2.1 ∨ (b.2.1 = a.2.1 ∧ b.1 < a.1))))) (fun a _ b _ => rfl), h]
theorem filterK {l l' : List Rc} (h : l.map rcK = l'.map rcK) (p : Int × Int × Int → Bool) : (l.filter fun x => p (rcK x)).map rcK = (l'.filter fun x => p (rcK x)).map rcK := by
  have a : ∀ l : List Rc, (l.filter fun x => p (rcK x)).map rcK = (l.map rcK).filter p := fun l => by
    rw [List.filter_map]
    rfl
  rw [a, a, h]
/-- two funds of the same pool, whose birds are the same, with rank and day -/
structure KEq (f g : Fu) : Prop where
  po : f.po = g.po
  rs : f.rs.map rcK = g.rs.map rcK
theorem takersK {f g : Fu} (h : KEq f g) (st : List Int) : (takersL f st).map rcK = (takersL g st).map rcK := by
  unfold takersL
  rw [h.po]
  have e : ∀ x : Rc, skipB g.po.first st x = (fun k : Int × Int × Int => (decide (k.2.2 = 0) || (g.po.first && !decide (k.2.2 = 1))) || inL st k.1) (rcK x) := fun x => rfl
  simp only [e]
  exact tksK (filterK h.rs (fun k => !((decide (k.2.2 = 0) || (g.po.first && !decide (k.2.2 = 1))) || inL st k.1)))
theorem grpK {l l' : List Rc} (h : l.map rcK = l'.map rcK) : ∀ k, grpTo l k = grpTo l' k
  | 0 => rfl
  | k + 1 => by
    have ih := grpK h k
    have e0 := getK h k
    have e1 := getK h (k - 1)
    unfold rcK at e0 e1
    simp only [Prod.mk.injEq] at e0 e1
    have hs : sameB l k = sameB l' k := by
      unfold sameB befD
      rw [e0.2.1, e0.2.2, e1.2.1, e1.2.2]
    unfold grpTo
    rw [hs, ih, e0.1]
theorem orderK {f g : Fu} (h : KEq f g) (st : List Int) : orderL f st = orderL g st := by
  have e := takersK h st
  unfold orderL
  rw [lenK e, grpK e]
theorem leftK {f g : Fu} (h : KEq f g) : lefI f = lefI g ∧ totI f = totI g ∧ kepI f = kepI g := by
  have e := lenK h.rs
  unfold lefI kepI totI
  rw [h.po, e]
  exact ⟨rfl, rfl, rfl⟩
theorem placesK {f g : Fu} (h : KEq f g) : placesL f = placesL g := by
  unfold placesL nPl
  rw [(leftK h).1, h.po, lenK h.rs]
theorem wonK {f g : Fu} (h : KEq f g) (st : List Int) : wonL f st = wonL g st := by
  unfold wonL
  rw [orderK h, placesK h]
theorem resK {f g : Fu} (h : KEq f g) (st : List Int) : resI f st = resI g st := by
  unfold resI
  rw [wonK h, (leftK h).1]
theorem prizesK {f g : Fu} (h : KEq f g) : prizesL f = prizesL g := by
  unfold prizesL
  rw [wonK h, resK h, lenK h.rs]
  have e : ∀ i, (f.rs.getD i default).bird = (g.rs.getD i default).bird := fun i => by
    have := getK h.rs i
    unfold rcK at this
    simp only [Prod.mk.injEq] at this
    exact this.1
  simp only [e]
theorem potK {f g : Fu} (h : KEq f g) : potV f = potV g := by
  unfold potV
  rw [(leftK h).1, (leftK h).2.1, (leftK h).2.2, resK h]
end Go.Proofs.YtnkmcoljijmgpaaGreat
set_option linter.unusedSimpArgs false
set_option linter.unusedVariables false
namespace Go.Proofs.YtnkmcoljijmgpaaGreat
open Go.RowKit Go.Shelf Go.ChangeShapes Go.WideShapes Go.ChangeAt
attribute [local go_sem] Oper.semAt_some
set_option maxRecDepth 100000
theorem k24 : Tryz.prog.cellsOf 24 = 1 := by kernel_rfl
theorem k60 : Tryz.prog.cellsOf 60 = 5 := by kernel_rfl
theorem k42 : Tryz.prog.cellsOf 42 = 6 := by kernel_rfl
theorem k23p : Tryz.prog.cellsOf 23 = 1 := by kernel_rfl
theorem k22p : Tryz.prog.cellsOf 22 = 1 := by kernel_rfl
theorem k26 : Tryz.prog.cellsOf 26 = 3 := by kernel_rfl
theorem k4 : Tryz.prog.cellsOf 4 = 1 := by kernel_rfl
section
variable {H : Type} {enc : TypeId × Value → H} {w : World} {fuel : Nat}
theorem ints_ofC {cs : List Value} {x : DataW H × List MemPlace} (h : DataW.trod enc Tryz.prog w 0 (fun _ => true) true fuel 24 cs = some x) :
    ∃ (a : Option Addr) (cap : Nat) (l : List Int), cs = [.slice a l.length cap] ∧ IntsAt w a l ∧ l.length ≤ cap := by
  rcases open_ints Tryz.underlying24 Tryz.underlying3 k3 h with ⟨rfl, _⟩ | ⟨a, len, cap, zs, rfl, hlc, hl, hm, hz, _, hcell, _⟩
  · exact ⟨none, 0, [], rfl, .inl rfl, by simp⟩
  · simp at hz
    have hlen : (zs.take len).length = len := by simp; omega
    refine ⟨some a, cap, zs.take len, by rw [hlen], ?_, by omega⟩
    rcases Nat.eq_zero_or_pos len with h0 | h0
    · left; simp [h0]
    · right
      have c0 := hcell 0 (by omega)
      obtain ⟨b, off, spot⟩ := a
      have hspot : spot = none := by simpa [Addr.add] using World.cell?_spot c0
      subst hspot
      refine ⟨b, off, rfl, lt_of_cell (by simpa [Addr.add] using c0), fun k hk => ?_⟩
      have ck := hcell k (by omega)
      have hk2 : k < len := by omega
      have hk3 : k < zs.length := by omega
      rw [add_none] at ck
      simp [hk3] at ck
      simp [hk2, hk3, ck]
theorem racer_of {cs : List Value} {x : DataW H × List MemPlace} (h : DataW.trod enc Tryz.prog w 0 (fun _ => true) true fuel 60 cs = some x) :
    ∃ y : Rc, cs = y.v.toList ∧ IntsAt w y.pa y.pools := by
  obtain ⟨xs, n, _, rfl, hl, hlen, hf⟩ := DataW.trod_struct Tryz.underlying60 h
  rw [k60] at hl
  match cs, hl, xs, hlen with
  | [c0, c1, c2, c3, c4], _, [y0, y1, y2, y3, y4], _ =>
    have h0 := hf 0 _ rfl
    have h1 := hf 1 _ rfl
    have h2 := hf 2 _ rfl
    have h3 := hf 3 _ rfl
    have h4 := hf 4 _ rfl
    simp [k3, k24] at h0 h1 h2 h3 h4
    obtain ⟨a0, e0, _, _⟩ := DataW.trod_int Tryz.underlying3 h0
    obtain ⟨a1, e1, _, _⟩ := DataW.trod_int Tryz.underlying3 h1
    obtain ⟨a2, e2, _, _⟩ := DataW.trod_int Tryz.underlying3 h2
    obtain ⟨a3, e3, _, _⟩ := DataW.trod_int Tryz.underlying3 h3
    obtain ⟨ea, ec, l, e4, g4, _⟩ := ints_ofC h4
    simp at e0 e1 e2 e3 e4
    subst e0 e1 e2 e3 e4
    exact ⟨⟨a0, a1, a2, a3, ea, ec, l⟩, rfl, g4⟩
theorem pool_of8 {cs : List Value} {x : DataW H × List MemPlace} (h : DataW.trod enc Tryz.prog w 0 (fun _ => true) true fuel 42 cs = some x) :
    ∃ y : Po, cs = y.v.toList ∧ IntsAt w y.ta y.table := by
  obtain ⟨xs, n, _, rfl, hl, hlen, hf⟩ := DataW.trod_struct Tryz.underlying42 h
  rw [k42] at hl
  match cs, hl, xs, hlen with
  | [c0, c1, c2, c3, c4, c5], _, [y0, y1, y2, y3, y4, y5], _ =>
    have h0 := hf 0 _ rfl
    have h1 := hf 1 _ rfl
    have h2 := hf 2 _ rfl
    have h3 := hf 3 _ rfl
    have h4 := hf 4 _ rfl
    have h5 := hf 5 _ rfl
    simp [k3, k24, k4] at h0 h1 h2 h3 h4 h5
    obtain ⟨a0, e0, _, _⟩ := DataW.trod_int Tryz.underlying3 h0
    obtain ⟨a1, e1, _, _⟩ := DataW.trod_int Tryz.underlying3 h1
    obtain ⟨a2, e2, _, _⟩ := DataW.trod_int Tryz.underlying3 h2
    obtain ⟨ea, ec, l, e3, g3, _⟩ := ints_ofC h3
    obtain ⟨a4, e4, _, _⟩ := DataW.trod_int Tryz.underlying3 h4
    obtain ⟨b5, e5, _⟩ := DataW.trod_bool Tryz.underlying4 h5
    simp at e0 e1 e2 e3 e4 e5
    subst e0 e1 e2 e3 e4 e5
    exact ⟨⟨a0, a1, a2, ea, ec, l, a4, b5⟩, rfl, g3⟩
end
section
variable {H : Type} {enc : TypeId × Value → H} {w : World} {fuel : Nat}
theorem racers_of {cs : List Value} {x : DataW H × List MemPlace} (h : DataW.trod enc Tryz.prog w 0 (fun _ => true) true fuel 22 cs = some x) :
    ∃ (a : Option Addr) (cap : Nat) (l : List Rc), cs = [.slice a l.length cap] ∧ RcsAt w a l ∧ l.length ≤ cap := by
  rcases Deep.open_slice Tryz.underlying22 h with ⟨rfl, _⟩ | ⟨a, len, cap, m, n, D, Pl, rfl, hlc, hl, hm, hmm, _, hel⟩
  · exact ⟨none, 0, [], rfl, ⟨.inl rfl, fun i hi => by simp at hi⟩, by simp⟩
  · simp at hmm
    rcases Nat.eq_zero_or_pos len with h0 | h0
    · subst h0
      exact ⟨some a, cap, [], rfl, ⟨.inl rfl, fun i hi => by simp at hi⟩, by simp⟩
    · have hspot : a.spot = none := by
        obtain ⟨cs', h1, h2⟩ := hel 0 (by omega)
        obtain ⟨s, rfl, _⟩ := racer_of h2
        obtain ⟨_, _, hc⟩ := World.cells?_some h1
        rw [k60] at hc
        have c0 := hc 0 (by omega)
        simpa [Addr.add] using World.cell?_spot c0
      obtain ⟨b, off, spot⟩ := a
      simp only at hspot
      subst hspot
      have key : ∀ i, ∃ s : Rc, i < len → (∀ r, r < 5 → w.cell? ⟨b, off + i * 5 + r, none⟩ = s.v[r]?) ∧ IntsAt w s.pa s.pools := fun i => by
        by_cases hi : i < len
        · obtain ⟨cs', h1, h2⟩ := hel i (by omega)
          obtain ⟨s, rfl, hs⟩ := racer_of h2
          obtain ⟨_, _, hc⟩ := World.cells?_some h1
          rw [k60] at hc
          simp only [add_none] at hc
          refine ⟨s, fun _ => ⟨fun r hr => ?_, hs⟩⟩
          have := hc r hr
          rw [this]
          obtain ⟨s0, s1, s2, s3, s4, s5, s6⟩ := s
          match r, hr with
          | 0, _ => rfl
          | 1, _ => rfl
          | 2, _ => rfl
          | 3, _ => rfl
          | 4, _ => rfl
        · exact ⟨default, fun h => absurd h hi⟩
      obtain ⟨f, hf⟩ := Classical.axiomOfChoice key
      have hlen : ((List.range len).map f).length = len := by simp
      have hget : ∀ k, k < len → ((List.range len).map f).getD k default = f k := fun k hk => by simp [List.getD_eq_getElem?_getD, hk]
      refine ⟨some ⟨b, off, none⟩, cap, (List.range len).map f, by rw [hlen], ⟨.inr ⟨b, off, rfl, lt_of_cell ((hf 0 h0).1 0 (by omega)), fun k hk r hr => ?_⟩, fun k hk => ?_⟩, by omega⟩
      · rw [hlen] at hk
        rw [hget k hk]
        exact (hf k hk).1 r hr
      · rw [hlen] at hk
        rw [hget k hk]
        exact (hf k hk).2
end
section
variable {H : Type} {enc : TypeId × Value → H} {w : World} {fuel : Nat}
theorem pools_of8 {cs : List Value} {x : DataW H × List MemPlace} (h : DataW.trod enc Tryz.prog w 0 (fun _ => true) true fuel 23 cs = some x) :
    ∃ (a : Option Addr) (cap : Nat) (l : List Po), cs = [.slice a l.length cap] ∧ PosAt w a l ∧ l.length ≤ cap := by
  rcases Deep.open_slice Tryz.underlying23 h with ⟨rfl, _⟩ | ⟨a, len, cap, m, n, D, Pl, rfl, hlc, hl, hm, hmm, _, hel⟩
  · exact ⟨none, 0, [], rfl, ⟨.inl rfl, fun i hi => by simp at hi⟩, by simp⟩
  · simp at hmm
    rcases Nat.eq_zero_or_pos len with h0 | h0
    · subst h0
      exact ⟨some a, cap, [], rfl, ⟨.inl rfl, fun i hi => by simp at hi⟩, by simp⟩
    · have hspot : a.spot = none := by
        obtain ⟨cs', h1, h2⟩ := hel 0 (by omega)
        obtain ⟨s, rfl, _⟩ := pool_of8 h2
        obtain ⟨_, _, hc⟩ := World.cells?_some h1
        rw [k42] at hc
        have c0 := hc 0 (by omega)
        simpa [Addr.add] using World.cell?_spot c0
      obtain ⟨b, off, spot⟩ := a
      simp only at hspot
      subst hspot
      have key : ∀ i, ∃ s : Po, i < len → (∀ r, r < 6 → w.cell? ⟨b, off + i * 6 + r, none⟩ = s.v[r]?) ∧ IntsAt w s.ta s.table := fun i => by
        by_cases hi : i < len
        · obtain ⟨cs', h1, h2⟩ := hel i (by omega)
          obtain ⟨s, rfl, hs⟩ := pool_of8 h2
          obtain ⟨_, _, hc⟩ := World.cells?_some h1
          rw [k42] at hc
          simp only [add_none] at hc
          refine ⟨s, fun _ => ⟨fun r hr => ?_, hs⟩⟩
          have := hc r hr
          rw [this]
          obtain ⟨s0, s1, s2, s3, s4, s5, s6, s7⟩ := s
          match r, hr with
          | 0, _ => rfl
          | 1, _ => rfl
          | 2, _ => rfl
          | 3, _ => rfl
          | 4, _ => rfl
          | 5, _ => rfl
        · exact ⟨default, fun h => absurd h hi⟩
      obtain ⟨f, hf⟩ := Classical.axiomOfChoice key
      have hlen : ((List.range len).map f).length = len := by simp
      have hget : ∀ k, k < len → ((List.range len).map f).getD k default = f k := fun k hk => by simp [List.getD_eq_getElem?_getD, hk]
      refine ⟨some ⟨b, off, none⟩, cap, (List.range len).map f, by rw [hlen], ⟨.inr ⟨b, off, rfl, lt_of_cell ((hf 0 h0).1 0 (by omega)), fun k hk r hr => ?_⟩, fun k hk => ?_⟩, by omega⟩
      · rw [hlen] at hk
        rw [hget k hk]
        exact (hf k hk).1 r hr
      · rw [hlen] at hk
        rw [hget k hk]
        exact (hf k hk).2
end
theorem race_of {H : Type} {enc : TypeId × Value → H} {w : World} {v : Value} {d : DataW H} {p : List MemPlace} {r : Reach} {b0 : Nat} (hv : Value.okWide Tryz.prog w r b0 26 v) (h : DataW.Trod enc Tryz.prog w 0 (fun _ => true) true 26 v d p) :
    ∃ R : Ra, v = .agg R.v ∧ R.Laid w := by
  obtain ⟨cs, rfl, hsz⟩ := okWide_struct Tryz.underlying26 hv
  rw [k26] at hsz
  obtain ⟨l⟩ := cs
  obtain ⟨fuel, hf0⟩ := h
  obtain ⟨xs, n, _, _, hl, hlen, hf⟩ := DataW.trod_struct Tryz.underlying26 hf0
  match l, hsz, xs, hlen with
  | [c0, c1, c2], _, [y0, y1, y2], _ =>
    have h0 := hf 0 _ rfl
    have h1 := hf 1 _ rfl
    have h2 := hf 2 _ rfl
    simp [k24, k22p, k23p, Value.cells] at h0 h1 h2
    obtain ⟨ra, rc, racers, e0, g0, m0⟩ := racers_of h0
    obtain ⟨pa, pc, pools, e1, g1, m1⟩ := pools_of8 h1
    obtain ⟨ta, tc, prots, e2, g2, m2⟩ := ints_ofC h2
    simp at e0 e1 e2
    subst e0 e1 e2
    exact ⟨⟨ra, rc, racers, pa, pc, pools, ta, tc, prots⟩, rfl, ⟨g0, g1, g2, m0, m2⟩⟩
end Go.Proofs.YtnkmcoljijmgpaaGreat
set_option linter.unusedSimpArgs false
set_option linter.unusedVariables false
namespace Go.Proofs.YtnkmcoljijmgpaaGreat
open Go.RowKit Go.Shelf Go.Sort Go.Maps
attribute [local go_sem] Oper.semAt_some
def valR (r : Ra) (p : Int) : Bool := !farR r && (raceB r && (decide (0 ≤ p) && decide (p < r.pools.length)))
theorem valR_at {r : Ra} {p : Int} {W : World} (h : r.Laid W) (hv : valR r p = true) : r.At W ∧ raceB r = true ∧ 0 ≤ p ∧ p < r.pools.length := by
  unfold valR at hv
  simp only [Bool.and_eq_true, Bool.not_eq_true', decide_eq_true_eq] at hv
  exact ⟨h.at hv.1, hv.2.1, hv.2.2.1, hv.2.2.2⟩
theorem valR_q {r : Ra} {p : Int} (hv : valR r p = true) : qE r p [] = 0 := by
  unfold valR at hv
  simp only [Bool.and_eq_true, Bool.not_eq_true', decide_eq_true_eq] at hv
  have h : isInB p 0 ((r.pools.length : Int) - 1) = true := by
    unfold isInB
    simp only [Bool.and_eq_true, decide_eq_true_eq]
    omega
  unfold qE
  rw [if_pos hv.2.1, if_pos h]
  rfl
set_option maxRecDepth 100000 in
set_option maxHeartbeats 8000000 in
theorem valid8_any (r : Ra) (p : Int) (w : World) (h : r.Laid w) : Calls Tryz.prog 20 #[.agg r.v, .int .i64 p] w fun e w' => e = .returned (.bool (valR r p)) ∧ G w w' := by
  have HFA := Lib.hid (fun (W : World) (hW : G w W) => Far8_any r W (h.keep hW))
  have HCH := Lib.hid (fun (hf : farR r = false) (W : World) (hW : G w W) => refCheck8_any r W ((h.keep hW).at hf))
  have HZ : Hid (∀ bb W', valR r p = bb → G w W' → ((Ending.returned (.bool bb) = .returned (.bool (valR r p))) ∧ G w W')) := fun bb W' a b => ⟨by rw [a], b⟩
  have HE : Hid (valR r p = (!farR r && (raceB r && (decide (0 ≤ p) && decide (p < r.pools.length))))) := rfl
  generalize valR r p = VB at *
  unfold chk8 at HCH
  have hrv : r.v = #[.slice r.ra r.racers.length r.rc, .slice r.pa r.pools.length r.pc, .slice r.ta r.protests.length r.tc] := rfl
  rw [hrv] at HFA HCH ⊢
  clear hrv h
  have g0 : G w (w.alloc (.cells #[.slice r.ra r.racers.length r.rc, .slice r.pa r.pools.length r.pc, .slice r.ta r.protests.length r.tc] 26)) := (G.rf _).a _
  have b0 : Blk (w.alloc (.cells #[.slice r.ra r.racers.length r.rc, .slice r.pa r.pools.length r.pc, .slice r.ta r.protests.length r.tc] 26)) w.heap.size 26 #[.slice r.ra r.racers.length r.rc, .slice r.pa r.pools.length r.pc, .slice r.ta r.protests.length r.tc] := Blk.new _ _ _
  go_enter Tryz.func20, Tryz.ntmps20
  go_upto_region 1 with fail
  change Code.wp _ _ _ _ (w.alloc (.cells #[.slice r.ra r.racers.length r.rc, .slice r.pa r.pools.length r.pc, .slice r.ta r.protests.length r.tc] 26))
  generalize w.alloc (.cells #[.slice r.ra r.racers.length r.rc, .slice r.pa r.pools.length r.pc, .slice r.ta r.protests.length r.tc] 26) = W1 at *
  have m0 := b0.cell 0
  have m1 := b0.cell 1
  have m2 := b0.cell 2
  have l0 := b0.lt
  generalize farR r = FR at *
  cases FR
  · have HCH2 := Lib.hid (HCH.out rfl)
    clear HCH
    generalize raceB r = RB at *
    cases RB
    · simp only [Bool.false_eq_true, if_false] at HCH2
      go_wp2_with (first | (go_at_call 13; refine (HFA.out _ g0).mono ?_; rintro e w2 ⟨rfl, hG2⟩; clear m0 m1 m2 l0; have m0 := (b0.keep hG2).cell 0; have m1 := (b0.keep hG2).cell 1; have m2 := (b0.keep hG2).cell 2; have l0 := (b0.keep hG2).lt) | (go_at_call 14; refine (HCH2.out _ (g0.t hG2)).mono ?_; rintro e w3 ⟨rfl, hG3⟩))
      have HF := Lib.hid (HZ.out false _ (by rw [HE.out]; simp) ((g0.t hG2).t hG3))
      first | exact HF.out | (go_ret; exact HF.out)
    · simp only [if_true] at HCH2
      by_cases h1 : 0 ≤ p
      · by_cases h2 : p < r.pools.length
        · have HV : Hid ((!false && (true && (decide (0 ≤ p) && decide (p < r.pools.length)))) = true) := by show _ = _; simp [h1, h2]
          go_wp2_with (first | (go_at_call 13; refine (HFA.out _ g0).mono ?_; rintro e w2 ⟨rfl, hG2⟩; clear m0 m1 m2 l0; have m0 := (b0.keep hG2).cell 0; have m1 := (b0.keep hG2).cell 1; have m2 := (b0.keep hG2).cell 2; have l0 := (b0.keep hG2).lt) | (go_at_call 14; refine (HCH2.out _ (g0.t hG2)).mono ?_; rintro e w3 ⟨rfl, hG3⟩; clear m0 m1 m2 l0; have m1 := ((b0.keep hG2).keep hG3).cell 1; have l0 := ((b0.keep hG2).keep hG3).lt))
          have HF := Lib.hid (HZ.out true _ (HE.out.trans HV.out) ((g0.t hG2).t hG3))
          first | exact HF.out | (go_ret; exact HF.out)
        · have HV : Hid ((!false && (true && (decide (0 ≤ p) && decide (p < r.pools.length)))) = false) := by show _ = _; simp [h2]
          have hd : decide (p < r.pools.length) = false := decide_eq_false h2
          go_wp2_with (first | (go_at_call 13; refine (HFA.out _ g0).mono ?_; rintro e w2 ⟨rfl, hG2⟩; clear m0 m1 m2 l0; have m0 := (b0.keep hG2).cell 0; have m1 := (b0.keep hG2).cell 1; have m2 := (b0.keep hG2).cell 2; have l0 := (b0.keep hG2).lt) | (go_at_call 14; refine (HCH2.out _ (g0.t hG2)).mono ?_; rintro e w3 ⟨rfl, hG3⟩; clear m0 m1 m2 l0; have m1 := ((b0.keep hG2).keep hG3).cell 1; have l0 := ((b0.keep hG2).keep hG3).lt))
          have HF := Lib.hid (HZ.out false _ (HE.out.trans HV.out) ((g0.t hG2).t hG3))
          first | exact HF.out | (go_ret; exact HF.out) | (go_ret; rw [hd]; exact HF.out)
      · have HV : Hid ((!false && (true && (decide (0 ≤ p) && decide (p < r.pools.length)))) = false) := by show _ = _; simp [h1]
        have hd : decide (0 ≤ p) = false := decide_eq_false h1
        have hd2 : decide (p ≥ 0) = false := decide_eq_false h1
        go_wp2_with (first | (go_at_call 13; refine (HFA.out _ g0).mono ?_; rintro e w2 ⟨rfl, hG2⟩; clear m0 m1 m2 l0; have m0 := (b0.keep hG2).cell 0; have m1 := (b0.keep hG2).cell 1; have m2 := (b0.keep hG2).cell 2; have l0 := (b0.keep hG2).lt) | (go_at_call 14; refine (HCH2.out _ (g0.t hG2)).mono ?_; rintro e w3 ⟨rfl, hG3⟩; clear m0 m1 m2 l0))
        have HF := Lib.hid (HZ.out false _ (HE.out.trans HV.out) ((g0.t hG2).t hG3))
        first | exact HF.out | (go_ret; exact HF.out)
  · go_wp2_with (go_at_call 13; refine (HFA.out _ g0).mono ?_; rintro e w2 ⟨rfl, hG2⟩)
    have HF := Lib.hid (HZ.out false _ (by rw [HE.out]; simp) (g0.t hG2))
    first | exact HF.out | (go_ret; exact HF.out)
theorem In_any (l : List Int) (a : Option Addr) (cap : Nat) (n : Int) (w : World) (h : IntsAt w a l) (hl : l.length ≤ 1000) : Calls Tryz.prog 28 #[.slice a l.length cap, .int .i64 n] w fun e w' => e = .returned (.bool (inL l n)) ∧ G w w' := by
  go_enter Tryz.func28, Tryz.ntmps28
  go_wp2_with fail
  go_loopw [5] (fun i wr => ∃ k : Nat, k ≤ l.length ∧ i = .int .i64 k ∧ Hid (∀ j, j < k → (n == l.getD j 0) = false) ∧ G w wr) (fun i _ => l.length - (intOf i).toNat)
  case atStart => exact ⟨0, Nat.zero_le _, rfl, fun j hj => by omega, G.rf _⟩
  case round =>
    obtain ⟨k, hk, rfl, hno, hG⟩ := hrel
    by_cases hlt : k < l.length
    · have hki : (k : Int) < l.length := by omega
      rcases h with rfl | ⟨g, off, rfl, hg, hcell⟩
      · simp at hlt
      have lg := Nat.lt_of_lt_of_le hg hG.size
      have q0 := ((bcellB hG).1 g _ hg).trans (hcell k hlt)
      obtain ⟨y, hy⟩ : ∃ y, y = l.getD k 0 := ⟨_, rfl⟩
      have HY := Lib.hid hy
      rw [← hy] at q0
      clear hy hcell
      cases hp : (n == y)
      · have HP := Lib.hid hp
        have hne : ¬ y = n := fun e => by rw [e] at hp; simp at hp
        have hnb : (y == n) = false := by simpa using hne
        clear hp
        go_wp2_with fail
        go_roundw
        case rel => exact ⟨k + 1, by omega, by go_num, fun j hj => by
          rcases Nat.lt_or_ge j k with h | h
          · exact hno.out j h
          · obtain rfl : j = k := by omega
            rw [← HY.out]; exact HP.out, hG⟩
        case measure => simp [intOf] <;> omega
      · have HP : Hid (inL l n = true) := anyU_yes hlt (by rw [← HY.out]; exact hp)
        have hne : y = n := by have : n = y := by simpa using hp
                               exact this.symm
        subst hne
        clear hp
        go_wp2_with fail
        go_ret
        exact ⟨by rw [HP.out]; rfl, hG⟩
    · have hki : ¬ (k : Int) < l.length := by omega
      obtain rfl : k = l.length := by omega
      have HP : Hid (inL l n = false) := anyU_no hno.out
      go_wp2_with fail
      go_ret
      exact ⟨by rw [HP.out]; rfl, hG⟩
theorem neq40 (a b c : Int) (w : World) : (binOp .neq 40 (.agg #[.int .i64 a, .int .i64 b, .int .i64 c]) (.agg #[.int .i64 a, .int .i64 b, .int .i64 c])).run Tryz.prog w = .ok (.bool false) w := by
  go_simp
theorem neq47 (a b c : Int) (w : World) : (binOp .neq 47 (.agg #[.int .i64 a, .int .i64 b, .int .i64 c]) (.agg #[.int .i64 a, .int .i64 b, .int .i64 c])).run Tryz.prog w = .ok (.bool false) w := by
  go_simp
set_option maxRecDepth 100000 in
set_option maxHeartbeats 4000000 in
theorem same26_any (l : List Pz) (a b : Option Addr) (c d : Nat) (w : World) (h1 : RowE Pz.v 3 w a l) (h2 : RowE Pz.v 3 w b l) (hl : l.length ≤ 1000) : Calls Tryz.prog 26 #[.slice a l.length c, .slice b l.length d] w fun e w' => e = .returned (.bool true) ∧ G w w' := by
  go_enter Tryz.func26, Tryz.ntmps26
  go_wp2_with fail
  go_loopw [5] (fun i wr => ∃ k : Nat, k ≤ l.length ∧ i = .int .i64 k ∧ G w wr) (fun i _ => l.length - (intOf i).toNat)
  case atStart => exact ⟨0, Nat.zero_le _, rfl, G.rf _⟩
  case round =>
    obtain ⟨k, hk, rfl, hG⟩ := hrel
    obtain ⟨wo, rfl⟩ : ∃ wo, wo = wr := ⟨_, rfl⟩
    by_cases hlt : k < l.length
    · have hki : (k : Int) < l.length := by omega
      rcases h1 with h | ⟨g1, o1, rfl, hg1, hc1⟩
      · omega
      rcases h2 with h | ⟨g2, o2, rfl, hg2, hc2⟩
      · omega
      have e1 := hc1 k hlt
      have e2 := hc2 k hlt
      obtain ⟨y, hy⟩ : ∃ y, y = l.getD k default := ⟨_, rfl⟩
      rw [← hy] at e1 e2
      clear hy hc1 hc2
      obtain ⟨x0, x1, x2⟩ := y
      unfold Pz.v at e1 e2
      have hSk : ∀ W', G wo W' → (W'.cell? ⟨g1, o1 + k * 3, none⟩ = some (.int .i64 x0) ∧ W'.cell? ⟨g1, o1 + k * 3 + 1, none⟩ = some (.int .i64 x1) ∧ W'.cell? ⟨g1, o1 + k * 3 + 2, none⟩ = some (.int .i64 x2) ∧ g1 < W'.heap.size) ∧ W'.cell? ⟨g2, o2 + k * 3, none⟩ = some (.int .i64 x0) ∧ W'.cell? ⟨g2, o2 + k * 3 + 1, none⟩ = some (.int .i64 x1) ∧ W'.cell? ⟨g2, o2 + k * 3 + 2, none⟩ = some (.int .i64 x2) ∧ g2 < W'.heap.size := fun W' hW => ⟨⟨((bcellB (hG.t hW)).1 g1 _ hg1).trans (e1 0 (by omega)), ((bcellB (hG.t hW)).1 g1 _ hg1).trans (e1 1 (by omega)), ((bcellB (hG.t hW)).1 g1 _ hg1).trans (e1 2 (by omega)), Nat.lt_of_lt_of_le hg1 (hG.t hW).size⟩, ((bcellB (hG.t hW)).1 g2 _ hg2).trans (e2 0 (by omega)), ((bcellB (hG.t hW)).1 g2 _ hg2).trans (e2 1 (by omega)), ((bcellB (hG.t hW)).1 g2 _ hg2).trans (e2 2 (by omega)), Nat.lt_of_lt_of_le hg2 (hG.t hW).size⟩
      clear e1 e2
      have hnq := neq40
      go_upto_region 6 with fail
      refine wp_region_Y (S := fun W' => (W'.cell? ⟨g1, o1 + k * 3, none⟩ = some (.int .i64 x0) ∧ W'.cell? ⟨g1, o1 + k * 3 + 1, none⟩ = some (.int .i64 x1) ∧ W'.cell? ⟨g1, o1 + k * 3 + 2, none⟩ = some (.int .i64 x2) ∧ g1 < W'.heap.size) ∧ W'.cell? ⟨g2, o2 + k * 3, none⟩ = some (.int .i64 x0) ∧ W'.cell? ⟨g2, o2 + k * 3 + 1, none⟩ = some (.int .i64 x1) ∧ W'.cell? ⟨g2, o2 + k * 3 + 2, none⟩ = some (.int .i64 x2) ∧ g2 < W'.heap.size) 8 9 rfl (by kernel_rfl) (hSk _ (G.rf _).d) (fun hS => ?_)
      have ga := (G.rf wo).d
      refine wpAnyY_take (i := 0) (v := ?_) rfl (by kernel_rfl) (by kernel_rfl) (by kernel_rfl) (by kernel_rfl) (fun _ _ _ h => h) (Or.inl ⟨by kernel_rfl, ?_⟩) hS ?_
      rotate_left
      · intro w' hSw; go_simp; with_reducible rfl
      try simp only [Act.put, List.getElem_toArray, List.getElem_cons_zero, List.getElem_cons_succ, List.setIfInBounds_toArray, List.set_cons_zero, List.set_cons_succ]
      refine wpAnyY_take (i := 1) (v := ?_) rfl (by kernel_rfl) (by kernel_rfl) (by kernel_rfl) (by kernel_rfl) (fun _ _ _ h => h) (Or.inl ⟨by kernel_rfl, ?_⟩) hS ?_
      rotate_left
      · intro w' hSw; go_simp; with_reducible rfl
      try simp only [Act.put, List.getElem_toArray, List.getElem_cons_zero, List.getElem_cons_succ, List.setIfInBounds_toArray, List.set_cons_zero, List.set_cons_succ]
      refine wpAnyY_take (i := 2) (v := ?_) rfl (by kernel_rfl) (by kernel_rfl) (by kernel_rfl) (by kernel_rfl) (fun _ _ _ h => h) (Or.inl ⟨by kernel_rfl, ?_⟩) hS ?_
      rotate_left
      · intro w' hSw; obtain ⟨⟨a0, a1, a2, la⟩, b0, b1, b2, lb⟩ := hSw; go_simp; with_reducible rfl
      try simp only [Act.put, List.getElem_toArray, List.getElem_cons_zero, List.getElem_cons_succ, List.setIfInBounds_toArray, List.set_cons_zero, List.set_cons_succ]
      refine wpAnyY_take (i := 3) (v := ?_) rfl (by kernel_rfl) (by kernel_rfl) (by kernel_rfl) (by kernel_rfl) (fun _ _ _ h => h) (Or.inl ⟨by kernel_rfl, ?_⟩) hS ?_
      rotate_left
      · intro w' hSw; obtain ⟨⟨a0, a1, a2, la⟩, b0, b1, b2, lb⟩ := hSw; go_simp; with_reducible rfl
      try simp only [Act.put, List.getElem_toArray, List.getElem_cons_zero, List.getElem_cons_succ, List.setIfInBounds_toArray, List.set_cons_zero, List.set_cons_succ]
      refine wpAnyY_take (i := 4) (v := ?_) rfl (by kernel_rfl) (by kernel_rfl) (by kernel_rfl) (by kernel_rfl) (fun _ _ _ h => h) (Or.inl ⟨by kernel_rfl, ?_⟩) hS ?_
      rotate_left
      · intro w' hSw; go_simp; with_reducible rfl
      try simp only [Act.put, List.getElem_toArray, List.getElem_cons_zero, List.getElem_cons_succ, List.setIfInBounds_toArray, List.set_cons_zero, List.set_cons_succ]
      refine wpAnyY_take (i := 5) (v := ?_) rfl (by kernel_rfl) (by kernel_rfl) (by kernel_rfl) (by kernel_rfl) (fun _ _ _ h => h) (Or.inl ⟨by kernel_rfl, ?_⟩) hS ?_
      rotate_left
      · intro w' hSw; go_simp; with_reducible rfl
      try simp only [Act.put, List.getElem_toArray, List.getElem_cons_zero, List.getElem_cons_succ, List.setIfInBounds_toArray, List.set_cons_zero, List.set_cons_succ]
      refine wpAnyY_take (i := 6) (v := ?_) rfl (by kernel_rfl) (by kernel_rfl) (by kernel_rfl) (by kernel_rfl) (fun _ _ _ h => h) (Or.inl ⟨by kernel_rfl, ?_⟩) hS ?_
      rotate_left
      · intro w' hSw; obtain ⟨⟨a0, a1, a2, la⟩, b0, b1, b2, lb⟩ := hSw; go_simp; with_reducible rfl
      try simp only [Act.put, List.getElem_toArray, List.getElem_cons_zero, List.getElem_cons_succ, List.setIfInBounds_toArray, List.set_cons_zero, List.set_cons_succ]
      refine wpAnyY_take (i := 7) (v := ?_) rfl (by kernel_rfl) (by kernel_rfl) (by kernel_rfl) (by kernel_rfl) (fun _ _ _ h => h) (Or.inl ⟨by kernel_rfl, ?_⟩) hS ?_
      rotate_left
      · intro w' hSw; obtain ⟨⟨a0, a1, a2, la⟩, b0, b1, b2, lb⟩ := hSw; go_simp; with_reducible rfl
      try simp only [Act.put, List.getElem_toArray, List.getElem_cons_zero, List.getElem_cons_succ, List.setIfInBounds_toArray, List.set_cons_zero, List.set_cons_succ]
      refine wpAnyY_oneW (i := 8) (by kernel_rfl) rfl (by kernel_rfl) (by kernel_rfl) (fun K8 hK8 => ?_)
      go_simp
      refine hK8.out _ _ ?_
      clear hK8
      try simp only [Act.put, List.getElem_toArray, List.getElem_cons_zero, List.getElem_cons_succ, List.setIfInBounds_toArray, List.set_cons_zero, List.set_cons_succ]
      refine wpAnyY_done (by kernel_rfl) ?_ _
      clear hS hSk
      go_wp2_with fail
      go_roundw
      case rel => exact ⟨k + 1, by omega, by go_num, hG.t ga⟩
      case measure => simp [intOf] <;> omega
    · obtain rfl : k = l.length := by omega
      have hki : ¬ ((l.length : Nat) : Int) < l.length := by omega
      go_wp2_with fail
      go_ret
      exact ⟨rfl, hG⟩
set_option maxRecDepth 100000 in
set_option maxHeartbeats 4000000 in
theorem same27_any (l : List Pu) (a b : Option Addr) (c d : Nat) (w : World) (h1 : RowE Pu.v 3 w a l) (h2 : RowE Pu.v 3 w b l) (hl : l.length ≤ 1000) : Calls Tryz.prog 27 #[.slice a l.length c, .slice b l.length d] w fun e w' => e = .returned (.bool true) ∧ G w w' := by
  go_enter Tryz.func27, Tryz.ntmps27
  go_wp2_with fail
  go_loopw [5] (fun i wr => ∃ k : Nat, k ≤ l.length ∧ i = .int .i64 k ∧ G w wr) (fun i _ => l.length - (intOf i).toNat)
  case atStart => exact ⟨0, Nat.zero_le _, rfl, G.rf _⟩
  case round =>
    obtain ⟨k, hk, rfl, hG⟩ := hrel
    obtain ⟨wo, rfl⟩ : ∃ wo, wo = wr := ⟨_, rfl⟩
    by_cases hlt : k < l.length
    · have hki : (k : Int) < l.length := by omega
      rcases h1 with h | ⟨g1, o1, rfl, hg1, hc1⟩
      · omega
      rcases h2 with h | ⟨g2, o2, rfl, hg2, hc2⟩
      · omega
      have e1 := hc1 k hlt
      have e2 := hc2 k hlt
      obtain ⟨y, hy⟩ : ∃ y, y = l.getD k default := ⟨_, rfl⟩
      rw [← hy] at e1 e2
      clear hy hc1 hc2
      obtain ⟨x0, x1, x2⟩ := y
      unfold Pu.v at e1 e2
      have hSk : ∀ W', G wo W' → (W'.cell? ⟨g1, o1 + k * 3, none⟩ = some (.int .i64 x0) ∧ W'.cell? ⟨g1, o1 + k * 3 + 1, none⟩ = some (.int .i64 x1) ∧ W'.cell? ⟨g1, o1 + k * 3 + 2, none⟩ = some (.int .i64 x2) ∧ g1 < W'.heap.size) ∧ W'.cell? ⟨g2, o2 + k * 3, none⟩ = some (.int .i64 x0) ∧ W'.cell? ⟨g2, o2 + k * 3 + 1, none⟩ = some (.int .i64 x1) ∧ W'.cell? ⟨g2, o2 + k * 3 + 2, none⟩ = some (.int .i64 x2) ∧ g2 < W'.heap.size := fun W' hW => ⟨⟨((bcellB (hG.t hW)).1 g1 _ hg1).trans (e1 0 (by omega)), ((bcellB (hG.t hW)).1 g1 _ hg1).trans (e1 1 (by omega)), ((bcellB (hG.t hW)).1 g1 _ hg1).trans (e1 2 (by omega)), Nat.lt_of_lt_of_le hg1 (hG.t hW).size⟩, ((bcellB (hG.t hW)).1 g2 _ hg2).trans (e2 0 (by omega)), ((bcellB (hG.t hW)).1 g2 _ hg2).trans (e2 1 (by omega)), ((bcellB (hG.t hW)).1 g2 _ hg2).trans (e2 2 (by omega)), Nat.lt_of_lt_of_le hg2 (hG.t hW).size⟩
      clear e1 e2
      have hnq := neq47
      go_upto_region 6 with fail
      refine wp_region_Y (S := fun W' => (W'.cell? ⟨g1, o1 + k * 3, none⟩ = some (.int .i64 x0) ∧ W'.cell? ⟨g1, o1 + k * 3 + 1, none⟩ = some (.int .i64 x1) ∧ W'.cell? ⟨g1, o1 + k * 3 + 2, none⟩ = some (.int .i64 x2) ∧ g1 < W'.heap.size) ∧ W'.cell? ⟨g2, o2 + k * 3, none⟩ = some (.int .i64 x0) ∧ W'.cell? ⟨g2, o2 + k * 3 + 1, none⟩ = some (.int .i64 x1) ∧ W'.cell? ⟨g2, o2 + k * 3 + 2, none⟩ = some (.int .i64 x2) ∧ g2 < W'.heap.size) 8 9 rfl (by kernel_rfl) (hSk _ (G.rf _).d) (fun hS => ?_)
      have ga := (G.rf wo).d
      refine wpAnyY_take (i := 0) (v := ?_) rfl (by kernel_rfl) (by kernel_rfl) (by kernel_rfl) (by kernel_rfl) (fun _ _ _ h => h) (Or.inl ⟨by kernel_rfl, ?_⟩) hS ?_
      rotate_left
      · intro w' hSw; go_simp; with_reducible rfl
      try simp only [Act.put, List.getElem_toArray, List.getElem_cons_zero, List.getElem_cons_succ, List.setIfInBounds_toArray, List.set_cons_zero, List.set_cons_succ]
      refine wpAnyY_take (i := 1) (v := ?_) rfl (by kernel_rfl) (by kernel_rfl) (by kernel_rfl) (by kernel_rfl) (fun _ _ _ h => h) (Or.inl ⟨by kernel_rfl, ?_⟩) hS ?_
      rotate_left
      · intro w' hSw; go_simp; with_reducible rfl
      try simp only [Act.put, List.getElem_toArray, List.getElem_cons_zero, List.getElem_cons_succ, List.setIfInBounds_toArray, List.set_cons_zero, List.set_cons_succ]
      refine wpAnyY_take (i := 2) (v := ?_) rfl (by kernel_rfl) (by kernel_rfl) (by kernel_rfl) (by kernel_rfl) (fun _ _ _ h => h) (Or.inl ⟨by kernel_rfl, ?_⟩) hS ?_
      rotate_left
      · intro w' hSw; obtain ⟨⟨a0, a1, a2, la⟩, b0, b1, b2, lb⟩ := hSw; go_simp; with_reducible rfl
      try simp only [Act.put, List.getElem_toArray, List.getElem_cons_zero, List.getElem_cons_succ, List.setIfInBounds_toArray, List.set_cons_zero, List.set_cons_succ]
      refine wpAnyY_take (i := 3) (v := ?_) rfl (by kernel_rfl) (by kernel_rfl) (by kernel_rfl) (by kernel_rfl) (fun _ _ _ h => h) (Or.inl ⟨by kernel_rfl, ?_⟩) hS ?_
      rotate_left
      · intro w' hSw; obtain ⟨⟨a0, a1, a2, la⟩, b0, b1, b2, lb⟩ := hSw; go_simp; with_reducible rfl
      try simp only [Act.put, List.getElem_toArray, List.getElem_cons_zero, List.getElem_cons_succ, List.setIfInBounds_toArray, List.set_cons_zero, List.set_cons_succ]
      refine wpAnyY_take (i := 4) (v := ?_) rfl (by kernel_rfl) (by kernel_rfl) (by kernel_rfl) (by kernel_rfl) (fun _ _ _ h => h) (Or.inl ⟨by kernel_rfl, ?_⟩) hS ?_
      rotate_left
      · intro w' hSw; go_simp; with_reducible rfl
      try simp only [Act.put, List.getElem_toArray, List.getElem_cons_zero, List.getElem_cons_succ, List.setIfInBounds_toArray, List.set_cons_zero, List.set_cons_succ]
      refine wpAnyY_take (i := 5) (v := ?_) rfl (by kernel_rfl) (by kernel_rfl) (by kernel_rfl) (by kernel_rfl) (fun _ _ _ h => h) (Or.inl ⟨by kernel_rfl, ?_⟩) hS ?_
      rotate_left
      · intro w' hSw; go_simp; with_reducible rfl
      try simp only [Act.put, List.getElem_toArray, List.getElem_cons_zero, List.getElem_cons_succ, List.setIfInBounds_toArray, List.set_cons_zero, List.set_cons_succ]
      refine wpAnyY_take (i := 6) (v := ?_) rfl (by kernel_rfl) (by kernel_rfl) (by kernel_rfl) (by kernel_rfl) (fun _ _ _ h => h) (Or.inl ⟨by kernel_rfl, ?_⟩) hS ?_
      rotate_left
      · intro w' hSw; obtain ⟨⟨a0, a1, a2, la⟩, b0, b1, b2, lb⟩ := hSw; go_simp; with_reducible rfl
      try simp only [Act.put, List.getElem_toArray, List.getElem_cons_zero, List.getElem_cons_succ, List.setIfInBounds_toArray, List.set_cons_zero, List.set_cons_succ]
      refine wpAnyY_take (i := 7) (v := ?_) rfl (by kernel_rfl) (by kernel_rfl) (by kernel_rfl) (by kernel_rfl) (fun _ _ _ h => h) (Or.inl ⟨by kernel_rfl, ?_⟩) hS ?_
      rotate_left
      · intro w' hSw; obtain ⟨⟨a0, a1, a2, la⟩, b0, b1, b2, lb⟩ := hSw; go_simp; with_reducible rfl
      try simp only [Act.put, List.getElem_toArray, List.getElem_cons_zero, List.getElem_cons_succ, List.setIfInBounds_toArray, List.set_cons_zero, List.set_cons_succ]
      refine wpAnyY_oneW (i := 8) (by kernel_rfl) rfl (by kernel_rfl) (by kernel_rfl) (fun K8 hK8 => ?_)
      go_simp
      refine hK8.out _ _ ?_
      clear hK8
      try simp only [Act.put, List.getElem_toArray, List.getElem_cons_zero, List.getElem_cons_succ, List.setIfInBounds_toArray, List.set_cons_zero, List.set_cons_succ]
      refine wpAnyY_done (by kernel_rfl) ?_ _
      clear hS hSk
      go_wp2_with fail
      go_roundw
      case rel => exact ⟨k + 1, by omega, by go_num, hG.t ga⟩
      case measure => simp [intOf] <;> omega
    · obtain rfl : k = l.length := by omega
      have hki : ¬ ((l.length : Nat) : Int) < l.length := by omega
      go_wp2_with fail
      go_ret
      exact ⟨rfl, hG⟩
end Go.Proofs.YtnkmcoljijmgpaaGreat
set_option linter.unusedSimpArgs false
set_option linter.unusedVariables false
namespace Go.Proofs.YtnkmcoljijmgpaaGreat
open Go.RowKit Go.Shelf Go.Sort Go.Maps
attribute [local go_sem] Oper.semAt_some
/-- a racer without the pools -/
def rcQ (x : Rc) : Int × Int × Int × Int := (x.bird, x.owner, x.rank, x.day)
theorem K_of_Q {l l' : List Rc} (h : l.map rcQ = l'.map rcQ) : l.map rcK = l'.map rcK := by
  have a : ∀ l : List Rc, l.map rcK = (l.map rcQ).map (fun q => (q.1, q.2.2.1, q.2.2.2)) := fun l => by
    rw [List.map_map]
    rfl
  rw [a, a, h]
theorem getQ {l l' : List Rc} (h : l.map rcQ = l'.map rcQ) (i : Nat) : rcQ (l.getD i default) = rcQ (l'.getD i default) := by
  have e := congrArg (fun m => m[i]?) h
  simp only [List.getElem?_map] at e
  rw [List.getD_eq_getElem?_getD, List.getD_eq_getElem?_getD]
  cases h1 : l[i]? <;> cases h2 : l'[i]? <;> rw [h1, h2] at e <;> simp at e ⊢
  exact e
/-- the race with one pool alone, and the birds that are nominated for it -/
def aloneR (r : Ra) (p : Int) (va pb : Option Addr) (vc : Nat) (L : List Rc) : Ra := ⟨va, vc, L, pb, 1, [poolAt r p], none, 0, []⟩
theorem racer_parts {r : Ra} (h : raceB r = true) {x : Rc} (hx : x ∈ r.racers) : racerB r.pools.length x = true := by
  have h1 := race_parts h
  unfold racersB at h1
  simp only [Bool.and_eq_true] at h1
  obtain ⟨i, hi, rfl⟩ := List.mem_iff_getElem.1 hx
  have h2 := allU_iff.1 h1.2 i hi
  rw [List.getD_eq_getElem?_getD, List.getElem?_eq_getElem hi] at h2
  simp only [Bool.and_eq_true] at h2
  exact h2.2
theorem alone_race {r : Ra} {p : Int} {L : List Rc} (hr : raceB r = true) (h0 : 0 ≤ p) (hp : p < r.pools.length) (hL : L.map rcQ = (r.racers.filter fun x => inL x.pools p).map rcQ) (hz : ∀ y ∈ L, y.pools = [0]) (va pb : Option Addr) (vc : Nat) :
    raceB (aloneR r p va pb vc L) = true ∧ KEq (fuOf r p none 0) (fuOf (aloneR r p va pb vc L) 0 none 0) ∧ L.length ≤ 12 := by
  have hin : isInB p 0 ((r.pools.length : Int) - 1) = true := by
    unfold isInB
    simp only [Bool.and_eq_true, decide_eq_true_eq]
    omega
  have hpo := (pool_of hr hin).2
  have hlen : L.length ≤ 12 := by
    have e := congrArg List.length hL
    simp only [List.length_map] at e
    rw [e]
    exact Nat.le_trans (List.length_filter_le _ _) (uniq_of (race_parts hr)).1
  have hu : Uniq (r.racers.filter fun x => inL x.pools p) := uniq_filter (uniq_of (race_parts hr)).2 _
  have huL : Uniq L := by
    have a : ∀ l : List Rc, Uniq l ↔ (l.map rcQ).Pairwise fun q q' => q.1 ≠ q'.1 := fun l => by
      rw [List.pairwise_map]
      rfl
    rw [a, hL, ← a]
    exact hu
  refine ⟨?_, ⟨rfl, ?_⟩, hlen⟩
  · refine race_yes hlen (by show 1 ≤ 6; decide) (by show 0 ≤ 4; decide) (fun k hk => ?_) (fun k hk => ?_) (fun k hk => ?_)
    · have hk' : k < L.length := hk
      have eq := getQ hL k
      have hkF : k < (r.racers.filter fun x => inL x.pools p).length := by
        have e := congrArg List.length hL
        simp only [List.length_map] at e
        omega
      have hxm : (r.racers.filter fun x => inL x.pools p).getD k default ∈ r.racers := by
        rw [List.getD_eq_getElem?_getD, List.getElem?_eq_getElem hkF]
        exact (List.mem_filter.1 (List.getElem_mem hkF)).1
      have hrb := racer_parts hr hxm
      have hym : L.getD k default ∈ L := by
        rw [List.getD_eq_getElem?_getD, List.getElem?_eq_getElem hk']
        exact List.getElem_mem hk'
      have hyz := hz _ hym
      refine ⟨?_, ?_⟩
      · show racerB 1 (L.getD k default) = true
        generalize L.getD k default = y at *
        generalize (r.racers.filter fun x => inL x.pools p).getD k default = x at *
        unfold rcQ at eq
        simp only [Prod.mk.injEq] at eq
        obtain ⟨e1, e2, e3, e4⟩ := eq
        unfold racerB at hrb ⊢
        simp only [Bool.and_eq_true] at hrb
        rw [e1, e2, hyz, hrb.1, hrb.2.1]
        have hrk : rankB y = true := by
          unfold rankB
          rw [e3, e4]
          exact hrb.2.2.1
        rw [hrk]
        rfl
      · refine idxR_some hk' rfl (fun j hj e => ?_)
        have hj' : j < L.length := Nat.lt_trans hj hk'
        have h5 := List.pairwise_iff_getElem.1 huL j k hj' hk' hj
        have d1 : (aloneR r p va pb vc L).racers.getD j default = L[j] := by
          show L.getD j default = _
          rw [List.getD_eq_getElem?_getD, List.getElem?_eq_getElem hj']
          rfl
        have d2 : (aloneR r p va pb vc L).racers.getD k default = L[k] := by
          show L.getD k default = _
          rw [List.getD_eq_getElem?_getD, List.getElem?_eq_getElem hk']
          rfl
        rw [d1, d2] at e
        exact h5 e
    · have hk' : k < 1 := hk
      obtain rfl : k = 0 := by omega
      exact hpo
    · have hk' : k < 0 := hk
      omega
  · show (runners r p).map rcK = (runners (aloneR r p va pb vc L) 0).map rcK
    unfold runners
    refine srtK ?_
    have e : (aloneR r p va pb vc L).racers.filter (fun x => inL x.pools 0) = L := List.filter_eq_self.2 (fun y hy => by
      have := hz y hy
      show inL y.pools 0 = true
      rw [this]
      rfl)
    rw [e]
    exact (K_of_Q hL).symm
end Go.Proofs.YtnkmcoljijmgpaaGreat
