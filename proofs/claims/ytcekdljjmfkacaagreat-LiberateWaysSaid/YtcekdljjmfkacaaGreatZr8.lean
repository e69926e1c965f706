import Derived.Test.YtcekdljjmfkacaaGreatXk
import Derived.Test.YtcekdljjmfkacaaGreatZr3
import Derived.Test.YtcekdljjmfkacaaGreatZk
import Derived.Test.YtcekdljjmfkacaaGreatZn
import Derived.Test.YtcekdljjmfkacaaGreatZq3
import Derived.Test.YtcekdljjmfkacaaGreatZq4
import Derived.Test.YtcekdljjmfkacaaGreatOw
import Derived.Test.YtcekdljjmfkacaaGreatQa
set_option linter.unusedSimpArgs false
set_option linter.unusedVariables false
namespace Go.Proofs.YtcekdljjmfkacaaGreat
open Go.RowKit Go.Shelf
attribute [local go_sem] Oper.semAt_some wide_fn wide_dep wideR_fn wideR_dep
/-- the points of a way, and its spans, as numbers -/
def ptC (L : List (Nat × Nat)) (i r : Nat) : Int := if r = 0 then ((L.getD i (0, 0)).1 : Nat) else ((L.getD i (0, 0)).2 : Nat)
theorem pts_row {W : World} {B : Nat} {v : Value} {L : List (Nat × Nat)} (h : W.ownsRow B 27 2 v L.length (ptsV L)) : ∃ ra rc, v = .slice ra L.length rc ∧ RowAt W ra L.length 2 (ptC L) := by
  refine row_own h fun i hi r hr => ?_
  have := pts_get L i hi
  match r, hr with
  | 0, _ => exact this.1
  | 1, _ => exact this.2
theorem sp_row {W : World} {B N : Nat} {v : Value} {L : List Value} {lo hi : Nat → Nat} (h : W.ownsRow B 30 2 v N L) (hL : ∀ k, k < N → L[k * 2]? = some (.int .i64 (lo k : Nat)) ∧ L[k * 2 + 1]? = some (.int .i64 (hi k : Nat))) : ∃ ra rc, v = .slice ra N rc ∧ RowAt W ra N 2 (fun i r => if r = 0 then ((lo i : Nat) : Int) else ((hi i : Nat) : Int)) := by
  refine row_own h fun i hi r hr => ?_
  match r, hr with
  | 0, _ => exact (hL i hi).1
  | 1, _ => exact (hL i hi).2
theorem spV_getR {r : Rl} {i mi k : Nat} (hk : k < r.ns i) : (spV r.north r.east (r.P i) r.sl r.sh mi (r.ns i))[k * 2]? = some (.int .i64 ((mi + r.st i k 2 : Nat) : Int)) ∧ (spV r.north r.east (r.P i) r.sl r.sh mi (r.ns i))[k * 2 + 1]? = some (.int .i64 ((mi + r.st i k 3 : Nat) : Int)) := by
  have := flat2q_get (fun q => .int .i64 ((mi : Int) + (loT r.north r.east (r.P i) r.sh q : Nat))) (fun q => .int .i64 ((mi : Int) + (hiT r.north r.east (r.P i) r.sl q : Nat))) (r.ns i) k hk
  simp only [Rl.st, if_pos hk]
  exact this
section
variable (north cols lofts wrong bx bY sl sh lw lg lh hours dark : Int) (east : List Int) (svs : List Sv) (n k : Nat) (h f : Nat → Nat → Int) (ea sa ha fa : Option Addr) (ec sc hc fc : Nat) (w : World)
def wayZ (home : Int) : List (Nat × Nat) × Int := if chkE north cols lofts wrong bx bY sl sh lw lg lh hours dark east svs n k h f = 0 ∧ isInB home 0 ((n : Int) - 1) = true then ((mkR north cols lofts wrong bx bY sl sh lw lg lh hours dark east svs n k h f none none none none 0 0 0 0).P home.toNat, 0) else ([], zb (chkE north cols lofts wrong bx bY sl sh lw lg lh hours dark east svs n k h f))
def pasN (home mi : Int) : Nat := if chkE north cols lofts wrong bx bY sl sh lw lg lh hours dark east svs n k h f = 0 ∧ (isInB home 0 ((n : Int) - 1) && isInB mi 0 9999) = true then (mkR north cols lofts wrong bx bY sl sh lw lg lh hours dark east svs n k h f none none none none 0 0 0 0).ns home.toNat else 0
def pasE (home mi : Int) : Int := if chkE north cols lofts wrong bx bY sl sh lw lg lh hours dark east svs n k h f = 0 ∧ (isInB home 0 ((n : Int) - 1) && isInB mi 0 9999) = true then 0 else zb (chkE north cols lofts wrong bx bY sl sh lw lg lh hours dark east svs n k h f)
def pasC (home mi : Int) (i r : Nat) : Int := if r = 0 then ((mi.toNat + (mkR north cols lofts wrong bx bY sl sh lw lg lh hours dark east svs n k h f none none none none 0 0 0 0).st home.toNat i 2 : Nat) : Int) else ((mi.toNat + (mkR north cols lofts wrong bx bY sl sh lw lg lh hours dark east svs n k h f none none none none 0 0 0 0).st home.toNat i 3 : Nat) : Int)
def weaZ (px py hr : Int) : Sk × Int := if chkE north cols lofts wrong bx bY sl sh lw lg lh hours dark east svs n k h f = 0 ∧ (placeW cols east.length px py && isInB hr 0 (IntKind.i64.wrap (hours - 1))) = true then (if (mkR north cols lofts wrong bx bY sl sh lw lg lh hours dark east svs n k h f none none none none 0 0 0 0).err = 0 then known f px py hr k else sk0, (mkR north cols lofts wrong bx bY sl sh lw lg lh hours dark east svs n k h f none none none none 0 0 0 0).err) else (sk0, zb (chkE north cols lofts wrong bx bY sl sh lw lg lh hours dark east svs n k h f))
theorem zb_if (c : Int) (b : Bool) (h : ¬ (c = 0 ∧ b = true)) : (if c = 0 then (if b = true then (0 : Int) else 1) else c) = zb c := by
  unfold zb
  by_cases h0 : c = 0
  · rw [if_pos h0, if_pos h0, if_neg (fun hb => h ⟨h0, hb⟩)]
  · rw [if_neg h0, if_neg h0]
theorem way_prog (home : Int) (hn : n ≤ 1000) (L : Laid east svs n k h f ea sa ha fa w) : Calls Tryz.prog 11 #[.agg #[.int .i64 north, .int .i64 cols, .slice ea east.length ec, .int .i64 lofts, .slice sa svs.length sc, .int .i64 wrong, .int .i64 bx, .int .i64 bY, .slice ha n hc, .int .i64 sl, .int .i64 sh, .slice fa k fc, .int .i64 lw, .int .i64 lg, .int .i64 lh, .int .i64 hours, .int .i64 dark], .int .i64 home] w fun e w' => ∃ ra rc, e = .returned (.tuple #[.slice ra (wayZ north cols lofts wrong bx bY sl sh lw lg lh hours dark east svs n k h f home).1.length rc, .int .i64 (wayZ north cols lofts wrong bx bY sl sh lw lg lh hours dark east svs n k h f home).2]) ∧ RowAt w' ra (wayZ north cols lofts wrong bx bY sl sh lw lg lh hours dark east svs n k h f home).1.length 2 (ptC (wayZ north cols lofts wrong bx bY sl sh lw lg lh hours dark east svs n k h f home).1) ∧ G w w' := by
  by_cases hg : chkE north cols lofts wrong bx bY sl sh lw lg lh hours dark east svs n k h f = 0 ∧ isInB home 0 ((n : Int) - 1) = true
  · have hC := (chk_iff north cols lofts wrong bx bY sl sh lw lg lh hours dark east svs n k h f).1 hg.1
    obtain ⟨m1, m2⟩ := home_lt hg.2
    obtain ⟨hv, hok⟩ := mkR_ok north cols lofts wrong bx bY sl sh lw lg lh hours dark east svs n k h f ea sa ha fa ec sc hc fc w L hC
    have := rWay_ok (r := mkR north cols lofts wrong bx bY sl sh lw lg lh hours dark east svs n k h f ea sa ha fa ec sc hc fc) hok (i := home.toNat) m2
    rw [hv, ← m1] at this
    refine this.mono fun e w' hp => ?_
    obtain ⟨v, rfl, hown, hG⟩ := hp
    have hs : (mkR north cols lofts wrong bx bY sl sh lw lg lh hours dark east svs n k h f ea sa ha fa ec sc hc fc).P home.toNat = (mkR north cols lofts wrong bx bY sl sh lw lg lh hours dark east svs n k h f none none none none 0 0 0 0).P home.toNat := rfl
    rw [hs] at hown
    obtain ⟨ra, rc, rfl, hrow⟩ := pts_row hown
    unfold wayZ
    rw [if_pos hg]
    exact ⟨ra, rc, rfl, hrow, hG⟩
  · have hb : chkE north cols lofts wrong bx bY sl sh lw lg lh hours dark east svs n k h f ≠ 0 ∨ isInB home 0 ((n : Int) - 1) = false := by
      by_cases h0 : chkE north cols lofts wrong bx bY sl sh lw lg lh hours dark east svs n k h f = 0
      · right
        cases hx : isInB home 0 ((n : Int) - 1)
        · rfl
        · exact absurd ⟨h0, hx⟩ hg
      · exact .inl h0
    refine (Way_err home (zb (chkE north cols lofts wrong bx bY sl sh lw lg lh hours dark east svs n k h f)) (isInB home 0 ((n : Int) - 1)) _ w isRelV (zb_ne _) (fun W => isHome_any north cols lofts wrong bx bY sl sh lw lg lh hours dark ea east.length ec _ _ n ha hc home W hn) (fun W hW => cq_bad north cols lofts wrong bx bY sl sh lw lg lh hours dark east svs n k h f ea sa ha fa ec sc hc fc W (L.keep hW) _ hb)).mono fun e w' hp => ?_
    obtain ⟨rfl, hG⟩ := hp
    unfold wayZ
    rw [if_neg hg]
    exact ⟨none, 0, rfl, .inl rfl, hG⟩
theorem way_ref (home : Int) (L : Laid east svs n k h f ea sa ha fa w) : Calls Tryz.prog 12 #[.agg #[.int .i64 north, .int .i64 cols, .slice ea east.length ec, .int .i64 lofts, .slice sa svs.length sc, .int .i64 wrong, .int .i64 bx, .int .i64 bY, .slice ha n hc, .int .i64 sl, .int .i64 sh, .slice fa k fc, .int .i64 lw, .int .i64 lg, .int .i64 lh, .int .i64 hours, .int .i64 dark], .int .i64 home] w fun e w' => ∃ ra rc, e = .returned (.tuple #[.slice ra (wayZ north cols lofts wrong bx bY sl sh lw lg lh hours dark east svs n k h f home).1.length rc, .int .i64 (wayZ north cols lofts wrong bx bY sl sh lw lg lh hours dark east svs n k h f home).2]) ∧ RowAt w' ra (wayZ north cols lofts wrong bx bY sl sh lw lg lh hours dark east svs n k h f home).1.length 2 (ptC (wayZ north cols lofts wrong bx bY sl sh lw lg lh hours dark east svs n k h f home).1) ∧ G w w' := by
  refine (rWay6_walk home (chkE north cols lofts wrong bx bY sl sh lw lg lh hours dark east svs n k h f) (isInB home 0 ((n : Int) - 1)) (fun v w' => ∃ B, w'.ownsRow B 27 2 v ((mkR north cols lofts wrong bx bY sl sh lw lg lh hours dark east svs n k h f none none none none 0 0 0 0).P home.toNat).length (ptsV ((mkR north cols lofts wrong bx bY sl sh lw lg lh hours dark east svs n k h f none none none none 0 0 0 0).P home.toNat))) _ w isRelV (fun W hW => rck_all north cols lofts wrong bx bY sl sh lw lg lh hours dark east svs n k h f ea sa ha fa ec sc hc fc W (L.keep hW)) (fun W => rHome6_any north cols lofts wrong bx bY sl sh lw lg lh hours dark home east.length svs.length n k ea sa ha fa ec sc hc fc W L.hn) (fun h0 hb W hW => by
    have hC := (chk_iff north cols lofts wrong bx bY sl sh lw lg lh hours dark east svs n k h f).1 h0
    obtain ⟨m1, m2⟩ := home_lt hb
    obtain ⟨hv, hok⟩ := mkR_ok north cols lofts wrong bx bY sl sh lw lg lh hours dark east svs n k h f ea sa ha fa ec sc hc fc W (L.keep hW) hC
    have := rRefWay (r := mkR north cols lofts wrong bx bY sl sh lw lg lh hours dark east svs n k h f ea sa ha fa ec sc hc fc) hok (i := home.toNat) m2
    rw [hv, ← m1] at this
    refine this.mono fun e w' hp => ?_
    obtain ⟨v, rfl, hown, hG⟩ := hp
    exact ⟨v, rfl, ⟨_, hown⟩, hG⟩)).mono fun e w' hp => ?_
  unfold wayZ
  by_cases hg : chkE north cols lofts wrong bx bY sl sh lw lg lh hours dark east svs n k h f = 0 ∧ isInB home 0 ((n : Int) - 1) = true
  · rw [if_pos hg]
    obtain ⟨hG, ⟨h0, v, rfl, ⟨B, hown⟩⟩ | ⟨h0, rfl⟩⟩ := hp
    · obtain ⟨ra, rc, rfl, hrow⟩ := pts_row hown
      exact ⟨ra, rc, rfl, hrow, hG⟩
    · rw [if_pos hg.1, if_pos hg.2] at h0
      exact absurd rfl h0
  · rw [if_neg hg]
    rw [OrPost, zb_if _ _ hg] at hp
    obtain ⟨hG, ⟨h0, _⟩ | ⟨h0, rfl⟩⟩ := hp
    · exact absurd h0 (zb_ne _)
    · exact ⟨none, 0, rfl, .inl rfl, hG⟩
theorem pas_prog (home mi : Int) (hn : n ≤ 1000) (L : Laid east svs n k h f ea sa ha fa w) : Calls Tryz.prog 13 #[.agg #[.int .i64 north, .int .i64 cols, .slice ea east.length ec, .int .i64 lofts, .slice sa svs.length sc, .int .i64 wrong, .int .i64 bx, .int .i64 bY, .slice ha n hc, .int .i64 sl, .int .i64 sh, .slice fa k fc, .int .i64 lw, .int .i64 lg, .int .i64 lh, .int .i64 hours, .int .i64 dark], .int .i64 home, .int .i64 mi] w fun e w' => ∃ ra rc, e = .returned (.tuple #[.slice ra (pasN north cols lofts wrong bx bY sl sh lw lg lh hours dark east svs n k h f home mi) rc, .int .i64 (pasE north cols lofts wrong bx bY sl sh lw lg lh hours dark east svs n k h f home mi)]) ∧ RowAt w' ra (pasN north cols lofts wrong bx bY sl sh lw lg lh hours dark east svs n k h f home mi) 2 (pasC north cols lofts wrong bx bY sl sh lw lg lh hours dark east svs n k h f home mi) ∧ G w w' := by
  by_cases hg : chkE north cols lofts wrong bx bY sl sh lw lg lh hours dark east svs n k h f = 0 ∧ (isInB home 0 ((n : Int) - 1) && isInB mi 0 9999) = true
  · have hC := (chk_iff north cols lofts wrong bx bY sl sh lw lg lh hours dark east svs n k h f).1 hg.1
    have hb := hg.2
    rw [Bool.and_eq_true] at hb
    obtain ⟨m1, m2⟩ := home_lt hb.1
    obtain ⟨t1, t2⟩ := isInB_nat hb.2
    obtain ⟨hv, hok⟩ := mkR_ok north cols lofts wrong bx bY sl sh lw lg lh hours dark east svs n k h f ea sa ha fa ec sc hc fc w L hC
    have := rPasses_ok (r := mkR north cols lofts wrong bx bY sl sh lw lg lh hours dark east svs n k h f ea sa ha fa ec sc hc fc) hok (i := home.toNat) (m := mi.toNat) m2 (by omega)
    rw [hv, ← m1, ← t1] at this
    refine this.mono fun e w' hp => ?_
    obtain ⟨v, rfl, hown, hG⟩ := hp
    obtain ⟨ra, rc, rfl, hrow⟩ := sp_row hown (fun k hk => spV_getR hk)
    unfold pasN pasE
    rw [if_pos hg, if_pos hg]
    exact ⟨ra, rc, rfl, hrow, hG⟩
  · have hb : chkE north cols lofts wrong bx bY sl sh lw lg lh hours dark east svs n k h f ≠ 0 ∨ (isInB home 0 ((n : Int) - 1) && isInB mi 0 9999) = false := by
      by_cases h0 : chkE north cols lofts wrong bx bY sl sh lw lg lh hours dark east svs n k h f = 0
      · right
        cases hx : (isInB home 0 ((n : Int) - 1) && isInB mi 0 9999)
        · rfl
        · exact absurd ⟨h0, hx⟩ hg
      · exact .inl h0
    refine (Passes_err home mi (zb (chkE north cols lofts wrong bx bY sl sh lw lg lh hours dark east svs n k h f)) (isInB home 0 ((n : Int) - 1)) (isInB mi 0 9999) _ w isRelV (zb_ne _) (fun W => isHome_any north cols lofts wrong bx bY sl sh lw lg lh hours dark ea east.length ec _ _ n ha hc home W hn) (fun W => lMinute_any mi W) (fun W hW => cq_bad north cols lofts wrong bx bY sl sh lw lg lh hours dark east svs n k h f ea sa ha fa ec sc hc fc W (L.keep hW) _ hb)).mono fun e w' hp => ?_
    obtain ⟨rfl, hG⟩ := hp
    unfold pasN pasE
    rw [if_neg hg, if_neg hg]
    exact ⟨none, 0, rfl, .inl rfl, hG⟩
theorem pas_ref (home mi : Int) (L : Laid east svs n k h f ea sa ha fa w) : Calls Tryz.prog 14 #[.agg #[.int .i64 north, .int .i64 cols, .slice ea east.length ec, .int .i64 lofts, .slice sa svs.length sc, .int .i64 wrong, .int .i64 bx, .int .i64 bY, .slice ha n hc, .int .i64 sl, .int .i64 sh, .slice fa k fc, .int .i64 lw, .int .i64 lg, .int .i64 lh, .int .i64 hours, .int .i64 dark], .int .i64 home, .int .i64 mi] w fun e w' => ∃ ra rc, e = .returned (.tuple #[.slice ra (pasN north cols lofts wrong bx bY sl sh lw lg lh hours dark east svs n k h f home mi) rc, .int .i64 (pasE north cols lofts wrong bx bY sl sh lw lg lh hours dark east svs n k h f home mi)]) ∧ RowAt w' ra (pasN north cols lofts wrong bx bY sl sh lw lg lh hours dark east svs n k h f home mi) 2 (pasC north cols lofts wrong bx bY sl sh lw lg lh hours dark east svs n k h f home mi) ∧ G w w' := by
  refine (rPasses6_walk home mi (chkE north cols lofts wrong bx bY sl sh lw lg lh hours dark east svs n k h f) (isInB home 0 ((n : Int) - 1)) (isInB mi 0 9999) (fun v w' => ∃ ra rc, v = .slice ra ((mkR north cols lofts wrong bx bY sl sh lw lg lh hours dark east svs n k h f none none none none 0 0 0 0).ns home.toNat) rc ∧ RowAt w' ra ((mkR north cols lofts wrong bx bY sl sh lw lg lh hours dark east svs n k h f none none none none 0 0 0 0).ns home.toNat) 2 (pasC north cols lofts wrong bx bY sl sh lw lg lh hours dark east svs n k h f home mi)) _ w isRelV (fun W hW => rck_all north cols lofts wrong bx bY sl sh lw lg lh hours dark east svs n k h f ea sa ha fa ec sc hc fc W (L.keep hW)) (fun W => rHome6_any north cols lofts wrong bx bY sl sh lw lg lh hours dark home east.length svs.length n k ea sa ha fa ec sc hc fc W L.hn) (fun W => rMinute6_any mi W) (fun h0 hb W hW => by
    have hC := (chk_iff north cols lofts wrong bx bY sl sh lw lg lh hours dark east svs n k h f).1 h0
    obtain ⟨m1, m2⟩ := home_lt hb.1
    obtain ⟨t1, t2⟩ := isInB_nat hb.2
    obtain ⟨hv, hok⟩ := mkR_ok north cols lofts wrong bx bY sl sh lw lg lh hours dark east svs n k h f ea sa ha fa ec sc hc fc W (L.keep hW) hC
    have := rRefPasses (r := mkR north cols lofts wrong bx bY sl sh lw lg lh hours dark east svs n k h f ea sa ha fa ec sc hc fc) hok (i := home.toNat) (m := mi.toNat) m2 (by omega)
    rw [hv, ← m1, ← t1] at this
    refine this.mono fun e w' hp => ?_
    obtain ⟨v, rfl, hown, hG⟩ := hp
    obtain ⟨ra, rc, rfl, hrow⟩ := sp_row hown (fun k hk => pv_get hok.nums m2 hk)
    exact ⟨_, rfl, ⟨ra, rc, rfl, hrow⟩, hG⟩)).mono fun e w' hp => ?_
  unfold pasN pasE
  by_cases hg : chkE north cols lofts wrong bx bY sl sh lw lg lh hours dark east svs n k h f = 0 ∧ (isInB home 0 ((n : Int) - 1) && isInB mi 0 9999) = true
  · rw [if_pos hg, if_pos hg]
    have hb := hg.2
    rw [Bool.and_eq_true] at hb
    obtain ⟨hG, ⟨h0, v, rfl, ⟨ra, rc, rfl, hrow⟩⟩ | ⟨h0, rfl⟩⟩ := hp
    · exact ⟨ra, rc, rfl, hrow, hG⟩
    · rw [if_pos hg.1, if_pos hb] at h0
      exact absurd rfl h0
  · rw [if_neg hg, if_neg hg]
    have hg2 : ¬ (chkE north cols lofts wrong bx bY sl sh lw lg lh hours dark east svs n k h f = 0 ∧ (isInB home 0 ((n : Int) - 1) = true ∧ isInB mi 0 9999 = true)) := fun hh => hg ⟨hh.1, by rw [hh.2.1, hh.2.2]; rfl⟩
    have hz : (if chkE north cols lofts wrong bx bY sl sh lw lg lh hours dark east svs n k h f = 0 then (if isInB home 0 ((n : Int) - 1) = true ∧ isInB mi 0 9999 = true then (0 : Int) else 1) else chkE north cols lofts wrong bx bY sl sh lw lg lh hours dark east svs n k h f) = zb (chkE north cols lofts wrong bx bY sl sh lw lg lh hours dark east svs n k h f) := by
      unfold zb
      by_cases h0 : chkE north cols lofts wrong bx bY sl sh lw lg lh hours dark east svs n k h f = 0
      · rw [if_pos h0, if_pos h0, if_neg (fun hb => hg2 ⟨h0, hb⟩)]
      · rw [if_neg h0, if_neg h0]
    rw [OrPost, hz] at hp
    obtain ⟨hG, ⟨h0, _⟩ | ⟨h0, rfl⟩⟩ := hp
    · exact absurd h0 (zb_ne _)
    · exact ⟨none, 0, rfl, .inl rfl, hG⟩
theorem rSkyAt {r : Rl} {W : World} {F : Nat} (h : r.Fc W F) {x y t : Int} (hx : i64b x) (hy : i64b y) (ht : i64b t) : Calls Tryz.prog 51 #[.pointer (some ⟨F, 0, none⟩), .agg #[.int .i64 x, .int .i64 y, .int .i64 t]] W fun e w' => e = .returned (.agg ((r.S x y t).getD skAny).v) ∧ G W w' := by
  obtain ⟨m, cnt, v, wl, B, h1, h2, h3, h4⟩ := h
  exact skyAt_any m cnt F _ r.S x y t W h1 rfl h2 hx hy ht
theorem wea_prog (px py hr : Int) (L : Laid east svs n k h f ea sa ha fa w) : Calls Tryz.prog 15 #[.agg #[.int .i64 north, .int .i64 cols, .slice ea east.length ec, .int .i64 lofts, .slice sa svs.length sc, .int .i64 wrong, .int .i64 bx, .int .i64 bY, .slice ha n hc, .int .i64 sl, .int .i64 sh, .slice fa k fc, .int .i64 lw, .int .i64 lg, .int .i64 lh, .int .i64 hours, .int .i64 dark], .agg #[.int .i64 px, .int .i64 py], .int .i64 hr] w fun e w' => e = .returned (.tuple #[.agg (weaZ north cols lofts wrong bx bY sl sh lw lg lh hours dark east svs n k h f px py hr).1.v, .int .i64 (weaZ north cols lofts wrong bx bY sl sh lw lg lh hours dark east svs n k h f px py hr).2]) ∧ G w w' := by
  by_cases hg : chkE north cols lofts wrong bx bY sl sh lw lg lh hours dark east svs n k h f = 0 ∧ (placeW cols east.length px py && isInB hr 0 (IntKind.i64.wrap (hours - 1))) = true
  · have hC := (chk_iff north cols lofts wrong bx bY sl sh lw lg lh hours dark east svs n k h f).1 hg.1
    obtain ⟨hv, hok⟩ := mkR_ok north cols lofts wrong bx bY sl sh lw lg lh hours dark east svs n k h f ea sa ha fa ec sc hc fc w L hC
    obtain ⟨r, hr'⟩ : ∃ r, r = mkR north cols lofts wrong bx bY sl sh lw lg lh hours dark east svs n k h f ea sa ha fa ec sc hc fc := ⟨_, rfl⟩
    rw [← hr'] at hv hok
    have hN := hok.nums
    have hc10 := hN.cols
    have hh12 := hN.hours
    have he10 := hN.rows
    have e1 : cols = (r.cols : Nat) := by
      have := congrArg (fun a => a[1]?) hv
      simpa [Rl.v, Rl.cells] using this.symm
    have e2 : hours = (r.hours : Nat) := by
      have := congrArg (fun a => a[15]?) hv
      simpa [Rl.v, Rl.cells] using this.symm
    have e3 : east = r.east := by rw [hr']; rfl
    have hb := hg.2
    rw [Bool.and_eq_true] at hb
    obtain ⟨hb1, hb2⟩ := hb
    unfold placeW at hb1
    rw [IntWalk.i64_in _ (by omega)] at hb1 hb2
    unfold isInB at hb1 hb2
    simp only [Bool.and_eq_true, decide_eq_true_eq] at hb1 hb2
    rw [e3] at hb1
    have hkn : (r.S px py hr).getD skAny = known f px py hr k := by
      have := known_SD (hok.hfo) (x := px.toNat) (y := py.toNat) (t := hr.toNat) (cols := r.cols) (el := r.east.length) (by omega) (by omega)
      rw [Int.toNat_of_nonneg (by omega), Int.toNat_of_nonneg (by omega), Int.toNat_of_nonneg (by omega)] at this
      have h2 : known r.f px py hr r.k = known f px py hr k := by rw [hr']; rfl
      rw [h2] at this
      exact this
    refine (Weather_walkI north cols lofts wrong px py hr hours r.err ea sa east.length ec svs.length sc (placeW cols east.length px py) (isInB hr 0 (IntKind.i64.wrap (hours - 1))) _ (fun W F => r.Fc W F ∧ r.Ok W) (known f px py hr k) w isRelV rfl rfl rfl rfl rfl rfl rfl (fun W hW => lPlace_w north cols lofts wrong px py ea east.length ec _ W L.hl) (fun W => lUpTo_any hr _ W) (fun W hW => ?_) (fun W W' F hF hG => ⟨hF.1.keep hG, hF.2.keep hG⟩) (fun W F hW hF => ?_)).mono fun e w' hp => ?_
    · rw [hg.2, ← hv]
      refine (rQuestion_R (hok.keep hW)).mono fun e w' hq => ?_
      obtain ⟨p, e1, hG, hz⟩ := hq
      exact ⟨p, e1, hG, fun hZ => by obtain ⟨F, e2, hf⟩ := hz hZ; exact ⟨F, e2, hf, (hok.keep hW).keep hG⟩⟩
    · have := rSkyAt hF.1 (x := px) (y := py) (t := hr) ⟨by omega, by omega⟩ ⟨by omega, by omega⟩ ⟨by omega, by omega⟩
      rw [hkn] at this
      exact this
    · obtain ⟨rfl, hG⟩ := hp
      refine ⟨?_, hG⟩
      unfold weaZ
      rw [if_pos hg]
      have he : r.err = (mkR north cols lofts wrong bx bY sl sh lw lg lh hours dark east svs n k h f none none none none 0 0 0 0).err := by rw [hr']; rfl
      rw [he]
      by_cases h0 : (mkR north cols lofts wrong bx bY sl sh lw lg lh hours dark east svs n k h f none none none none 0 0 0 0).err = 0
      · rw [if_pos h0, if_pos h0]
      · rw [if_neg h0, if_neg h0]
  · have hb : chkE north cols lofts wrong bx bY sl sh lw lg lh hours dark east svs n k h f ≠ 0 ∨ (placeW cols east.length px py && isInB hr 0 (IntKind.i64.wrap (hours - 1))) = false := by
      by_cases h0 : chkE north cols lofts wrong bx bY sl sh lw lg lh hours dark east svs n k h f = 0
      · right
        cases hx : (placeW cols east.length px py && isInB hr 0 (IntKind.i64.wrap (hours - 1)))
        · rfl
        · exact absurd ⟨h0, hx⟩ hg
      · exact .inl h0
    refine (Weather_walkI north cols lofts wrong px py hr hours (zb (chkE north cols lofts wrong bx bY sl sh lw lg lh hours dark east svs n k h f)) ea sa east.length ec svs.length sc (placeW cols east.length px py) (isInB hr 0 (IntKind.i64.wrap (hours - 1))) _ (fun _ _ => False) sk0 w isRelV rfl rfl rfl rfl rfl rfl rfl (fun W hW => lPlace_w north cols lofts wrong px py ea east.length ec _ W L.hl) (fun W => lUpTo_any hr _ W) (fun W hW => q_bad north cols lofts wrong bx bY sl sh lw lg lh hours dark east svs n k h f ea sa ha fa ec sc hc fc W (L.keep hW) _ hb) (fun _ _ _ h => h.elim) (fun _ _ _ h => h.elim)).mono fun e w' hp => ?_
    obtain ⟨rfl, hG⟩ := hp
    refine ⟨?_, hG⟩
    unfold weaZ
    rw [if_neg hg, if_neg (zb_ne _)]
theorem wea_ref (px py hr : Int) (hk : k ≤ 1000) (L : Laid east svs n k h f ea sa ha fa w) : Calls Tryz.prog 16 #[.agg #[.int .i64 north, .int .i64 cols, .slice ea east.length ec, .int .i64 lofts, .slice sa svs.length sc, .int .i64 wrong, .int .i64 bx, .int .i64 bY, .slice ha n hc, .int .i64 sl, .int .i64 sh, .slice fa k fc, .int .i64 lw, .int .i64 lg, .int .i64 lh, .int .i64 hours, .int .i64 dark], .agg #[.int .i64 px, .int .i64 py], .int .i64 hr] w fun e w' => e = .returned (.tuple #[.agg (weaZ north cols lofts wrong bx bY sl sh lw lg lh hours dark east svs n k h f px py hr).1.v, .int .i64 (weaZ north cols lofts wrong bx bY sl sh lw lg lh hours dark east svs n k h f px py hr).2]) ∧ G w w' := by
  by_cases hg : chkE north cols lofts wrong bx bY sl sh lw lg lh hours dark east svs n k h f = 0 ∧ (placeW cols east.length px py && isInB hr 0 (IntKind.i64.wrap (hours - 1))) = true
  · have hC := (chk_iff north cols lofts wrong bx bY sl sh lw lg lh hours dark east svs n k h f).1 hg.1
    refine (rWeather6_walk north cols lofts wrong px py hr hours (mkR north cols lofts wrong bx bY sl sh lw lg lh hours dark east svs n k h f ea sa ha fa ec sc hc fc).err ea sa east.length ec svs.length sc (placeW cols east.length px py) (isInB hr 0 (IntKind.i64.wrap (hours - 1))) _ (known f px py hr k) w isRelV rfl rfl rfl rfl rfl rfl rfl (fun W hW => rPlace_w north cols lofts wrong px py ea east.length ec _ W L.hl) (fun W => rIn6_any hr 0 _ W) (fun W hW => ?_) (fun _ W hW => rKnown_any _ f px py hr k fc fa W rfl (L.keep hW).hF hk)).mono fun e w' hp => ?_
    · rw [hg.2]
      exact cs_good north cols lofts wrong bx bY sl sh lw lg lh hours dark east svs n k h f ea sa ha fa ec sc hc fc W (L.keep hW) hC
    · obtain ⟨rfl, hG⟩ := hp
      refine ⟨?_, hG⟩
      unfold weaZ
      rw [if_pos hg]
      have he : (mkR north cols lofts wrong bx bY sl sh lw lg lh hours dark east svs n k h f ea sa ha fa ec sc hc fc).err = (mkR north cols lofts wrong bx bY sl sh lw lg lh hours dark east svs n k h f none none none none 0 0 0 0).err := rfl
      rw [he]
      by_cases h0 : (mkR north cols lofts wrong bx bY sl sh lw lg lh hours dark east svs n k h f none none none none 0 0 0 0).err = 0
      · rw [if_pos h0, if_pos h0]
      · rw [if_neg h0, if_neg h0]
  · have hb : chkE north cols lofts wrong bx bY sl sh lw lg lh hours dark east svs n k h f ≠ 0 ∨ (placeW cols east.length px py && isInB hr 0 (IntKind.i64.wrap (hours - 1))) = false := by
      by_cases h0 : chkE north cols lofts wrong bx bY sl sh lw lg lh hours dark east svs n k h f = 0
      · right
        cases hx : (placeW cols east.length px py && isInB hr 0 (IntKind.i64.wrap (hours - 1)))
        · rfl
        · exact absurd ⟨h0, hx⟩ hg
      · exact .inl h0
    refine (rWeather6_walk north cols lofts wrong px py hr hours (zb (chkE north cols lofts wrong bx bY sl sh lw lg lh hours dark east svs n k h f)) ea sa east.length ec svs.length sc (placeW cols east.length px py) (isInB hr 0 (IntKind.i64.wrap (hours - 1))) _ sk0 w isRelV rfl rfl rfl rfl rfl rfl rfl (fun W hW => rPlace_w north cols lofts wrong px py ea east.length ec _ W L.hl) (fun W => rIn6_any hr 0 _ W) (fun W hW => cs_bad north cols lofts wrong bx bY sl sh lw lg lh hours dark east svs n k h f ea sa ha fa ec sc hc fc W (L.keep hW) _ hb) (fun h => absurd h (zb_ne _))).mono fun e w' hp => ?_
    obtain ⟨rfl, hG⟩ := hp
    refine ⟨?_, hG⟩
    unfold weaZ
    rw [if_neg hg, if_neg (zb_ne _)]
theorem way_len (home : Int) (hL : Laid east svs n k h f ea sa ha fa w) : (wayZ north cols lofts wrong bx bY sl sh lw lg lh hours dark east svs n k h f home).1.length ≤ 1000 := by
  unfold wayZ
  split
  · rename_i hg
    have hC := (chk_iff north cols lofts wrong bx bY sl sh lw lg lh hours dark east svs n k h f).1 hg.1
    obtain ⟨m1, m2⟩ := home_lt hg.2
    obtain ⟨hv, hok⟩ := mkR_ok north cols lofts wrong bx bY sl sh lw lg lh hours dark east svs n k h f ea sa ha fa 0 0 0 0 w hL hC
    have := Rl.ns_le hok.nums (i := home.toNat) m2
    have h2 : ((mkR north cols lofts wrong bx bY sl sh lw lg lh hours dark east svs n k h f none none none none 0 0 0 0).P home.toNat).length = (mkR north cols lofts wrong bx bY sl sh lw lg lh hours dark east svs n k h f ea sa ha fa 0 0 0 0).ns home.toNat := rfl
    show ((mkR north cols lofts wrong bx bY sl sh lw lg lh hours dark east svs n k h f none none none none 0 0 0 0).P home.toNat).length ≤ 1000
    omega
  · simp
theorem pas_len (home mi : Int) (hL : Laid east svs n k h f ea sa ha fa w) : pasN north cols lofts wrong bx bY sl sh lw lg lh hours dark east svs n k h f home mi ≤ 1000 := by
  unfold pasN
  split
  · rename_i hg
    have hC := (chk_iff north cols lofts wrong bx bY sl sh lw lg lh hours dark east svs n k h f).1 hg.1
    have hb := hg.2
    rw [Bool.and_eq_true] at hb
    obtain ⟨m1, m2⟩ := home_lt hb.1
    obtain ⟨hv, hok⟩ := mkR_ok north cols lofts wrong bx bY sl sh lw lg lh hours dark east svs n k h f ea sa ha fa 0 0 0 0 w hL hC
    have := Rl.ns_le hok.nums (i := home.toNat) m2
    have h2 : (mkR north cols lofts wrong bx bY sl sh lw lg lh hours dark east svs n k h f none none none none 0 0 0 0).ns home.toNat = (mkR north cols lofts wrong bx bY sl sh lw lg lh hours dark east svs n k h f ea sa ha fa 0 0 0 0).ns home.toNat := rfl
    omega
  · omega
theorem WaysLaw_any (home mi to px py hr : Int) (L : Laid east svs n k h f ea sa ha fa w) (hcaps : (ea = none → ec = 0) ∧ (sa = none → sc = 0) ∧ ((ha = none → hc = 0) ∧ n ≤ hc) ∧ (fa = none → fc = 0) ∧ k ≤ fc) :
    Calls Tryz.prog 3 #[.agg #[.int .i64 north, .int .i64 cols, .slice ea east.length ec, .int .i64 lofts, .slice sa svs.length sc, .int .i64 wrong, .int .i64 bx, .int .i64 bY, .slice ha n hc, .int .i64 sl, .int .i64 sh, .slice fa k fc, .int .i64 lw, .int .i64 lg, .int .i64 lh, .int .i64 hours, .int .i64 dark], .agg #[.int .i64 home, .int .i64 mi, .int .i64 to, .int .i64 px, .int .i64 py, .int .i64 hr]] w fun e w' => e = .returned (.bool true) ∧ G w w' := by
  have hx : ∀ {q}, (n ≤ 20 ∧ k ≤ 30 ∧ east.length ≤ 40 ∧ svs.length ≤ 60) → (n ≤ 1000 → k ≤ 1000 → q) → q := fun a b => b (by omega) (by omega)
  exact WaysLaw_walk #[.int .i64 north, .int .i64 cols, .slice ea east.length ec, .int .i64 lofts, .slice sa svs.length sc, .int .i64 wrong, .int .i64 bx, .int .i64 bY, .slice ha n hc, .int .i64 sl, .int .i64 sh, .slice fa k fc, .int .i64 lw, .int .i64 lg, .int .i64 lh, .int .i64 hours, .int .i64 dark] (CpQ north cols lofts wrong bx bY sl sh lw lg lh hours dark east svs n k h f) n k east.length svs.length (wayZ north cols lofts wrong bx bY sl sh lw lg lh hours dark east svs n k h f home).1.length (pasN north cols lofts wrong bx bY sl sh lw lg lh hours dark east svs n k h f home mi) hc fc home mi to px py hr _ _ _ _ (weaZ north cols lofts wrong bx bY sl sh lw lg lh hours dark east svs n k h f px py hr).1.wl (weaZ north cols lofts wrong bx bY sl sh lw lg lh hours dark east svs n k h f px py hr).1.wh (weaZ north cols lofts wrong bx bY sl sh lw lg lh hours dark east svs n k h f px py hr).1.sl (weaZ north cols lofts wrong bx bY sl sh lw lg lh hours dark east svs n k h f px py hr).1.sh (weaZ north cols lofts wrong bx bY sl sh lw lg lh hours dark east svs n k h f px py hr).1.hl (weaZ north cols lofts wrong bx bY sl sh lw lg lh hours dark east svs n k h f px py hr).1.hh _ _ h f ha fa w isRelV (way_len north cols lofts wrong bx bY sl sh lw lg lh hours dark east svs n k h f ea sa ha fa w home L) (pas_len north cols lofts wrong bx bY sl sh lw lg lh hours dark east svs n k h f ea sa ha fa w home mi L) rfl rfl L.hH L.hF (fun W hW => far_all north cols lofts wrong bx bY sl sh lw lg lh hours dark east svs n k h f ea sa ha fa ec sc hc fc W (L.keep hW)) (fun RO W W' => CpQ_keep north cols lofts wrong bx bY sl sh lw lg lh hours dark east svs n k h f)
    (fun RO W hq => by
      obtain ⟨ea', sa', ha', fa', ec', sc', hc', fc', rfl, L'⟩ := hq
      exact ⟨ha', hc', fa', fc', rfl, L'.hH, rfl, L'.hF⟩)
    (fun hl W hW => copy_r north cols lofts wrong bx bY sl sh lw lg lh hours dark east svs n k h f ea sa ha fa ec sc hc fc W (L.keep hW) hl hcaps)
    (fun _ W RO hW hq => by
      obtain ⟨ea', sa', ha', fa', ec', sc', hc', fc', rfl, L'⟩ := hq
      exact ck_all north cols lofts wrong bx bY sl sh lw lg lh hours dark east svs n k h f ea' sa' ha' fa' ec' sc' hc' fc' W L')
    (fun _ W hW => rck_all north cols lofts wrong bx bY sl sh lw lg lh hours dark east svs n k h f ea sa ha fa ec sc hc fc W (L.keep hW))
    (fun hl W RO hW hq => hx hl fun hn _ => by
      obtain ⟨ea', sa', ha', fa', ec', sc', hc', fc', rfl, L'⟩ := hq
      exact way_prog north cols lofts wrong bx bY sl sh lw lg lh hours dark east svs n k h f ea' sa' ha' fa' ec' sc' hc' fc' W home hn L')
    (fun _ W hW => way_ref north cols lofts wrong bx bY sl sh lw lg lh hours dark east svs n k h f ea sa ha fa ec sc hc fc W home (L.keep hW))
    (fun hl W RO hW hq => hx hl fun hn _ => by
      obtain ⟨ea', sa', ha', fa', ec', sc', hc', fc', rfl, L'⟩ := hq
      exact pas_prog north cols lofts wrong bx bY sl sh lw lg lh hours dark east svs n k h f ea' sa' ha' fa' ec' sc' hc' fc' W home mi hn L')
    (fun _ W hW => pas_ref north cols lofts wrong bx bY sl sh lw lg lh hours dark east svs n k h f ea sa ha fa ec sc hc fc W home mi (L.keep hW))
    (fun _ W RO hW hq => by
      obtain ⟨ea', sa', ha', fa', ec', sc', hc', fc', rfl, L'⟩ := hq
      exact wea_prog north cols lofts wrong bx bY sl sh lw lg lh hours dark east svs n k h f ea' sa' ha' fa' ec' sc' hc' fc' W px py hr L')
    (fun hl W hW => hx hl fun _ hk => wea_ref north cols lofts wrong bx bY sl sh lw lg lh hours dark east svs n k h f ea sa ha fa ec sc hc fc W px py hr hk (L.keep hW))
end
end Go.Proofs.YtcekdljjmfkacaaGreat
