import Derived.Test.YtcekdljjmfkacaaGreatXk
import Derived.Test.YtcekdljjmfkacaaGreatZr1
import Derived.Test.YtcekdljjmfkacaaGreatZj
import Derived.Test.YtcekdljjmfkacaaGreatZk
import Derived.Test.YtcekdljjmfkacaaGreatZr4
import Derived.Test.YtcekdljjmfkacaaGreatZq2
set_option linter.unusedSimpArgs false
set_option linter.unusedVariables false
namespace Go.Proofs.YtcekdljjmfkacaaGreat
open Go.RowKit Go.Shelf
attribute [local go_sem] Oper.semAt_some wide_fn wide_dep wideR_fn wideR_dep
/-- a block's numbers -/
def bkC (L : List (Nat × Nat × Nat)) (i r : Nat) : Int := match r with
  | 0 => ((L.getD i (0, 0, 0)).1 : Nat)
  | 1 => ((L.getD i (0, 0, 0)).2.1 : Nat)
  | _ => ((L.getD i (0, 0, 0)).2.2 : Nat)
theorem bksV_get (L : List (Nat × Nat × Nat)) : ∀ i, i < L.length → ∀ r, r < 3 → (bksV L)[i * 3 + r]? = some (.int .i64 (bkC L i r)) := by
  induction L with
  | nil => intro i hi; simp at hi
  | cons p L ih =>
    intro i hi r hr
    have e : bksV (p :: L) = [.int .i64 (p.1 : Nat), .int .i64 (p.2.1 : Nat), .int .i64 (p.2.2 : Nat)] ++ bksV L := by simp [bksV]
    rw [e]
    rcases i with _ | i
    · match r, hr with
      | 0, _ => rfl
      | 1, _ => rfl
      | 2, _ => rfl
    · rw [List.getElem?_append_right (by simp; omega)]
      have := ih i (by simpa using hi) r hr
      rw [show (i + 1) * 3 + r - [Value.int .i64 (p.1 : Nat), .int .i64 (p.2.1 : Nat), .int .i64 (p.2.2 : Nat)].length = i * 3 + r by simp; omega, this]
      match r, hr with
      | 0, _ => simp [bkC]
      | 1, _ => simp [bkC]
      | 2, _ => simp [bkC]
theorem bks_row {W : World} {B : Nat} {v : Value} {L : List (Nat × Nat × Nat)} (h : W.ownsRow B 67 3 v L.length (bksV L)) : ∃ ra rc, v = .slice ra L.length rc ∧ RowAt W ra L.length 3 (bkC L) := by
  by_cases h0 : 0 < L.length
  · obtain ⟨g, cap, cur, rfl, hb, hg, ht⟩ := own_some h h0
    exact ⟨_, _, rfl, .inr ⟨g, 0, rfl, hg, fun i hi r hr => by rw [Nat.zero_add]; exact take_cell hb ht (by omega) (bksV_get L i hi r hr)⟩⟩
  · obtain ⟨ra, rc, rfl⟩ := own_slice h
    exact ⟨_, _, rfl, .inl (by omega)⟩
section
variable (north cols lofts wrong bx bY sl sh lw lg lh hours dark : Int) (east : List Int) (svs : List Sv) (n k : Nat) (h f : Nat → Nat → Int) (ea sa ha fa : Option Addr) (ec sc hc fc : Nat) (w : World)
def safeZ (home mi : Int) : Int × Int :=
  if chkE north cols lofts wrong bx bY sl sh lw lg lh hours dark east svs n k h f = 0 ∧ (isInB home 0 ((n : Int) - 1) && isInB mi 0 9999) = true then (if (mkR north cols lofts wrong bx bY sl sh lw lg lh hours dark east svs n k h f none none none none 0 0 0 0).err = 0 then (mkR north cols lofts wrong bx bY sl sh lw lg lh hours dark east svs n k h f none none none none 0 0 0 0).safe home.toNat mi.toNat else 0, (mkR north cols lofts wrong bx bY sl sh lw lg lh hours dark east svs n k h f none none none none 0 0 0 0).err) else (0, zb (chkE north cols lofts wrong bx bY sl sh lw lg lh hours dark east svs n k h f))
def blkZ (mi : Int) : List (Nat × Nat × Nat) × Int :=
  if chkE north cols lofts wrong bx bY sl sh lw lg lh hours dark east svs n k h f = 0 ∧ isInB mi 0 9999 = true then (if (mkR north cols lofts wrong bx bY sl sh lw lg lh hours dark east svs n k h f none none none none 0 0 0 0).err = 0 then bks ((mkR north cols lofts wrong bx bY sl sh lw lg lh hours dark east svs n k h f none none none none 0 0 0 0).blk mi.toNat) n else [], (mkR north cols lofts wrong bx bY sl sh lw lg lh hours dark east svs n k h f none none none none 0 0 0 0).err) else ([], zb (chkE north cols lofts wrong bx bY sl sh lw lg lh hours dark east svs n k h f))
theorem safe_prog (home mi : Int) (hn : n ≤ 1000) (L : Laid east svs n k h f ea sa ha fa w) : Calls Tryz.prog 20 #[.agg #[.int .i64 north, .int .i64 cols, .slice ea east.length ec, .int .i64 lofts, .slice sa svs.length sc, .int .i64 wrong, .int .i64 bx, .int .i64 bY, .slice ha n hc, .int .i64 sl, .int .i64 sh, .slice fa k fc, .int .i64 lw, .int .i64 lg, .int .i64 lh, .int .i64 hours, .int .i64 dark], .int .i64 home, .int .i64 mi] w fun e w' => e = .returned (.tuple #[.int .i64 (safeZ north cols lofts wrong bx bY sl sh lw lg lh hours dark east svs n k h f home mi).1, .int .i64 (safeZ north cols lofts wrong bx bY sl sh lw lg lh hours dark east svs n k h f home mi).2]) ∧ G w w' := by
  by_cases hg : chkE north cols lofts wrong bx bY sl sh lw lg lh hours dark east svs n k h f = 0 ∧ (isInB home 0 ((n : Int) - 1) && isInB mi 0 9999) = true
  · have hC := (chk_iff north cols lofts wrong bx bY sl sh lw lg lh hours dark east svs n k h f).1 hg.1
    have hb := hg.2
    rw [Bool.and_eq_true] at hb
    obtain ⟨m1, m2⟩ := home_lt hb.1
    obtain ⟨t1, t2⟩ := isInB_nat hb.2
    obtain ⟨hv, hok⟩ := mkR_ok north cols lofts wrong bx bY sl sh lw lg lh hours dark east svs n k h f ea sa ha fa ec sc hc fc w L hC
    have := rSafe_ok (r := mkR north cols lofts wrong bx bY sl sh lw lg lh hours dark east svs n k h f ea sa ha fa ec sc hc fc) hok (hi := home.toNat) (mi := mi.toNat) m2 (by omega)
    rw [hv, ← m1, ← t1] at this
    refine this.mono fun e w' hp => ?_
    obtain ⟨rfl, hG⟩ := hp
    refine ⟨?_, hG⟩
    unfold safeZ
    rw [if_pos hg]
    have he : (mkR north cols lofts wrong bx bY sl sh lw lg lh hours dark east svs n k h f ea sa ha fa ec sc hc fc).err = (mkR north cols lofts wrong bx bY sl sh lw lg lh hours dark east svs n k h f none none none none 0 0 0 0).err := rfl
    have hs : (mkR north cols lofts wrong bx bY sl sh lw lg lh hours dark east svs n k h f ea sa ha fa ec sc hc fc).safe home.toNat mi.toNat = (mkR north cols lofts wrong bx bY sl sh lw lg lh hours dark east svs n k h f none none none none 0 0 0 0).safe home.toNat mi.toNat := rfl
    rw [he, hs]
    by_cases h0 : (mkR north cols lofts wrong bx bY sl sh lw lg lh hours dark east svs n k h f none none none none 0 0 0 0).err = 0
    · rw [if_pos h0, if_pos h0]
    · rw [if_neg h0, if_neg h0]
  · have hb : chkE north cols lofts wrong bx bY sl sh lw lg lh hours dark east svs n k h f ≠ 0 ∨ (isInB home 0 ((n : Int) - 1) && isInB mi 0 9999) = false := by
      by_cases h0 : chkE north cols lofts wrong bx bY sl sh lw lg lh hours dark east svs n k h f = 0
      · right
        cases hx : (isInB home 0 ((n : Int) - 1) && isInB mi 0 9999)
        · rfl
        · exact absurd ⟨h0, hx⟩ hg
      · exact .inl h0
    refine (Safe_walk home mi (zb (chkE north cols lofts wrong bx bY sl sh lw lg lh hours dark east svs n k h f)) 0 (isInB home 0 ((n : Int) - 1)) (isInB mi 0 9999) _ (fun _ _ => False) w isRelV (fun W => isHome_any north cols lofts wrong bx bY sl sh lw lg lh hours dark ea east.length ec _ _ n ha hc home W hn) (fun W => lMinute_any mi W) (fun W hW => q_bad north cols lofts wrong bx bY sl sh lw lg lh hours dark east svs n k h f ea sa ha fa ec sc hc fc W (L.keep hW) _ hb) (fun _ _ _ h => h.elim)).mono fun e w' hp => ?_
    obtain ⟨rfl, hG⟩ := hp
    refine ⟨?_, hG⟩
    unfold safeZ
    rw [if_neg hg, if_neg (zb_ne _)]
theorem safe_ref (home mi : Int) (hn : n ≤ 1000) (L : Laid east svs n k h f ea sa ha fa w) : Calls Tryz.prog 21 #[.agg #[.int .i64 north, .int .i64 cols, .slice ea east.length ec, .int .i64 lofts, .slice sa svs.length sc, .int .i64 wrong, .int .i64 bx, .int .i64 bY, .slice ha n hc, .int .i64 sl, .int .i64 sh, .slice fa k fc, .int .i64 lw, .int .i64 lg, .int .i64 lh, .int .i64 hours, .int .i64 dark], .int .i64 home, .int .i64 mi] w fun e w' => e = .returned (.tuple #[.int .i64 (safeZ north cols lofts wrong bx bY sl sh lw lg lh hours dark east svs n k h f home mi).1, .int .i64 (safeZ north cols lofts wrong bx bY sl sh lw lg lh hours dark east svs n k h f home mi).2]) ∧ G w w' := by
  by_cases hg : chkE north cols lofts wrong bx bY sl sh lw lg lh hours dark east svs n k h f = 0 ∧ (isInB home 0 ((n : Int) - 1) && isInB mi 0 9999) = true
  · have hC := (chk_iff north cols lofts wrong bx bY sl sh lw lg lh hours dark east svs n k h f).1 hg.1
    have hb := hg.2
    rw [Bool.and_eq_true] at hb
    obtain ⟨m1, m2⟩ := home_lt hb.1
    obtain ⟨t1, t2⟩ := isInB_nat hb.2
    obtain ⟨hv, hok⟩ := mkR_ok north cols lofts wrong bx bY sl sh lw lg lh hours dark east svs n k h f ea sa ha fa ec sc hc fc w L hC
    obtain ⟨r, hr⟩ : ∃ r, r = mkR north cols lofts wrong bx bY sl sh lw lg lh hours dark east svs n k h f ea sa ha fa ec sc hc fc := ⟨_, rfl⟩
    have hrn : r.n = n := by rw [hr]; rfl
    have hcs := fun (W : World) (hW : G w W) => cs_good north cols lofts wrong bx bY sl sh lw lg lh hours dark east svs n k h f ea sa ha fa ec sc hc fc W (L.keep hW) hC
    rw [← hr] at hv hok hcs
    refine (rSafe6_walk home mi r.err (r.safe home.toNat mi.toNat) (isInB home 0 ((n : Int) - 1)) (isInB mi 0 9999) _ w isRelV (fun W => rHome6_any north cols lofts wrong bx bY sl sh lw lg lh hours dark home east.length svs.length n k ea sa ha fa ec sc hc fc W L.hn) (fun W => rMinute6_any mi W)
      (fun W hW => by rw [hg.2]; exact hcs W hW) (fun h0 W hW => by
        have := rSafeR (hok.keep hW) (err_good h0) (i := home.toNat) (mi := mi.toNat) (by omega) (by omega)
        rw [hv, ← m1, ← t1] at this
        exact this)).mono fun e w' hp => ?_
    obtain ⟨rfl, hG⟩ := hp
    refine ⟨?_, hG⟩
    unfold safeZ
    rw [if_pos hg, hr]
    have he : (mkR north cols lofts wrong bx bY sl sh lw lg lh hours dark east svs n k h f ea sa ha fa ec sc hc fc).err = (mkR north cols lofts wrong bx bY sl sh lw lg lh hours dark east svs n k h f none none none none 0 0 0 0).err := rfl
    have hs : (mkR north cols lofts wrong bx bY sl sh lw lg lh hours dark east svs n k h f ea sa ha fa ec sc hc fc).safe home.toNat mi.toNat = (mkR north cols lofts wrong bx bY sl sh lw lg lh hours dark east svs n k h f none none none none 0 0 0 0).safe home.toNat mi.toNat := rfl
    rw [he, hs]
    by_cases h0 : (mkR north cols lofts wrong bx bY sl sh lw lg lh hours dark east svs n k h f none none none none 0 0 0 0).err = 0
    · rw [if_pos h0, if_pos h0]
    · rw [if_neg h0, if_neg h0]
  · have hb : chkE north cols lofts wrong bx bY sl sh lw lg lh hours dark east svs n k h f ≠ 0 ∨ (isInB home 0 ((n : Int) - 1) && isInB mi 0 9999) = false := by
      by_cases h0 : chkE north cols lofts wrong bx bY sl sh lw lg lh hours dark east svs n k h f = 0
      · right
        cases hx : (isInB home 0 ((n : Int) - 1) && isInB mi 0 9999)
        · rfl
        · exact absurd ⟨h0, hx⟩ hg
      · exact .inl h0
    refine (rSafe6_walk home mi (zb (chkE north cols lofts wrong bx bY sl sh lw lg lh hours dark east svs n k h f)) 0 (isInB home 0 ((n : Int) - 1)) (isInB mi 0 9999) _ w isRelV (fun W => rHome6_any north cols lofts wrong bx bY sl sh lw lg lh hours dark home east.length svs.length n k ea sa ha fa ec sc hc fc W L.hn) (fun W => rMinute6_any mi W) (fun W hW => cs_bad north cols lofts wrong bx bY sl sh lw lg lh hours dark east svs n k h f ea sa ha fa ec sc hc fc W (L.keep hW) _ hb) (fun h => absurd h (zb_ne _))).mono fun e w' hp => ?_
    obtain ⟨rfl, hG⟩ := hp
    refine ⟨?_, hG⟩
    unfold safeZ
    rw [if_neg hg, if_neg (zb_ne _)]
theorem blocks_prog (mi : Int) (L : Laid east svs n k h f ea sa ha fa w) : Calls Tryz.prog 22 #[.agg #[.int .i64 north, .int .i64 cols, .slice ea east.length ec, .int .i64 lofts, .slice sa svs.length sc, .int .i64 wrong, .int .i64 bx, .int .i64 bY, .slice ha n hc, .int .i64 sl, .int .i64 sh, .slice fa k fc, .int .i64 lw, .int .i64 lg, .int .i64 lh, .int .i64 hours, .int .i64 dark], .int .i64 mi] w fun e w' => ∃ ra rc, e = .returned (.tuple #[.slice ra (blkZ north cols lofts wrong bx bY sl sh lw lg lh hours dark east svs n k h f mi).1.length rc, .int .i64 (blkZ north cols lofts wrong bx bY sl sh lw lg lh hours dark east svs n k h f mi).2]) ∧ RowAt w' ra (blkZ north cols lofts wrong bx bY sl sh lw lg lh hours dark east svs n k h f mi).1.length 3 (bkC (blkZ north cols lofts wrong bx bY sl sh lw lg lh hours dark east svs n k h f mi).1) ∧ G w w' := by
  by_cases hg : chkE north cols lofts wrong bx bY sl sh lw lg lh hours dark east svs n k h f = 0 ∧ isInB mi 0 9999 = true
  · have hC := (chk_iff north cols lofts wrong bx bY sl sh lw lg lh hours dark east svs n k h f).1 hg.1
    obtain ⟨t1, t2⟩ := isInB_nat hg.2
    obtain ⟨hv, hok⟩ := mkR_ok north cols lofts wrong bx bY sl sh lw lg lh hours dark east svs n k h f ea sa ha fa ec sc hc fc w L hC
    have := rBlocks_ok (r := mkR north cols lofts wrong bx bY sl sh lw lg lh hours dark east svs n k h f ea sa ha fa ec sc hc fc) hok (mi := mi.toNat) (by omega)
    rw [hv, ← t1] at this
    refine this.mono fun e w' hp => ?_
    unfold blkZ
    rw [if_pos hg]
    have he : (mkR north cols lofts wrong bx bY sl sh lw lg lh hours dark east svs n k h f ea sa ha fa ec sc hc fc).err = (mkR north cols lofts wrong bx bY sl sh lw lg lh hours dark east svs n k h f none none none none 0 0 0 0).err := rfl
    have hs : bks ((mkR north cols lofts wrong bx bY sl sh lw lg lh hours dark east svs n k h f ea sa ha fa ec sc hc fc).blk mi.toNat) (mkR north cols lofts wrong bx bY sl sh lw lg lh hours dark east svs n k h f ea sa ha fa ec sc hc fc).n = bks ((mkR north cols lofts wrong bx bY sl sh lw lg lh hours dark east svs n k h f none none none none 0 0 0 0).blk mi.toNat) n := rfl
    obtain ⟨hG, ⟨h0, v, B, rfl, _, hown⟩ | ⟨h0, rfl⟩⟩ := hp
    · rw [hs] at hown
      obtain ⟨ra, rc, rfl, hrow⟩ := bks_row hown
      rw [he] at h0
      rw [if_pos h0, h0]
      exact ⟨ra, rc, rfl, hrow, hG⟩
    · rw [he] at h0 ⊢
      rw [if_neg h0]
      exact ⟨none, 0, rfl, .inl rfl, hG⟩
  · have hb : chkE north cols lofts wrong bx bY sl sh lw lg lh hours dark east svs n k h f ≠ 0 ∨ isInB mi 0 9999 = false := by
      by_cases h0 : chkE north cols lofts wrong bx bY sl sh lw lg lh hours dark east svs n k h f = 0
      · right
        cases hx : isInB mi 0 9999
        · rfl
        · exact absurd ⟨h0, hx⟩ hg
      · exact .inl h0
    refine (Blocks_walkI mi (zb (chkE north cols lofts wrong bx bY sl sh lw lg lh hours dark east svs n k h f)) (isInB mi 0 9999) _ (fun _ _ => False) (fun _ => none) none 0 0 w isRelV (fun W => lMinute_any mi W) (fun W hW => q_bad north cols lofts wrong bx bY sl sh lw lg lh hours dark east svs n k h f ea sa ha fa ec sc hc fc W (L.keep hW) _ hb) (fun _ _ _ h => h.elim) (fun _ _ h => h.elim) (by omega) (fun _ _ _ _ h => h.elim)).mono fun e w' hp => ?_
    unfold blkZ
    rw [if_neg hg]
    obtain ⟨hG, ⟨h0, _⟩ | ⟨h0, rfl⟩⟩ := hp
    · exact absurd h0 (zb_ne _)
    · exact ⟨none, 0, rfl, .inl rfl, hG⟩
theorem blocks_ref (mi : Int) (L : Laid east svs n k h f ea sa ha fa w) : Calls Tryz.prog 23 #[.agg #[.int .i64 north, .int .i64 cols, .slice ea east.length ec, .int .i64 lofts, .slice sa svs.length sc, .int .i64 wrong, .int .i64 bx, .int .i64 bY, .slice ha n hc, .int .i64 sl, .int .i64 sh, .slice fa k fc, .int .i64 lw, .int .i64 lg, .int .i64 lh, .int .i64 hours, .int .i64 dark], .int .i64 mi] w fun e w' => ∃ ra rc, e = .returned (.tuple #[.slice ra (blkZ north cols lofts wrong bx bY sl sh lw lg lh hours dark east svs n k h f mi).1.length rc, .int .i64 (blkZ north cols lofts wrong bx bY sl sh lw lg lh hours dark east svs n k h f mi).2]) ∧ RowAt w' ra (blkZ north cols lofts wrong bx bY sl sh lw lg lh hours dark east svs n k h f mi).1.length 3 (bkC (blkZ north cols lofts wrong bx bY sl sh lw lg lh hours dark east svs n k h f mi).1) ∧ G w w' := by
  by_cases hg : chkE north cols lofts wrong bx bY sl sh lw lg lh hours dark east svs n k h f = 0 ∧ isInB mi 0 9999 = true
  · have hC := (chk_iff north cols lofts wrong bx bY sl sh lw lg lh hours dark east svs n k h f).1 hg.1
    obtain ⟨t1, t2⟩ := isInB_nat hg.2
    obtain ⟨hv, hok⟩ := mkR_ok north cols lofts wrong bx bY sl sh lw lg lh hours dark east svs n k h f ea sa ha fa ec sc hc fc w L hC
    obtain ⟨r, hr⟩ : ∃ r, r = mkR north cols lofts wrong bx bY sl sh lw lg lh hours dark east svs n k h f ea sa ha fa ec sc hc fc := ⟨_, rfl⟩
    have hcs := fun (W : World) (hW : G w W) => cs_good north cols lofts wrong bx bY sl sh lw lg lh hours dark east svs n k h f ea sa ha fa ec sc hc fc W (L.keep hW) hC
    rw [← hr] at hv hok hcs
    refine (rBlocks6_walk mi r.err (isInB mi 0 9999) (OwnBk w (bks (r.blk mi.toNat) r.n)) _ w isRelV (fun W => rMinute6_any mi W) (fun W hW => by rw [hg.2]; exact hcs W hW) (fun _ W hW => by
        have := rBlocksR (hok.keep hW) (mi := mi.toNat) (by omega)
        rw [hv, ← t1] at this
        refine this.mono fun e w' hp => ?_
        obtain ⟨v, rfl, ⟨B, hB, hown⟩, hG⟩ := hp
        exact ⟨v, rfl, ⟨B, Nat.le_trans hW.size hB, hown⟩, hG⟩)).mono fun e w' hp => ?_
    unfold blkZ
    rw [if_pos hg]
    have he : r.err = (mkR north cols lofts wrong bx bY sl sh lw lg lh hours dark east svs n k h f none none none none 0 0 0 0).err := by rw [hr]; rfl
    have hs : bks (r.blk mi.toNat) r.n = bks ((mkR north cols lofts wrong bx bY sl sh lw lg lh hours dark east svs n k h f none none none none 0 0 0 0).blk mi.toNat) n := by rw [hr]; rfl
    obtain ⟨hG, ⟨h0, v, rfl, ⟨B, _, hown⟩⟩ | ⟨h0, rfl⟩⟩ := hp
    · rw [hs] at hown
      obtain ⟨ra, rc, rfl, hrow⟩ := bks_row hown
      rw [he] at h0
      rw [if_pos h0, h0]
      exact ⟨ra, rc, rfl, hrow, hG⟩
    · rw [he] at h0 ⊢
      rw [if_neg h0]
      exact ⟨none, 0, rfl, .inl rfl, hG⟩
  · have hb : chkE north cols lofts wrong bx bY sl sh lw lg lh hours dark east svs n k h f ≠ 0 ∨ isInB mi 0 9999 = false := by
      by_cases h0 : chkE north cols lofts wrong bx bY sl sh lw lg lh hours dark east svs n k h f = 0
      · right
        cases hx : isInB mi 0 9999
        · rfl
        · exact absurd ⟨h0, hx⟩ hg
      · exact .inl h0
    refine (rBlocks6_walk mi (zb (chkE north cols lofts wrong bx bY sl sh lw lg lh hours dark east svs n k h f)) (isInB mi 0 9999) (fun _ _ => False) _ w isRelV (fun W => rMinute6_any mi W) (fun W hW => cs_bad north cols lofts wrong bx bY sl sh lw lg lh hours dark east svs n k h f ea sa ha fa ec sc hc fc W (L.keep hW) _ hb) (fun h => absurd h (zb_ne _))).mono fun e w' hp => ?_
    unfold blkZ
    rw [if_neg hg]
    obtain ⟨hG, ⟨h0, _⟩ | ⟨h0, rfl⟩⟩ := hp
    · exact absurd h0 (zb_ne _)
    · exact ⟨none, 0, rfl, .inl rfl, hG⟩
theorem blkZ_len (mi : Int) (hn : n ≤ 1000) : (blkZ north cols lofts wrong bx bY sl sh lw lg lh hours dark east svs n k h f mi).1.length ≤ 1000 := by
  unfold blkZ
  split
  · show (if (mkR north cols lofts wrong bx bY sl sh lw lg lh hours dark east svs n k h f none none none none 0 0 0 0).err = 0 then bks ((mkR north cols lofts wrong bx bY sl sh lw lg lh hours dark east svs n k h f none none none none 0 0 0 0).blk mi.toNat) n else []).length ≤ 1000
    split
    · have := bks_len ((mkR north cols lofts wrong bx bY sl sh lw lg lh hours dark east svs n k h f none none none none 0 0 0 0).blk mi.toNat) n
      omega
    · simp
  · simp
theorem SafeLaw_any (home mi to px py hr : Int) (L : Laid east svs n k h f ea sa ha fa w) (hcaps : (ea = none → ec = 0) ∧ (sa = none → sc = 0) ∧ ((ha = none → hc = 0) ∧ n ≤ hc) ∧ (fa = none → fc = 0) ∧ k ≤ fc) :
    Calls Tryz.prog 4 #[.agg #[.int .i64 north, .int .i64 cols, .slice ea east.length ec, .int .i64 lofts, .slice sa svs.length sc, .int .i64 wrong, .int .i64 bx, .int .i64 bY, .slice ha n hc, .int .i64 sl, .int .i64 sh, .slice fa k fc, .int .i64 lw, .int .i64 lg, .int .i64 lh, .int .i64 hours, .int .i64 dark], .agg #[.int .i64 home, .int .i64 mi, .int .i64 to, .int .i64 px, .int .i64 py, .int .i64 hr]] w fun e w' => e = .returned (.bool true) ∧ G w w' := by
  by_cases hn : n ≤ 20
  · exact SafeLaw_walk #[.int .i64 north, .int .i64 cols, .slice ea east.length ec, .int .i64 lofts, .slice sa svs.length sc, .int .i64 wrong, .int .i64 bx, .int .i64 bY, .slice ha n hc, .int .i64 sl, .int .i64 sh, .slice fa k fc, .int .i64 lw, .int .i64 lg, .int .i64 lh, .int .i64 hours, .int .i64 dark] (CpQ north cols lofts wrong bx bY sl sh lw lg lh hours dark east svs n k h f) n k east.length svs.length (blkZ north cols lofts wrong bx bY sl sh lw lg lh hours dark east svs n k h f mi).1.length home mi to px py hr _ _ _ _ w isRelV (blkZ_len north cols lofts wrong bx bY sl sh lw lg lh hours dark east svs n k h f mi (by omega)) (fun W hW => far_all north cols lofts wrong bx bY sl sh lw lg lh hours dark east svs n k h f ea sa ha fa ec sc hc fc W (L.keep hW)) (fun RO W W' => CpQ_keep north cols lofts wrong bx bY sl sh lw lg lh hours dark east svs n k h f) (fun hl W hW => copy_r north cols lofts wrong bx bY sl sh lw lg lh hours dark east svs n k h f ea sa ha fa ec sc hc fc W (L.keep hW) hl hcaps)
      (fun _ W RO hW hq => by
        obtain ⟨ea', sa', ha', fa', ec', sc', hc', fc', rfl, L'⟩ := hq
        exact safe_prog north cols lofts wrong bx bY sl sh lw lg lh hours dark east svs n k h f ea' sa' ha' fa' ec' sc' hc' fc' W home mi (by omega) L')
      (fun _ W hW => safe_ref north cols lofts wrong bx bY sl sh lw lg lh hours dark east svs n k h f ea sa ha fa ec sc hc fc W home mi (by omega) (L.keep hW))
      (fun _ W RO hW hq => by
        obtain ⟨ea', sa', ha', fa', ec', sc', hc', fc', rfl, L'⟩ := hq
        exact blocks_prog north cols lofts wrong bx bY sl sh lw lg lh hours dark east svs n k h f ea' sa' ha' fa' ec' sc' hc' fc' W mi L')
      (fun _ W hW => blocks_ref north cols lofts wrong bx bY sl sh lw lg lh hours dark east svs n k h f ea sa ha fa ec sc hc fc W mi (L.keep hW))
  · exact SafeLaw_walk #[.int .i64 north, .int .i64 cols, .slice ea east.length ec, .int .i64 lofts, .slice sa svs.length sc, .int .i64 wrong, .int .i64 bx, .int .i64 bY, .slice ha n hc, .int .i64 sl, .int .i64 sh, .slice fa k fc, .int .i64 lw, .int .i64 lg, .int .i64 lh, .int .i64 hours, .int .i64 dark] (CpQ north cols lofts wrong bx bY sl sh lw lg lh hours dark east svs n k h f) n k east.length svs.length 0 home mi to px py hr 0 0 0 (fun _ _ => 0) w isRelV (by omega) (fun W hW => far_all north cols lofts wrong bx bY sl sh lw lg lh hours dark east svs n k h f ea sa ha fa ec sc hc fc W (L.keep hW)) (fun RO W W' => CpQ_keep north cols lofts wrong bx bY sl sh lw lg lh hours dark east svs n k h f) (fun hl => absurd hl.1 hn) (fun hl => absurd hl.1 hn) (fun hl => absurd hl.1 hn) (fun hl => absurd hl.1 hn) (fun hl => absurd hl.1 hn)
end
end Go.Proofs.YtcekdljjmfkacaaGreat
