import Derived.Test.YtcekdljjmfkacaaGreatXk
import Derived.Test.YtcekdljjmfkacaaGreatZr1
import Derived.Test.YtcekdljjmfkacaaGreatZm
import Derived.Test.YtcekdljjmfkacaaGreatZr5
import Derived.Test.YtcekdljjmfkacaaGreatZq1
set_option linter.unusedSimpArgs false
set_option linter.unusedVariables false
namespace Go.Proofs.YtcekdljjmfkacaaGreat
open Go.RowKit Go.Shelf
attribute [local go_sem] Oper.semAt_some wide_fn wide_dep wideR_fn wideR_dep
section
variable (north cols lofts wrong bx bY sl sh lw lg lh hours dark : Int) (east : List Int) (svs : List Sv) (n k : Nat) (h f : Nat → Nat → Int) (ea sa ha fa : Option Addr) (ec sc hc fc : Nat) (w : World)
/-- what First answers: the same on both sides -/
def firstZ (mi to : Int) : Int × Int :=
  if chkE north cols lofts wrong bx bY sl sh lw lg lh hours dark east svs n k h f = 0 ∧ (isInB mi 0 9999 && isInB to 0 9999) = true then
    (if (mkR north cols lofts wrong bx bY sl sh lw lg lh hours dark east svs n k h f none none none none 0 0 0 0).err = 0 then (firstR (flyB (mkR north cols lofts wrong bx bY sl sh lw lg lh hours dark east svs n k h f none none none none 0 0 0 0)) mi.toNat (to.toNat + 1 - mi.toNat)).1 else 0, if (mkR north cols lofts wrong bx bY sl sh lw lg lh hours dark east svs n k h f none none none none 0 0 0 0).err = 0 then (firstR (flyB (mkR north cols lofts wrong bx bY sl sh lw lg lh hours dark east svs n k h f none none none none 0 0 0 0)) mi.toNat (to.toNat + 1 - mi.toNat)).2 else (mkR north cols lofts wrong bx bY sl sh lw lg lh hours dark east svs n k h f none none none none 0 0 0 0).err)
  else (0, zb (chkE north cols lofts wrong bx bY sl sh lw lg lh hours dark east svs n k h f))
theorem first_prog (mi to : Int) (L : Laid east svs n k h f ea sa ha fa w) : Calls Tryz.prog 25 #[.agg #[.int .i64 north, .int .i64 cols, .slice ea east.length ec, .int .i64 lofts, .slice sa svs.length sc, .int .i64 wrong, .int .i64 bx, .int .i64 bY, .slice ha n hc, .int .i64 sl, .int .i64 sh, .slice fa k fc, .int .i64 lw, .int .i64 lg, .int .i64 lh, .int .i64 hours, .int .i64 dark], .int .i64 mi, .int .i64 to] w fun e w' => e = .returned (.tuple #[.int .i64 (firstZ north cols lofts wrong bx bY sl sh lw lg lh hours dark east svs n k h f mi to).1, .int .i64 (firstZ north cols lofts wrong bx bY sl sh lw lg lh hours dark east svs n k h f mi to).2]) ∧ G w w' := by
  by_cases hg : chkE north cols lofts wrong bx bY sl sh lw lg lh hours dark east svs n k h f = 0 ∧ (isInB mi 0 9999 && isInB to 0 9999) = true
  · have hC := (chk_iff north cols lofts wrong bx bY sl sh lw lg lh hours dark east svs n k h f).1 hg.1
    have hb := hg.2
    rw [Bool.and_eq_true] at hb
    obtain ⟨m1, m2⟩ := isInB_nat hb.1
    obtain ⟨t1, t2⟩ := isInB_nat hb.2
    obtain ⟨hv, hok⟩ := mkR_ok north cols lofts wrong bx bY sl sh lw lg lh hours dark east svs n k h f ea sa ha fa ec sc hc fc w L hC
    have := rFirst_ok (r := mkR north cols lofts wrong bx bY sl sh lw lg lh hours dark east svs n k h f ea sa ha fa ec sc hc fc) hok (a := mi.toNat) (b := to.toNat) (by omega) (by omega)
    rw [hv, ← m1, ← t1] at this
    refine this.mono fun e w' hp => ?_
    obtain ⟨rfl, hG⟩ := hp
    refine ⟨?_, hG⟩
    unfold firstZ
    rw [if_pos hg]
    rfl
  · have hb : chkE north cols lofts wrong bx bY sl sh lw lg lh hours dark east svs n k h f ≠ 0 ∨ (isInB mi 0 9999 && isInB to 0 9999) = false := by
      by_cases h0 : chkE north cols lofts wrong bx bY sl sh lw lg lh hours dark east svs n k h f = 0
      · right
        cases hx : (isInB mi 0 9999 && isInB to 0 9999)
        · rfl
        · exact absurd ⟨h0, hx⟩ hg
      · exact .inl h0
    refine (First_walkI 0 0 1 mi to (zb (chkE north cols lofts wrong bx bY sl sh lw lg lh hours dark east svs n k h f)) (isInB mi 0 9999) (isInB to 0 9999) _ (fun _ _ => False) (fun _ => true) w isRelV (fun h => absurd h (zb_ne _)) rfl (fun W => lMinute_any mi W) (fun W => lMinute_any to W) (fun W hW => q_bad north cols lofts wrong bx bY sl sh lw lg lh hours dark east svs n k h f ea sa ha fa ec sc hc fc W (L.keep hW) _ hb) (fun _ _ _ h => h.elim) (fun _ _ _ _ h => h.elim)).mono fun e w' hp => ?_
    obtain ⟨rfl, hG⟩ := hp
    refine ⟨?_, hG⟩
    unfold firstZ
    rw [if_neg hg, if_neg (zb_ne _), if_neg (zb_ne _)]
theorem first_ref (mi to : Int) (L : Laid east svs n k h f ea sa ha fa w) : Calls Tryz.prog 26 #[.agg #[.int .i64 north, .int .i64 cols, .slice ea east.length ec, .int .i64 lofts, .slice sa svs.length sc, .int .i64 wrong, .int .i64 bx, .int .i64 bY, .slice ha n hc, .int .i64 sl, .int .i64 sh, .slice fa k fc, .int .i64 lw, .int .i64 lg, .int .i64 lh, .int .i64 hours, .int .i64 dark], .int .i64 mi, .int .i64 to] w fun e w' => e = .returned (.tuple #[.int .i64 (firstZ north cols lofts wrong bx bY sl sh lw lg lh hours dark east svs n k h f mi to).1, .int .i64 (firstZ north cols lofts wrong bx bY sl sh lw lg lh hours dark east svs n k h f mi to).2]) ∧ G w w' := by
  by_cases hg : chkE north cols lofts wrong bx bY sl sh lw lg lh hours dark east svs n k h f = 0 ∧ (isInB mi 0 9999 && isInB to 0 9999) = true
  · have hC := (chk_iff north cols lofts wrong bx bY sl sh lw lg lh hours dark east svs n k h f).1 hg.1
    have hb := hg.2
    rw [Bool.and_eq_true] at hb
    obtain ⟨m1, m2⟩ := isInB_nat hb.1
    obtain ⟨t1, t2⟩ := isInB_nat hb.2
    obtain ⟨hv, hok⟩ := mkR_ok north cols lofts wrong bx bY sl sh lw lg lh hours dark east svs n k h f ea sa ha fa ec sc hc fc w L hC
    obtain ⟨r, hr⟩ : ∃ r, r = mkR north cols lofts wrong bx bY sl sh lw lg lh hours dark east svs n k h f ea sa ha fa ec sc hc fc := ⟨_, rfl⟩
    have hcs := fun (W : World) (hW : G w W) => cs_good north cols lofts wrong bx bY sl sh lw lg lh hours dark east svs n k h f ea sa ha fa ec sc hc fc W (L.keep hW) hC
    rw [← hr] at hv hok hcs
    rw [← hv] at hcs ⊢
    have hfl : (fun m => lightB r m && decide ((bks (r.blk m) r.n).length = 0)) = flyB r := funext fun m => by rw [flyB_eq hok.nums, bks_len0]
    have := rFirst6_walk mi.toNat to.toNat (to.toNat + 1 - mi.toNat) mi to r.err (isInB mi 0 9999) (isInB to 0 9999) r.v (lightB r) (fun m => (bks (r.blk m) r.n).length) w (rIs r) (fun _ => ⟨m1, t1, by omega, by omega⟩) rfl (fun W => rMinute6_any mi W) (fun W => rMinute6_any to W)
      (fun W hW => by rw [hg.2]; exact hcs W hW) (fun _ W m hW hm => Light_any (hok.keep hW) hm)
      (fun _ W m hW hm => (rBlocksR (hok.keep hW) hm).mono fun e w' hp => by
        obtain ⟨v, rfl, ⟨B, _, hown⟩, hG⟩ := hp
        obtain ⟨ra, rc, rfl⟩ := own_slice hown
        exact ⟨⟨ra, rc, rfl⟩, hG⟩)
    rw [hfl] at this
    refine this.mono fun e w' hp => ?_
    obtain ⟨rfl, hG⟩ := hp
    refine ⟨?_, hG⟩
    unfold firstZ
    rw [if_pos hg, hr]
    rfl
  · have hb : chkE north cols lofts wrong bx bY sl sh lw lg lh hours dark east svs n k h f ≠ 0 ∨ (isInB mi 0 9999 && isInB to 0 9999) = false := by
      by_cases h0 : chkE north cols lofts wrong bx bY sl sh lw lg lh hours dark east svs n k h f = 0
      · right
        cases hx : (isInB mi 0 9999 && isInB to 0 9999)
        · rfl
        · exact absurd ⟨h0, hx⟩ hg
      · exact .inl h0
    refine (rFirst6_walk 0 0 1 mi to (zb (chkE north cols lofts wrong bx bY sl sh lw lg lh hours dark east svs n k h f)) (isInB mi 0 9999) (isInB to 0 9999) _ (fun _ => true) (fun _ => 0) w isRelV (fun h => absurd h (zb_ne _)) rfl (fun W => rMinute6_any mi W) (fun W => rMinute6_any to W) (fun W hW => cs_bad north cols lofts wrong bx bY sl sh lw lg lh hours dark east svs n k h f ea sa ha fa ec sc hc fc W (L.keep hW) _ hb) (fun h => absurd h (zb_ne _)) (fun h => absurd h (zb_ne _))).mono fun e w' hp => ?_
    obtain ⟨rfl, hG⟩ := hp
    refine ⟨?_, hG⟩
    unfold firstZ
    rw [if_neg hg, if_neg (zb_ne _), if_neg (zb_ne _)]
theorem FirstLaw_any (home mi to px py hr : Int) (L : Laid east svs n k h f ea sa ha fa w) (hcaps : (ea = none → ec = 0) ∧ (sa = none → sc = 0) ∧ ((ha = none → hc = 0) ∧ n ≤ hc) ∧ (fa = none → fc = 0) ∧ k ≤ fc) :
    Calls Tryz.prog 5 #[.agg #[.int .i64 north, .int .i64 cols, .slice ea east.length ec, .int .i64 lofts, .slice sa svs.length sc, .int .i64 wrong, .int .i64 bx, .int .i64 bY, .slice ha n hc, .int .i64 sl, .int .i64 sh, .slice fa k fc, .int .i64 lw, .int .i64 lg, .int .i64 lh, .int .i64 hours, .int .i64 dark], .agg #[.int .i64 home, .int .i64 mi, .int .i64 to, .int .i64 px, .int .i64 py, .int .i64 hr]] w fun e w' => e = .returned (.bool true) ∧ G w w' :=
  FirstLaw_walk #[.int .i64 north, .int .i64 cols, .slice ea east.length ec, .int .i64 lofts, .slice sa svs.length sc, .int .i64 wrong, .int .i64 bx, .int .i64 bY, .slice ha n hc, .int .i64 sl, .int .i64 sh, .slice fa k fc, .int .i64 lw, .int .i64 lg, .int .i64 lh, .int .i64 hours, .int .i64 dark] (CpQ north cols lofts wrong bx bY sl sh lw lg lh hours dark east svs n k h f) n k east.length svs.length home mi to px py hr _ _ w isRelV (fun W hW => far_all north cols lofts wrong bx bY sl sh lw lg lh hours dark east svs n k h f ea sa ha fa ec sc hc fc W (L.keep hW)) (fun hl W hW => copy_q north cols lofts wrong bx bY sl sh lw lg lh hours dark east svs n k h f ea sa ha fa ec sc hc fc W (L.keep hW) hl hcaps)
    (fun _ W RO hW hq => by
      obtain ⟨ea', sa', ha', fa', ec', sc', hc', fc', rfl, L'⟩ := hq
      exact first_prog north cols lofts wrong bx bY sl sh lw lg lh hours dark east svs n k h f ea' sa' ha' fa' ec' sc' hc' fc' W mi to L')
    (fun _ W hW => first_ref north cols lofts wrong bx bY sl sh lw lg lh hours dark east svs n k h f ea sa ha fa ec sc hc fc W mi to (L.keep hW))
end
end Go.Proofs.YtcekdljjmfkacaaGreat
