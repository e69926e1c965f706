import Derived.Test.YtcekdljjmfkacaaGreatXg
import Derived.Test.YtcekdljjmfkacaaGreatZd
import Derived.Test.YtcekdljjmfkacaaGreatXc
set_option linter.unusedSimpArgs false
set_option linter.unusedVariables false
namespace Go.Proofs.YtcekdljjmfkacaaGreat
open Go.RowKit Go.Shelf
attribute [local go_sem] Oper.semAt_some wide_fn wide_dep wideR_fn wideR_dep
/-- what checkSky answers: c is the error of the release, S: no spot's sky contradicts -/
def CsPost (w : World) (c : Int) (ok : Bool) (S : Prop) (e : Ending) (w' : World) : Prop :=
  ∃ z : Int, e = .returned (.int .i64 z) ∧ ((c ≠ 0 ∧ z = c) ∨ (c = 0 ∧ ok = false ∧ z = 1) ∨ (c = 0 ∧ ok = true ∧ ¬ S ∧ z = 3) ∨ (c = 0 ∧ ok = true ∧ S ∧ z = 0)) ∧ G w w'
section
variable (north cols lofts wrong bx bY sl sh lw lg lh hours dark : Int) (east : List Int) (svs : List Sv) (n k : Nat) (h f : Nat → Nat → Int) (ea sa ha fa : Option Addr) (ec sc hc fc : Nat) (w : World)
theorem chk_zero (h0 : chkE north cols lofts wrong bx bY sl sh lw lg lh hours dark east svs n k h f = 0) : (1 ≤ cols ∧ cols ≤ 10) ∧ (1 ≤ hours ∧ hours ≤ 12) ∧ east.length ≤ 10 ∧ k ≤ 12 := by
  unfold chkE at h0
  split at h0
  · cases h0
  · rename_i hr
    split at h0
    · cases h0
    · rename_i hk
      have hr2 : relB north cols lofts wrong bx bY sl sh lw lg lh hours dark east svs n h = true := by
        cases e : relB north cols lofts wrong bx bY sl sh lw lg lh hours dark east svs n h
        · exact absurd e hr
        · rfl
      obtain ⟨a, b, c, _⟩ := rel_facts _ _ _ _ _ _ _ _ _ _ _ _ _ _ _ _ _ hr2
      exact ⟨a, b, c, by have := fun h' => hk (.inl h'); omega⟩
set_option maxRecDepth 100000 in
set_option maxHeartbeats 4000000 in
theorem rCheckSky_any (ok : Bool) (he : IntsAt w ea east) (hs : SvsAt w sa svs) (hl : east.length ≤ 9223372036854775807) (hl2 : svs.length ≤ 9223372036854775807) (hH : RowAt w ha n 2 h) (hn : n ≤ 9223372036854775807) (hF : RowAt w fa k 12 f) :
    Calls Tryz.prog 52 #[.agg #[.int .i64 north, .int .i64 cols, .slice ea east.length ec, .int .i64 lofts, .slice sa svs.length sc, .int .i64 wrong, .int .i64 bx, .int .i64 bY, .slice ha n hc, .int .i64 sl, .int .i64 sh, .slice fa k fc, .int .i64 lw, .int .i64 lg, .int .i64 lh, .int .i64 hours, .int .i64 dark], .bool ok] w (CsPost w (chkE north cols lofts wrong bx bY sl sh lw lg lh hours dark east svs n k h f) ok (SkyTo f k cols.toNat east.length hours.toNat 0 0)) := by
  have HC := Lib.hid (fun (W : World) (hW : G w W) => refCheck_ex north cols lofts wrong bx bY sl sh lw lg lh hours dark east svs n k h f ea sa ha fa ec sc hc fc W (he.below hW) (hs.below hW) hl hl2 (hH.below hW) hn (hF.below hW))
  have HI : Hid (IsRel #[.int .i64 north, .int .i64 cols, .slice ea east.length ec, .int .i64 lofts, .slice sa svs.length sc, .int .i64 wrong, .int .i64 bx, .int .i64 bY, .slice ha n hc, .int .i64 sl, .int .i64 sh, .slice fa k fc, .int .i64 lw, .int .i64 lg, .int .i64 lh, .int .i64 hours, .int .i64 dark]) := ⟨_, _, _, _, _, _, _, _, _, _, _, _, _, _, _, _, _, _, _, _, _, _, _, _, _, rfl⟩
  have HB := Lib.hid (chk_zero north cols lofts wrong bx bY sl sh lw lg lh hours dark east svs n k h f)
  have HEX := Lib.hid (fun z => chk_ex (z := z) north cols lofts wrong bx bY sl sh lw lg lh hours dark east svs n k h f)
  have HCO : Hid (1 ≤ cols → 1 ≤ hours → cols ≤ 10 → hours ≤ 12 → east.length ≤ 10 → k ≤ 12 → ∀ W : World, G w W → Calls Tryz.prog 82 #[.agg #[.int .i64 north, .int .i64 cols, .slice ea east.length ec, .int .i64 lofts, .slice sa svs.length sc, .int .i64 wrong, .int .i64 bx, .int .i64 bY, .slice ha n hc, .int .i64 sl, .int .i64 sh, .slice fa k fc, .int .i64 lw, .int .i64 lg, .int .i64 lh, .int .i64 hours, .int .i64 dark]] W (CdPost W f k cols.toNat east.length hours.toNat)) := fun a b c d e g W hW =>
    rContra_any #[.int .i64 north, .int .i64 cols, .slice ea east.length ec, .int .i64 lofts, .slice sa svs.length sc, .int .i64 wrong, .int .i64 bx, .int .i64 bY, .slice ha n hc, .int .i64 sl, .int .i64 sh, .slice fa k fc, .int .i64 lw, .int .i64 lg, .int .i64 lh, .int .i64 hours, .int .i64 dark] f k cols.toNat east.length hours.toNat fc ec ea fa W HI.out (by rw [Int.toNat_of_nonneg (by omega)]; rfl) rfl rfl (by rw [Int.toNat_of_nonneg (by omega)]; rfl) (hF.below hW) (by omega) (by omega) (by omega) (by omega)
  generalize chkE north cols lofts wrong bx bY sl sh lw lg lh hours dark east svs n k h f = c at *
  have HP : Hid (∀ z w', ((c ≠ 0 ∧ z = c) ∨ (c = 0 ∧ ok = false ∧ z = 1) ∨ (c = 0 ∧ ok = true ∧ ¬ SkyTo f k cols.toNat east.length hours.toNat 0 0 ∧ z = 3) ∨ (c = 0 ∧ ok = true ∧ SkyTo f k cols.toNat east.length hours.toNat 0 0 ∧ z = 0)) → G w w' → CsPost w c ok (SkyTo f k cols.toNat east.length hours.toNat 0 0) (.returned (.int .i64 z)) w') := fun z w' a b => ⟨z, rfl, a, b⟩
  generalize CsPost w c ok (SkyTo f k cols.toNat east.length hours.toNat 0 0) = PP at *
  have g0 : G w (w.alloc (.cells #[.int .i64 north, .int .i64 cols, .slice ea east.length ec, .int .i64 lofts, .slice sa svs.length sc, .int .i64 wrong, .int .i64 bx, .int .i64 bY, .slice ha n hc, .int .i64 sl, .int .i64 sh, .slice fa k fc, .int .i64 lw, .int .i64 lg, .int .i64 lh, .int .i64 hours, .int .i64 dark] 35)) := (G.rf _).a _
  have b0 : Blk (w.alloc (.cells #[.int .i64 north, .int .i64 cols, .slice ea east.length ec, .int .i64 lofts, .slice sa svs.length sc, .int .i64 wrong, .int .i64 bx, .int .i64 bY, .slice ha n hc, .int .i64 sl, .int .i64 sh, .slice fa k fc, .int .i64 lw, .int .i64 lg, .int .i64 lh, .int .i64 hours, .int .i64 dark] 35)) w.heap.size 35 #[.int .i64 north, .int .i64 cols, .slice ea east.length ec, .int .i64 lofts, .slice sa svs.length sc, .int .i64 wrong, .int .i64 bx, .int .i64 bY, .slice ha n hc, .int .i64 sl, .int .i64 sh, .slice fa k fc, .int .i64 lw, .int .i64 lg, .int .i64 lh, .int .i64 hours, .int .i64 dark] := Blk.new _ _ _
  clear he hs hH hF hl hl2 hn
  go_enter Tryz.func52, Tryz.ntmps52
  go_upto_region 1 with fail
  change Code.wp _ _ _ _ (w.alloc (.cells #[.int .i64 north, .int .i64 cols, .slice ea east.length ec, .int .i64 lofts, .slice sa svs.length sc, .int .i64 wrong, .int .i64 bx, .int .i64 bY, .slice ha n hc, .int .i64 sl, .int .i64 sh, .slice fa k fc, .int .i64 lw, .int .i64 lg, .int .i64 lh, .int .i64 hours, .int .i64 dark] 35))
  generalize w.alloc (.cells #[.int .i64 north, .int .i64 cols, .slice ea east.length ec, .int .i64 lofts, .slice sa svs.length sc, .int .i64 wrong, .int .i64 bx, .int .i64 bY, .slice ha n hc, .int .i64 sl, .int .i64 sh, .slice fa k fc, .int .i64 lw, .int .i64 lg, .int .i64 lh, .int .i64 hours, .int .i64 dark] 35) = w1 at *
  refine wp_region_lit ?_
  refine wpList_load35 w.heap.size 2 HI.out rfl rfl rfl b0 ?_
  try simp only [Act.put, List.getElem_toArray, List.getElem_cons_zero, List.getElem_cons_succ, List.setIfInBounds_toArray, List.set_cons_zero, List.set_cons_succ]
  refine wpList_plain rfl fun K hK => ?_
  go_simp
  refine (HC.out w1 g0).mono ?_
  rintro e w2 ⟨z, rfl, hz, g2⟩
  refine hK _ _ ?_
  clear hK
  try simp only [Act.put, List.getElem_toArray, List.getElem_cons_zero, List.getElem_cons_succ, List.setIfInBounds_toArray, List.set_cons_zero, List.set_cons_succ]
  have hzc := HEX.out z hz
  subst hzc
  clear hz HC HEX
  replace g0 := g0.t g2
  replace b0 := b0.keep g2
  clear g2
  by_cases h0 : z = 0
  · subst h0
    obtain ⟨⟨a1, a2⟩, ⟨a3, a4⟩, a5, a6⟩ := HB.out rfl
    have HC2 := Lib.hid (HCO.out a1 a3 a2 a4 a5 a6)
    clear HCO HB a1 a2 a3 a4 a5 a6
    cases ok
    · have HF := Lib.hid (HP.out 1 w2 (.inr (.inl ⟨rfl, rfl, rfl⟩)) g0)
      clear HP
      go_wp2
      exact HF.out
    · go_upto_region 6 with fail
      refine wp_region_lit ?_
      refine wpList_load35 w.heap.size 2 HI.out rfl rfl rfl b0 ?_
      try simp only [Act.put, List.getElem_toArray, List.getElem_cons_zero, List.getElem_cons_succ, List.setIfInBounds_toArray, List.set_cons_zero, List.set_cons_succ]
      refine wpList_plain rfl fun K hK => ?_
      go_simp
      refine (HC2.out w2 g0).mono ?_
      rintro e w3 (⟨rfl, hno, g3⟩ | ⟨rfl, hyes, g3⟩)
      · refine hK _ _ ?_
        clear hK
        try simp only [Act.put, List.getElem_toArray, List.getElem_cons_zero, List.getElem_cons_succ, List.setIfInBounds_toArray, List.set_cons_zero, List.set_cons_succ]
        have HF := Lib.hid (HP.out 3 w3 (.inr (.inr (.inl ⟨rfl, rfl, hno, rfl⟩))) (g0.t g3))
        clear HP
        go_wp2
        exact HF.out
      · refine hK _ _ ?_
        clear hK
        try simp only [Act.put, List.getElem_toArray, List.getElem_cons_zero, List.getElem_cons_succ, List.setIfInBounds_toArray, List.set_cons_zero, List.set_cons_succ]
        have HF := Lib.hid (HP.out 0 w3 (.inr (.inr (.inr ⟨rfl, rfl, hyes, rfl⟩))) (g0.t g3))
        clear HP
        go_wp2
        exact HF.out
  · have HF := Lib.hid (HP.out z w2 (.inl ⟨h0, rfl⟩) g0)
    clear HP
    go_wp2
    exact HF.out
end
end Go.Proofs.YtcekdljjmfkacaaGreat
set_option linter.unusedSimpArgs false
set_option linter.unusedVariables false
namespace Go.Proofs.YtcekdljjmfkacaaGreat
open Go.RowKit Go.Shelf
attribute [local go_sem] Oper.semAt_some wide_fn wide_dep wideR_fn wideR_dep
theorem field30 (a b : Int) (w : World) : (Instr.field 30 (.agg #[.int .i64 a, .int .i64 b]) 1).run Tryz.prog w = .ok (.int .i64 b) w := by
  kernel_rfl
attribute [local go_sem] field30
/-- the convoy may be set free as to a home: its last stop is passed before it is dark, and no step of its way is not surely inside -/
def fly1 (r : Rl) (mi j : Nat) : Bool := decide (mi + r.st j (r.ns j - 1) 3 ≤ r.dark) && !(blkR r.S r.lim (r.st j) mi r.hours (r.ns j)).isSome
def flyB (r : Rl) (mi : Nat) : Bool := !anyU (fun j => !fly1 r mi j) r.n
set_option maxRecDepth 100000 in
set_option maxHeartbeats 8000000 in
theorem mayFly_any {r : Rl} {w : World} {F mi : Nat} (hF : r.Fc w F) (hk : r.Ok w) (hmi : mi ≤ 1000000) :
    Calls Tryz.prog 60 #[.pointer (some ⟨F, 0, none⟩), .int .i64 (mi : Nat)] w fun e w' => e = .returned (.bool (flyB r mi)) ∧ G w w' := by
  have HU := Lib.hid (fun (W : World) (hG : G w W) (j : Nat) (hj : j < r.n) => (hF.keep hG).use hk.nums hj)
  have HB := Lib.hid (fun (W : World) (hG : G w W) (j : Nat) (hj : j < r.n) => Fc_block (hF.keep hG) (hk.keep hG) hj hmi)
  have HSL := Lib.hid (fun (j : Nat) (hj : j < r.n) => hk.st_le hj)
  have HNS := Lib.hid (fun (j : Nat) (hj : j < r.n) => Rl.ns_le hk.nums hj)
  have hn6 := hk.nums.many
  have hdk := hk.nums.dark
  obtain ⟨m, cnt, v, wl, B, h1, h2, h3, h4⟩ := hF
  obtain ⟨ra, rc, rfl⟩ := own_slice h3
  clear h2 h3 h4 hk
  have e17 : w.cell? ⟨F, 17, none⟩ = some (.slice ra r.n rc) := h1.cell 17
  have lF := h1.lt
  obtain ⟨n, hn⟩ : ∃ n, n = r.n := ⟨_, rfl⟩
  rw [← hn] at e17 hn6
  have HN : Hid (n = r.n) := hn
  clear hn h1
  go_enter Tryz.func60, Tryz.ntmps60
  go_wp2
  clear e17 lF
  go_loopw [5, 6, 7, 8, 14] (fun u5 u6 u7 u8 i wr => ∃ k : Nat, k ≤ n ∧ i = .int .i64 k ∧ Hid (∀ j, j < k → fly1 r mi j = true) ∧ G w wr) (fun _ _ _ _ i _ => n - (intOf i).toNat)
  case atStart => exact ⟨0, Nat.zero_le _, rfl, fun j hj => absurd hj (Nat.not_lt_zero _), G.rf _⟩
  case round =>
    obtain ⟨k, hk, rfl, hno, hG⟩ := hrel
    by_cases hlt : k < n
    · have hki : (k : Int) < n := by omega
      have hkr : k < r.n := by rw [← HN.out]; exact hlt
      obtain ⟨m2, cnt2, gw, wc, sa, sc, hb, _, hgw, hway, hst⟩ := HU.out wr hG k hkr
      have hns := HNS.out k hkr
      have hsl := HSL.out k hkr
      obtain ⟨N, hN⟩ : ∃ N, N = r.ns k := ⟨_, rfl⟩
      obtain ⟨M, hM⟩ : ∃ M, M = N - 1 := ⟨_, rfl⟩
      rw [← hN] at hway hst hns
      rcases hst with h | ⟨gs, so, rfl, hgs, hcell⟩
      · omega
      have hs := hsl M
      have q0 := hcell M (by omega) 0 (by omega)
      have q1 := hcell M (by omega) 1 (by omega)
      have q2 := hcell M (by omega) 2 (by omega)
      have q3 := hcell M (by omega) 3 (by omega)
      rw [Nat.add_zero] at q0
      have hff : fly1 r mi k = (decide (mi + r.st k M 3 ≤ r.dark) && !(blkR r.S r.lim (r.st k) mi r.hours (r.ns k)).isSome) := by rw [hM, hN]; rfl
      obtain ⟨px, hpx⟩ : ∃ px, px = r.st k M 0 := ⟨_, rfl⟩
      obtain ⟨py, hpy⟩ : ∃ py, py = r.st k M 1 := ⟨_, rfl⟩
      obtain ⟨lo, hlo⟩ : ∃ lo, lo = r.st k M 2 := ⟨_, rfl⟩
      obtain ⟨hi, hhi⟩ : ∃ hi, hi = r.st k M 3 := ⟨_, rfl⟩
      dsimp only at q0 q1 q2 q3
      rw [← hpx] at q0 hs
      rw [← hpy] at q1 hs
      rw [← hlo] at q2 hs
      rw [← hhi] at q3 hs hff
      obtain ⟨s1, s2, s3, s4⟩ := hs
      obtain ⟨hv, hhv⟩ : ∃ hv, hv = mi + hi := ⟨_, rfl⟩
      rw [← hhv] at hff
      have HPs : Hid (∀ W, Calls Tryz.prog 45 #[.agg #[.int .i64 (px : Nat), .int .i64 (py : Nat), .int .i64 (lo : Nat), .int .i64 (hi : Nat)], .int .i64 (mi : Nat)] W fun e w' => e = .returned (.agg #[.int .i64 ((mi + lo : Nat) : Int), .int .i64 (hv : Nat)]) ∧ G W w') := fun W => (passed_any px py lo hi mi W (by omega) (by omega) (by omega)).mono fun e w' h => by
        rw [hhv]; simpa using h
      have HB2 := Lib.hid (fun (W : World) (hW : G w W) => HB.out W hW k hkr)
      obtain ⟨R, hR⟩ : ∃ R, R = blkR r.S r.lim (r.st k) mi r.hours (r.ns k) := ⟨_, rfl⟩
      rw [← hR] at HB2 hff
      obtain ⟨b0, b1, b2, hbv⟩ : ∃ b0 b1 b2 : Int, blkV k R = #[.int .i64 b0, .int .i64 b1, .int .i64 b2] := by cases R <;> exact ⟨_, _, _, rfl⟩
      rw [hbv] at HB2
      have HFF := Lib.hid hff
      have xN : IntKind.i64.wrap ((N : Int) - 1) = (M : Int) := by rw [IntWalk.i64_in _ (by omega), hM]; omega
      have hMN : (M : Int) < N := by omega
      obtain ⟨FC, hFC⟩ : ∃ FC, FC = (r.cells ++ [Value.slice (some ⟨gw, 0, none⟩) r.n wc, Value.map (some m2)]).toArray := ⟨_, rfl⟩
      have f17 : FC[17]? = some (.slice (some ⟨gw, 0, none⟩) n wc) := by rw [hFC, HN.out]; rfl
      obtain ⟨dk, hdkk⟩ : ∃ dk, dk = r.dark := ⟨_, rfl⟩
      have f16 : FC[16]? = some (.int .i64 (dk : Nat)) := by rw [hFC, hdkk]; rfl
      rw [← hFC] at hb
      rw [← hdkk] at hdk HFF
      clear hFC hdkk hbv hff hhv hpx hpy hlo hhi hM hN hcell hsl HU HB HSL HNS
      have hSk : ∀ W', G wr W' → (Blk W' F 104 FC ∧ W'.cell? ⟨gw, k, none⟩ = some (.slice (some ⟨gs, so, none⟩) N sc) ∧ W'.cell? ⟨gs, so + M * 4, none⟩ = some (.int .i64 (px : Nat)) ∧ W'.cell? ⟨gs, so + M * 4 + 1, none⟩ = some (.int .i64 (py : Nat)) ∧ W'.cell? ⟨gs, so + M * 4 + 2, none⟩ = some (.int .i64 (lo : Nat)) ∧ W'.cell? ⟨gs, so + M * 4 + 3, none⟩ = some (.int .i64 (hi : Nat))) := fun W' h => ⟨hb.keep h, ((bcellB h).1 gw _ hgw).trans hway, ((bcellB h).1 gs _ hgs).trans q0, ((bcellB h).1 gs _ hgs).trans q1, ((bcellB h).1 gs _ hgs).trans q2, ((bcellB h).1 gs _ hgs).trans q3⟩
      clear q0 q1 q2 q3 hway
      go_wp2_with fail
      refine wp_region_Y (S := fun W' => Blk W' F 104 FC ∧ W'.cell? ⟨gw, k, none⟩ = some (.slice (some ⟨gs, so, none⟩) N sc) ∧ W'.cell? ⟨gs, so + M * 4, none⟩ = some (.int .i64 (px : Nat)) ∧ W'.cell? ⟨gs, so + M * 4 + 1, none⟩ = some (.int .i64 (py : Nat)) ∧ W'.cell? ⟨gs, so + M * 4 + 2, none⟩ = some (.int .i64 (lo : Nat)) ∧ W'.cell? ⟨gs, so + M * 4 + 3, none⟩ = some (.int .i64 (hi : Nat))) 19 20 rfl (by kernel_rfl) (hSk _ (G.rf _).d) (fun hS => ?_)
      refine wpAnyY_take (i := 0) (v := ?_) rfl (by kernel_rfl) (by kernel_rfl) (by kernel_rfl) (by kernel_rfl) (fun _ _ _ h => h) (Or.inl ⟨by kernel_rfl, ?_⟩) hS ?_
      rotate_left
      · intro w' hSw; go_simp; with_reducible rfl
      try simp only [Act.put, List.getElem_toArray, List.getElem_cons_zero, List.getElem_cons_succ, List.setIfInBounds_toArray, List.set_cons_zero, List.set_cons_succ]
      refine wpAnyY_take (i := 1) (v := ?_) rfl (by kernel_rfl) (by kernel_rfl) (by kernel_rfl) (by kernel_rfl) (fun _ _ _ h => h) (Or.inl ⟨by kernel_rfl, ?_⟩) hS ?_
      rotate_left
      · intro w' hSw; go_simp; with_reducible rfl
      try simp only [Act.put, List.getElem_toArray, List.getElem_cons_zero, List.getElem_cons_succ, List.setIfInBounds_toArray, List.set_cons_zero, List.set_cons_succ]
      refine wpAnyY_take (i := 2) (v := ?_) rfl (by kernel_rfl) (by kernel_rfl) (by kernel_rfl) (by kernel_rfl) (fun _ _ _ h => h) (Or.inl ⟨by kernel_rfl, ?_⟩) hS ?_
      rotate_left
      · intro w' hSw; go_simp; with_reducible rfl
      try simp only [Act.put, List.getElem_toArray, List.getElem_cons_zero, List.getElem_cons_succ, List.setIfInBounds_toArray, List.set_cons_zero, List.set_cons_succ]
      refine wpAnyY_take (i := 3) (v := ?_) rfl (by kernel_rfl) (by kernel_rfl) (by kernel_rfl) (by kernel_rfl) (fun _ _ _ h => h) (Or.inl ⟨by kernel_rfl, ?_⟩) hS ?_
      rotate_left
      · intro w' hSw; have e17 := (hSw.1.cell 17).trans f17; have lb := hSw.1.lt; go_simp; with_reducible rfl
      try simp only [Act.put, List.getElem_toArray, List.getElem_cons_zero, List.getElem_cons_succ, List.setIfInBounds_toArray, List.set_cons_zero, List.set_cons_succ]
      refine wpAnyY_take (i := 4) (v := ?_) rfl (by kernel_rfl) (by kernel_rfl) (by kernel_rfl) (by kernel_rfl) (fun _ _ _ h => h) (Or.inl ⟨by kernel_rfl, ?_⟩) hS ?_
      rotate_left
      · intro w' hSw; go_simp; with_reducible rfl
      try simp only [Act.put, List.getElem_toArray, List.getElem_cons_zero, List.getElem_cons_succ, List.setIfInBounds_toArray, List.set_cons_zero, List.set_cons_succ]
      refine wpAnyY_take (i := 5) (v := ?_) rfl (by kernel_rfl) (by kernel_rfl) (by kernel_rfl) (by kernel_rfl) (fun _ _ _ h => h) (Or.inl ⟨by kernel_rfl, ?_⟩) hS ?_
      rotate_left
      · intro w' hSw; go_simp; with_reducible rfl
      try simp only [Act.put, List.getElem_toArray, List.getElem_cons_zero, List.getElem_cons_succ, List.setIfInBounds_toArray, List.set_cons_zero, List.set_cons_succ]
      refine wpAnyY_take (i := 6) (v := ?_) rfl (by kernel_rfl) (by kernel_rfl) (by kernel_rfl) (by kernel_rfl) (fun _ _ _ h => h) (Or.inl ⟨by kernel_rfl, ?_⟩) hS ?_
      rotate_left
      · intro w' hSw; have ew := hSw.2.1; go_simp; with_reducible rfl
      try simp only [Act.put, List.getElem_toArray, List.getElem_cons_zero, List.getElem_cons_succ, List.setIfInBounds_toArray, List.set_cons_zero, List.set_cons_succ]
      refine wpAnyY_take (i := 7) (v := ?_) rfl (by kernel_rfl) (by kernel_rfl) (by kernel_rfl) (by kernel_rfl) (fun _ _ _ h => h) (Or.inl ⟨by kernel_rfl, ?_⟩) hS ?_
      rotate_left
      · intro w' hSw; go_simp; with_reducible rfl
      try simp only [Act.put, List.getElem_toArray, List.getElem_cons_zero, List.getElem_cons_succ, List.setIfInBounds_toArray, List.set_cons_zero, List.set_cons_succ]
      refine wpAnyY_take (i := 8) (v := ?_) rfl (by kernel_rfl) (by kernel_rfl) (by kernel_rfl) (by kernel_rfl) (fun _ _ _ h => h) (Or.inl ⟨by kernel_rfl, ?_⟩) hS ?_
      rotate_left
      · intro w' hSw; go_simp; with_reducible rfl
      try simp only [Act.put, List.getElem_toArray, List.getElem_cons_zero, List.getElem_cons_succ, List.setIfInBounds_toArray, List.set_cons_zero, List.set_cons_succ]
      refine wpAnyY_take (i := 9) (v := ?_) rfl (by kernel_rfl) (by kernel_rfl) (by kernel_rfl) (by kernel_rfl) (fun _ _ _ h => h) (Or.inl ⟨by kernel_rfl, ?_⟩) hS ?_
      rotate_left
      · intro w' hSw; go_simp; with_reducible rfl
      try simp only [Act.put, List.getElem_toArray, List.getElem_cons_zero, List.getElem_cons_succ, List.setIfInBounds_toArray, List.set_cons_zero, List.set_cons_succ]
      refine wpAnyY_take (i := 10) (v := ?_) rfl (by kernel_rfl) (by kernel_rfl) (by kernel_rfl) (by kernel_rfl) (fun _ _ _ h => h) (Or.inl ⟨by kernel_rfl, ?_⟩) hS ?_
      rotate_left
      · intro w' hSw; have e17 := (hSw.1.cell 17).trans f17; have lb := hSw.1.lt; go_simp; with_reducible rfl
      try simp only [Act.put, List.getElem_toArray, List.getElem_cons_zero, List.getElem_cons_succ, List.setIfInBounds_toArray, List.set_cons_zero, List.set_cons_succ]
      refine wpAnyY_take (i := 11) (v := ?_) rfl (by kernel_rfl) (by kernel_rfl) (by kernel_rfl) (by kernel_rfl) (fun _ _ _ h => h) (Or.inl ⟨by kernel_rfl, ?_⟩) hS ?_
      rotate_left
      · intro w' hSw; go_simp; with_reducible rfl
      try simp only [Act.put, List.getElem_toArray, List.getElem_cons_zero, List.getElem_cons_succ, List.setIfInBounds_toArray, List.set_cons_zero, List.set_cons_succ]
      refine wpAnyY_take (i := 12) (v := ?_) rfl (by kernel_rfl) (by kernel_rfl) (by kernel_rfl) (by kernel_rfl) (fun _ _ _ h => h) (Or.inl ⟨by kernel_rfl, ?_⟩) hS ?_
      rotate_left
      · intro w' hSw; go_simp; with_reducible rfl
      try simp only [Act.put, List.getElem_toArray, List.getElem_cons_zero, List.getElem_cons_succ, List.setIfInBounds_toArray, List.set_cons_zero, List.set_cons_succ]
      refine wpAnyY_take (i := 13) (v := ?_) rfl (by kernel_rfl) (by kernel_rfl) (by kernel_rfl) (by kernel_rfl) (fun _ _ _ h => h) (Or.inl ⟨by kernel_rfl, ?_⟩) hS ?_
      rotate_left
      · intro w' hSw; have ew := hSw.2.1; go_simp; with_reducible rfl
      try simp only [Act.put, List.getElem_toArray, List.getElem_cons_zero, List.getElem_cons_succ, List.setIfInBounds_toArray, List.set_cons_zero, List.set_cons_succ]
      refine wpAnyY_take (i := 14) (v := ?_) rfl (by kernel_rfl) (by kernel_rfl) (by kernel_rfl) (by kernel_rfl) (fun _ _ _ h => h) (Or.inl ⟨by kernel_rfl, ?_⟩) hS ?_
      rotate_left
      · intro w' hSw; go_simp; with_reducible rfl
      try simp only [Act.put, List.getElem_toArray, List.getElem_cons_zero, List.getElem_cons_succ, List.setIfInBounds_toArray, List.set_cons_zero, List.set_cons_succ]
      refine wpAnyY_take (i := 15) (v := ?_) rfl (by kernel_rfl) (by kernel_rfl) (by kernel_rfl) (by kernel_rfl) (fun _ _ _ h => h) (Or.inl ⟨by kernel_rfl, ?_⟩) hS ?_
      rotate_left
      · intro w' hSw; go_simp; with_reducible rfl
      try simp only [Act.put, List.getElem_toArray, List.getElem_cons_zero, List.getElem_cons_succ, List.setIfInBounds_toArray, List.set_cons_zero, List.set_cons_succ]
      refine wpAnyY_take (i := 16) (v := ?_) rfl (by kernel_rfl) (by kernel_rfl) (by kernel_rfl) (by kernel_rfl) (fun _ _ _ h => h) (Or.inl ⟨by kernel_rfl, ?_⟩) hS ?_
      rotate_left
      · intro w' hSw; go_simp; with_reducible rfl
      try simp only [Act.put, List.getElem_toArray, List.getElem_cons_zero, List.getElem_cons_succ, List.setIfInBounds_toArray, List.set_cons_zero, List.set_cons_succ]
      refine wpAnyY_take (i := 17) (v := ?_) rfl (by kernel_rfl) (by kernel_rfl) (by kernel_rfl) (by kernel_rfl) (fun _ _ _ h => h) (Or.inl ⟨by kernel_rfl, ?_⟩) hS ?_
      rotate_left
      · intro w' hSw; have p0 := hSw.2.2.1; have p1 := hSw.2.2.2.1; have p2 := hSw.2.2.2.2.1; have p3 := hSw.2.2.2.2.2; go_simp; with_reducible rfl
      try simp only [Act.put, List.getElem_toArray, List.getElem_cons_zero, List.getElem_cons_succ, List.setIfInBounds_toArray, List.set_cons_zero, List.set_cons_succ]
      refine wpAnyY_oneSW (i := 18) (by kernel_rfl) rfl (by kernel_rfl) (fun K18 hK18 => ?_)
      go_simp
      refine hK18.out _ _ (hSk _ (((G.rf wr).a _).d)) (fun hS => ?_)
      refine wpAnyY_oneW (i := 19) (by kernel_rfl) rfl (by kernel_rfl) (by kernel_rfl) (fun K19 hK19 => ?_)
      go_simp
      refine hK19.out _ _ ?_
      try simp only [Act.put, List.getElem_toArray, List.getElem_cons_zero, List.getElem_cons_succ, List.setIfInBounds_toArray, List.set_cons_zero, List.set_cons_succ]
      refine wpAnyY_done (by kernel_rfl) ?_ _
      clear hS hSk K18 hK18 K19 hK19
      have g9 : G wr ((wr.alloc (.cells #[.int .i64 (px : Nat), .int .i64 (py : Nat), .int .i64 (lo : Nat), .int .i64 (hi : Nat)] 84)).drew) := ((G.rf wr).a _).d
      have b9 : Blk ((wr.alloc (.cells #[.int .i64 (px : Nat), .int .i64 (py : Nat), .int .i64 (lo : Nat), .int .i64 (hi : Nat)] 84)).drew) wr.heap.size 84 #[.int .i64 (px : Nat), .int .i64 (py : Nat), .int .i64 (lo : Nat), .int .i64 (hi : Nat)] := (Blk.new wr 84 _).keep (G.rf _).d
      have gW := hG.t g9
      have hb9 := hb.keep g9
      clear hb
      generalize (wr.alloc (.cells #[.int .i64 (px : Nat), .int .i64 (py : Nat), .int .i64 (lo : Nat), .int .i64 (hi : Nat)] 84)).drew = w3 at *
      obtain ⟨n10, hn10⟩ : ∃ n10, n10 = wr.heap.size := ⟨_, rfl⟩
      rw [← hn10] at b9 ⊢
      clear hn10 g9 hgs hgw
      have hSk : ∀ W', G w3 W' → (Blk W' n10 84 #[.int .i64 (px : Nat), .int .i64 (py : Nat), .int .i64 (lo : Nat), .int .i64 (hi : Nat)] ∧ Blk W' F 104 FC) := fun W' h => ⟨b9.keep h, hb9.keep h⟩
      go_wp2_with fail
      refine wp_region_Y (S := fun W' => Blk W' n10 84 #[.int .i64 (px : Nat), .int .i64 (py : Nat), .int .i64 (lo : Nat), .int .i64 (hi : Nat)] ∧ Blk W' F 104 FC) 9 10 rfl (by kernel_rfl) (hSk _ (G.rf _).d) (fun hS => ?_)
      have ga := (G.rf w3).d
      refine wpAnyY_take (i := 0) (v := ?_) rfl (by kernel_rfl) (by kernel_rfl) (by kernel_rfl) (by kernel_rfl) (fun _ _ _ h => h) (Or.inl ⟨by kernel_rfl, ?_⟩) hS ?_
      rotate_left
      · intro w' hSw; have e0 := hSw.1.cell 0; have e1 := hSw.1.cell 1; have e2 := hSw.1.cell 2; have e3 := hSw.1.cell 3; have lb := hSw.1.lt; go_simp; with_reducible rfl
      try simp only [Act.put, List.getElem_toArray, List.getElem_cons_zero, List.getElem_cons_succ, List.setIfInBounds_toArray, List.set_cons_zero, List.set_cons_succ]
      refine wpAnyY_take (i := 1) (v := ?_) rfl (by kernel_rfl) (by kernel_rfl) (by kernel_rfl) (by kernel_rfl) (fun _ _ _ h => h) (Or.inl ⟨by kernel_rfl, ?_⟩) hS ?_
      rotate_left
      · intro w' hSw; go_simp; with_reducible rfl
      try simp only [Act.put, List.getElem_toArray, List.getElem_cons_zero, List.getElem_cons_succ, List.setIfInBounds_toArray, List.set_cons_zero, List.set_cons_succ]
      refine wpAnyY_take (i := 4) (v := ?_) rfl (by kernel_rfl) (by kernel_rfl) (by kernel_rfl) (by kernel_rfl) (fun _ _ _ h => h) (Or.inl ⟨by kernel_rfl, ?_⟩) hS ?_
      rotate_left
      · intro w' hSw; go_simp; with_reducible rfl
      try simp only [Act.put, List.getElem_toArray, List.getElem_cons_zero, List.getElem_cons_succ, List.setIfInBounds_toArray, List.set_cons_zero, List.set_cons_succ]
      refine wpAnyY_take (i := 5) (v := ?_) rfl (by kernel_rfl) (by kernel_rfl) (by kernel_rfl) (by kernel_rfl) (fun _ _ _ h => h) (Or.inl ⟨by kernel_rfl, ?_⟩) hS ?_
      rotate_left
      · intro w' hSw; go_simp; with_reducible rfl
      try simp only [Act.put, List.getElem_toArray, List.getElem_cons_zero, List.getElem_cons_succ, List.setIfInBounds_toArray, List.set_cons_zero, List.set_cons_succ]
      refine wpAnyY_take (i := 6) (v := ?_) rfl (by kernel_rfl) (by kernel_rfl) (by kernel_rfl) (by kernel_rfl) (fun _ _ _ h => h) (Or.inl ⟨by kernel_rfl, ?_⟩) hS ?_
      rotate_left
      · intro w' hSw; go_simp; with_reducible rfl
      try simp only [Act.put, List.getElem_toArray, List.getElem_cons_zero, List.getElem_cons_succ, List.setIfInBounds_toArray, List.set_cons_zero, List.set_cons_succ]
      refine wpAnyY_take (i := 7) (v := ?_) rfl (by kernel_rfl) (by kernel_rfl) (by kernel_rfl) (by kernel_rfl) (fun _ _ _ h => h) (Or.inl ⟨by kernel_rfl, ?_⟩) hS ?_
      rotate_left
      · intro w' hSw; go_simp; with_reducible rfl
      try simp only [Act.put, List.getElem_toArray, List.getElem_cons_zero, List.getElem_cons_succ, List.setIfInBounds_toArray, List.set_cons_zero, List.set_cons_succ]
      refine wpAnyY_take (i := 8) (v := ?_) rfl (by kernel_rfl) (by kernel_rfl) (by kernel_rfl) (by kernel_rfl) (fun _ _ _ h => h) (Or.inl ⟨by kernel_rfl, ?_⟩) hS ?_
      rotate_left
      · intro w' hSw; have e16 := (hSw.2.cell 16).trans f16; have lb := hSw.2.lt; go_simp; with_reducible rfl
      try simp only [Act.put, List.getElem_toArray, List.getElem_cons_zero, List.getElem_cons_succ, List.setIfInBounds_toArray, List.set_cons_zero, List.set_cons_succ]
      refine wpAnyY_oneSW (i := 2) (by kernel_rfl) rfl (by kernel_rfl) (fun K2 hK2 => ?_)
      go_simp
      refine (HPs.out _).mono ?_
      rintro e wc ⟨rfl, hG2⟩
      replace ga := ga.t hG2
      refine hK2.out _ _ (hSk _ ga) (fun hS => ?_)
      try simp only [Act.put, List.getElem_toArray, List.getElem_cons_zero, List.getElem_cons_succ, List.setIfInBounds_toArray, List.set_cons_zero, List.set_cons_succ]
      refine wpAnyY_take (i := 3) (v := ?_) rfl (by kernel_rfl) (by kernel_rfl) (by kernel_rfl) (by kernel_rfl) (fun _ _ _ h => h) (Or.inl ⟨by kernel_rfl, ?_⟩) hS ?_
      rotate_left
      · intro w' hSw; go_simp; with_reducible rfl
      try simp only [Act.put, List.getElem_toArray, List.getElem_cons_zero, List.getElem_cons_succ, List.setIfInBounds_toArray, List.set_cons_zero, List.set_cons_succ]
      refine wpAnyY_oneW (i := 9) (by kernel_rfl) rfl (by kernel_rfl) (by kernel_rfl) (fun K9 hK9 => ?_)
      go_simp
      refine hK9.out _ _ ?_
      try simp only [Act.put, List.getElem_toArray, List.getElem_cons_zero, List.getElem_cons_succ, List.setIfInBounds_toArray, List.set_cons_zero, List.set_cons_succ]
      refine wpAnyY_done (by kernel_rfl) ?_ _
      clear hS hSk
      have gz := gW.t ga
      clear ga gW
      by_cases hd : dk < hv
      · have hff : fly1 r mi k = false := by rw [HFF.out, decide_eq_false (by omega)]; rfl
        have HY : Hid (flyB r mi = false) := by unfold flyB; rw [anyU_yes hkr (by rw [hff]; rfl)]; rfl
        have hd' : decide (dk < hv) = true := decide_eq_true hd
        clear hff
        go_wp2_with fail
        go_ret
        exact ⟨by rw [HY.out]; rfl, gz⟩
      · have hd' : decide (dk < hv) = false := decide_eq_false hd
        have hd2 : decide (hv ≤ dk) = true := decide_eq_true (by omega)
        rw [hd2] at HFF
        clear hd2
        cases hsm : R.isSome
        · rw [hsm] at HB2 HFF
          have HOK : Hid (fly1 r mi k = true) := HFF.out
          clear hsm HFF
          go_wp2_with (go_at_call 58; refine (HB2.out _ gz).mono ?_; rintro e w7 ⟨rfl, hG7⟩)
          go_roundw
          case rel => exact ⟨k + 1, by omega, by go_num, fun j hj => by
            rcases Nat.lt_or_ge j k with h | h
            · exact hno.out j h
            · obtain rfl : j = k := by omega
              exact HOK.out, gz.t (hG7.a _)⟩
          case measure => simp [intOf]; omega
        · rw [hsm] at HB2 HFF
          have hff : fly1 r mi k = false := HFF.out
          have HY : Hid (flyB r mi = false) := by unfold flyB; rw [anyU_yes hkr (by rw [hff]; rfl)]; rfl
          clear hsm HFF hff
          go_wp2_with (go_at_call 58; refine (HB2.out _ gz).mono ?_; rintro e w7 ⟨rfl, hG7⟩)
          go_ret
          exact ⟨by rw [HY.out]; rfl, gz.t (hG7.a _)⟩
    · obtain rfl : n = k := by omega
      have HY : Hid (flyB r mi = true) := by unfold flyB; rw [anyU_no fun j hj => by rw [hno.out j (by rw [HN.out]; exact hj)]; rfl]; rfl
      have hjj : ¬ (n : Int) < n := by omega
      clear HU HB HSL HNS
      go_wp2_with fail
      go_ret
      exact ⟨by rw [HY.out]; rfl, hG⟩
end Go.Proofs.YtcekdljjmfkacaaGreat
