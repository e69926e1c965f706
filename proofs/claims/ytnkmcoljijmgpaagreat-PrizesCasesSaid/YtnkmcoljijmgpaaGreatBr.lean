import Derived.Test.YtnkmcoljijmgpaaGreatBo
set_option linter.unusedSimpArgs false
set_option linter.unusedVariables false
namespace Go.Proofs.YtnkmcoljijmgpaaGreat
open Go.RowKit Go.Shelf Go.Maps
attribute [local go_sem] Oper.semAt_some
def addP (x : Pu) (s p : Int) : Pu := ⟨x.owner, x.staked + s, x.paid + p⟩
/-- the purses behind the first k racers -/
def pu0 (l : List Rc) : Nat → List Pu
  | 0 => []
  | k + 1 => putP (pu0 l k) ⟨(l.getD k default).owner, 0, 0⟩
/-- .. behind the first j prizes of a pool -/
def puIn (f : Fu) (acc : List Pu) : Nat → List Pu
  | 0 => acc
  | j + 1 => putP (puIn f acc j) (addP (atP (puIn f acc j) (f.rs.getD j default).owner) f.po.stake (((prizesL f).getD j default).won + ((prizesL f).getD j default).back))
/-- .. behind the first k pools -/
def puTo (r : Ra) : Nat → List Pu
  | 0 => pu0 r.racers r.racers.length
  | k + 1 => puIn (fuOf r k none 0) (puTo r k) (runners r k).length
def pursesL (r : Ra) : List Pu := srtP (puTo r r.pools.length)
/-- bounds -/
structure PB (c : Nat) (ps : List Pu) : Prop where
  uniq : UniqP ps
  own : ∀ p ∈ ps, 0 ≤ p.owner ∧ p.owner ≤ 99
  st : ∀ p ∈ ps, 0 ≤ p.staked ∧ p.staked ≤ 100000 * c
  pd : ∀ p ∈ ps, 0 ≤ p.paid ∧ p.paid ≤ 3000000 * c
theorem putP_len (ps : List Pu) (q : Pu) : (putP ps q).length ≤ ps.length + 1 := by
  unfold putP
  split
  · rw [List.length_map]; omega
  · rw [List.length_append]; simp
theorem PB.put {c c' : Nat} {ps : List Pu} (h : PB c ps) (hc : c ≤ c') {q : Pu} (h1 : 0 ≤ q.owner ∧ q.owner ≤ 99) (h2 : 0 ≤ q.staked ∧ q.staked ≤ 100000 * c') (h3 : 0 ≤ q.paid ∧ q.paid ≤ 3000000 * c') : PB c' (putP ps q) where
  uniq := putP_uniq h.uniq q
  own p hp := by
    rcases putP_mem hp with rfl | ⟨hp, _⟩
    · exact h1
    · exact h.own p hp
  st p hp := by
    rcases putP_mem hp with rfl | ⟨hp, _⟩
    · exact h2
    · have := h.st p hp; omega
  pd p hp := by
    rcases putP_mem hp with rfl | ⟨hp, _⟩
    · exact h3
    · have := h.pd p hp; omega
theorem PB.at {c : Nat} {ps : List Pu} (h : PB c ps) (x : Int) : (0 ≤ (atP ps x).owner ∧ (atP ps x).owner ≤ 99) ∧ (0 ≤ (atP ps x).staked ∧ (atP ps x).staked ≤ 100000 * c) ∧ (0 ≤ (atP ps x).paid ∧ (atP ps x).paid ≤ 3000000 * c) := by
  unfold atP
  cases hf : ps.find? fun p => p.owner == x with
  | none => simp; omega
  | some q =>
    have hm := List.mem_of_find?_eq_some hf
    exact ⟨h.own q hm, h.st q hm, h.pd q hm⟩
theorem pu0_pb {l : List Rc} (h : ∀ x ∈ l, 0 ≤ x.owner ∧ x.owner ≤ 99) : ∀ k, k ≤ l.length → PB 0 (pu0 l k) ∧ (pu0 l k).length ≤ k
  | 0, _ => ⟨⟨List.Pairwise.nil, fun p hp => by simp [pu0] at hp, fun p hp => by simp [pu0] at hp, fun p hp => by simp [pu0] at hp⟩, Nat.le_refl _⟩
  | k + 1, hk => by
    obtain ⟨ih, il⟩ := pu0_pb h k (by omega)
    refine ⟨ih.put (Nat.le_refl _) (h _ ?_) ⟨Int.le_refl _, by show (0 : Int) ≤ _; omega⟩ ⟨Int.le_refl _, by show (0 : Int) ≤ _; omega⟩, Nat.le_trans (putP_len _ _) (by omega)⟩
    rw [List.getD_eq_getElem?_getD, List.getElem?_eq_getElem (by omega)]
    exact List.getElem_mem _
theorem share_bd (A : Int) (n i : Nat) (hA : 0 ≤ A) (hn : 1 ≤ n) : shareI A n i ≤ A + 1 := by
  unfold shareI
  have : A / (n : Int) ≤ A := Int.ediv_le_self _ hA
  split <;> omega
theorem prizesL_bd {f : Fu} (h : WonFacts f []) (j : Nat) (hj : j < f.rs.length) : (0 ≤ ((prizesL f).getD j default).won ∧ ((prizesL f).getD j default).won ≤ 1200000) ∧ (0 ≤ ((prizesL f).getD j default).back ∧ ((prizesL f).getD j default).back ≤ 1200001) := by
  have e : (prizesL f).getD j default = ⟨(f.rs.getD j default).bird, wonAt (wonL f []) (f.rs.getD j default).bird, shareI (resI f []) f.rs.length j⟩ := by
    have hl : j < (prizesL f).length := by rw [prizesL_len]; exact hj
    rw [List.getD_eq_getElem?_getD, List.getElem?_eq_getElem hl]
    simp [prizesL]
  rw [e]
  have h1 := wonAt_nonneg h.nonneg (f.rs.getD j default).bird
  have h2 := wonAt_le h.nonneg (f.rs.getD j default).bird
  have h3 := h.le
  have h4 := h.bound
  have h5 := h.pos
  have hr : 0 ≤ resI f [] ∧ resI f [] ≤ 1200000 := by unfold resI; omega
  have h6 := share_nonneg (resI f []) f.rs.length j hr.1
  have h7 := share_bd (resI f []) f.rs.length j hr.1 (by omega)
  dsimp only
  omega
theorem puIn_pb {f : Fu} {c : Nat} {acc : List Pu} (h : PB c acc) (hw : WonFacts f []) (hF : FuB f) : ∀ j, j ≤ f.rs.length → PB (c + j) (puIn f acc j) ∧ (puIn f acc j).length ≤ acc.length + j
  | 0, _ => ⟨h, Nat.le_refl _⟩
  | j + 1, hj => by
    obtain ⟨ih, il⟩ := puIn_pb h hw hF j (by omega)
    obtain ⟨a1, a2, a3⟩ := ih.at (f.rs.getD j default).owner
    obtain ⟨b1, b2⟩ := prizesL_bd hw j (by omega)
    have hs := hF.stake
    refine ⟨ih.put (by omega) a1 ?_ ?_, Nat.le_trans (putP_len _ _) (by omega)⟩
    · show 0 ≤ (atP _ _).staked + f.po.stake ∧ (atP _ _).staked + f.po.stake ≤ _
      omega
    · show 0 ≤ (atP _ _).paid + (_ + _) ∧ (atP _ _).paid + (_ + _) ≤ _
      omega
theorem inB_pool {r : Ra} {k : Nat} (h : k < r.pools.length) : isInB (k : Int) 0 ((r.pools.length : Int) - 1) = true := by
  unfold isInB
  simp only [Bool.and_eq_true, decide_eq_true_eq]
  omega
theorem fu_facts {r : Ra} (hr : raceB r = true) {k : Nat} (hk : k < r.pools.length) (fa : Option Addr) (fc : Nat) (st : List Int) : WonFacts (fuOf r k fa fc) st :=
  wonFacts_any (fu_bounds hr (inB_pool hk) fa fc) (pool_of hr (inB_pool hk)).2 (runners_uniq hr k) (fun x hx => racers_bd hr x (runners_sub hx).1) st
theorem racers_own {r : Ra} (h : raceB r = true) : ∀ x ∈ r.racers, 0 ≤ x.owner ∧ x.owner ≤ 99 := by
  have h1 := race_parts h
  unfold racersB at h1
  simp only [Bool.and_eq_true] at h1
  intro x hx
  obtain ⟨i, hi, rfl⟩ := List.mem_iff_getElem.1 hx
  have h2 := allU_iff.1 h1.2 i hi
  rw [List.getD_eq_getElem?_getD, List.getElem?_eq_getElem hi] at h2
  simp only [Bool.and_eq_true] at h2
  have h3 := h2.2
  unfold racerB at h3
  simp only [Bool.and_eq_true] at h3
  have h4 := h3.2.1
  unfold isInB at h4
  simpa using h4
theorem puTo_pb {r : Ra} (hr : raceB r = true) : ∀ k, k ≤ r.pools.length → PB (12 * k) (puTo r k) ∧ (puTo r k).length ≤ 12 + 12 * k
  | 0, _ => by
    obtain ⟨a, b⟩ := pu0_pb (racers_own hr) r.racers.length (Nat.le_refl _)
    exact ⟨a, Nat.le_trans b (uniq_of (race_parts hr)).1⟩
  | k + 1, hk => by
    obtain ⟨ih, il⟩ := puTo_pb hr k (by omega)
    obtain ⟨a, b⟩ := puIn_pb ih (fu_facts hr (show k < r.pools.length by omega) none 0 []) (fu_bounds hr (inB_pool (by omega)) none 0) (runners r k).length (Nat.le_refl _)
    have hl := runners_le hr (k : Int)
    refine ⟨⟨a.uniq, a.own, fun p hp => ?_, fun p hp => ?_⟩, Nat.le_trans b (by omega)⟩
    · have := a.st p hp; omega
    · have := a.pd p hp; omega
theorem race_pools {r : Ra} (h : raceB r = true) : r.pools.length ≤ 6 := by
  unfold raceB at h
  simp only [Bool.and_eq_true, decide_eq_true_eq] at h
  exact h.1
end Go.Proofs.YtnkmcoljijmgpaaGreat
set_option linter.unusedSimpArgs false
set_option linter.unusedVariables false
namespace Go.Proofs.YtnkmcoljijmgpaaGreat
open Go.RowKit Go.Shelf Go.Sort Go.Maps
attribute [local go_sem] Oper.semAt_some
def PuPost (r : Ra) (w : World) (e : Ending) (w' : World) : Prop := G w w' ∧ ((raceB r = false ∧ e = .returned (.tuple #[.slice none 0 0, .int .i64 80])) ∨ (raceB r = true ∧ ∃ v, e = .returned (.tuple #[v, .int .i64 0]) ∧ w'.ownsRow w.heap.size 47 3 v (pursesL r).length (puV (pursesL r))))
theorem PuM.ne_cell {W : World} {m N : Nat} {ps : List Pu} (h : PuM W m N ps) {g o : Nat} {v : Value} (hb : W.cell? ⟨g, o, none⟩ = some v) : g ≠ m := fun e => by
  subst e
  obtain ⟨D, h1, _⟩ := h
  obtain ⟨es, clock, hm, _⟩ := h1
  simp [World.cell?, hm] at hb
theorem fr_cell {A B : World} {m : Nat} (hf : Fr (fun i => i = m) A B) {g o : Nat} {v : Value} (hg : g < A.heap.size) (hne : g ≠ m) (h : A.cell? ⟨g, o, none⟩ = some v) : B.cell? ⟨g, o, none⟩ = some v := by
  have e := hf.block g hg hne
  simp only [World.cell?] at h ⊢
  rw [e]
  exact h
set_option maxRecDepth 100000 in
set_option maxHeartbeats 8000000 in
theorem Purses_any (r : Ra) (w : World) (h : r.At w) : Calls Tryz.prog 19 #[.agg r.v] w (PuPost r w) := by
  have HCK := Lib.hid (fun (W : World) (hW : G w W) => Check_any r W (h.keep hW))
  have hrow := h.rs.row
  have hnr := h.nr
  have HE : Hid (raceB r = false → ∀ W', G w W' → PuPost r w (.returned (.tuple #[.slice none 0 0, .int .i64 80])) W') := fun a W' b => ⟨b, .inl ⟨a, rfl⟩⟩
  have HS : Hid (raceB r = true → ∀ W' v, G w W' → W'.ownsRow w.heap.size 47 3 v (pursesL r).length (puV (pursesL r)) → PuPost r w (.returned (.tuple #[v, .int .i64 0])) W') := fun a W' v b c => ⟨b, .inr ⟨a, v, rfl, c⟩⟩
  generalize PuPost r w = PP at *
  obtain ⟨W1, hW1⟩ : ∃ W1, W1 = w.alloc (.cells #[.slice r.ra r.racers.length r.rc, .slice r.pa r.pools.length r.pc, .slice r.ta r.protests.length r.tc] 26) := ⟨_, rfl⟩
  have g0 : G w W1 := by rw [hW1]; exact (G.rf _).a _
  have b0 : Blk W1 w.heap.size 26 #[.slice r.ra r.racers.length r.rc, .slice r.pa r.pools.length r.pc, .slice r.ta r.protests.length r.tc] := by rw [hW1]; exact Blk.new _ _ _
  have hrv : r.v = #[.slice r.ra r.racers.length r.rc, .slice r.pa r.pools.length r.pc, .slice r.ta r.protests.length r.tc] := rfl
  rw [hrv] at HCK ⊢
  unfold chk8 at HCK
  go_enter Tryz.func19, Tryz.ntmps19
  go_upto_region 1 with fail
  change Code.wp _ _ _ _ (w.alloc (.cells #[.slice r.ra r.racers.length r.rc, .slice r.pa r.pools.length r.pc, .slice r.ta r.protests.length r.tc] 26))
  rw [← hW1]
  have hs1 : W1.heap.size = w.heap.size + 1 := by rw [hW1]; exact Array.size_push ..
  clear hW1 hrv
  have m0 := b0.cell 0
  have m1 := b0.cell 1
  have m2 := b0.cell 2
  have l0 := b0.lt
  cases hB : raceB r
  · have HC2 := Lib.hid (HCK.out W1 g0)
    rw [hB] at HC2
    simp only [Bool.false_eq_true, if_false] at HC2
    clear HCK h HS hrow
    go_wp2_with (go_at_call 34; refine (HC2.out).mono ?_; rintro e w2 ⟨rfl, hG2⟩)
    have HF := Lib.hid (HE.out hB _ (g0.t hG2))
    first | exact HF.out | (go_ret; exact HF.out)
  · have HC2 := Lib.hid (HCK.out W1 g0)
    rw [hB] at HC2
    simp only [if_true] at HC2
    have HSS := Lib.hid (HS.out hB)
    clear HCK HE HS
    have HR := Lib.hid hB
    have h12 := (uniq_of (race_parts hB)).1
    have hp6 := race_pools hB
    have HAT := Lib.hid h
    have HTB := Lib.hid (fun (k : Nat) (hk : k ≤ r.pools.length) => puTo_pb hB k hk)
    have H0B := Lib.hid (fun (k : Nat) (hk : k ≤ r.racers.length) => pu0_pb (racers_own hB) k hk)
    clear h hB
    go_upto_region 4 with (go_at_call 34; refine (HC2.out).mono ?_; rintro e w2 ⟨rfl, hG2⟩)
    clear m0 m1 m2 l0 HC2
    have g2 := g0.t hG2
    have b2 := b0.keep hG2
    have hs2 : w.heap.size < w2.heap.size := b2.lt
    clear b0 g0 hG2 hs1
    have hmm := @run_makeMap Tryz.prog
    go_upto_region 5 with fail
    clear hmm
    have hpm := PuM.made w2
    have b3 := b2.alloc (.map #[] 0)
    have g3 := g2.a (.map #[] 0)
    obtain ⟨m, hm⟩ : ∃ m, m = w2.heap.size := ⟨_, rfl⟩
    have hmw : w.heap.size < m := by omega
    change Code.wp _ _ _ _ (w2.alloc (.map #[] 0))
    rw [← hm] at hpm ⊢
    clear hm hs2
    generalize w2.alloc (.map #[] 0) = W3 at *
    clear b2 g2
    have m0 := b3.cell 0
    have l0 := b3.lt
    go_wp2_with fail
    clear m0 l0
    have HROW := Lib.hid hrow
    clear hrow
    go_loopw [22] (fun i wr => ∃ k : Nat, k ≤ r.racers.length ∧ i = .int .i64 k ∧ Hid (PuM wr m k (pu0 r.racers k)) ∧ Hid (Fr (fun i => i = m) W3 wr)) (fun i _ => r.racers.length - (intOf i).toNat)
    case atStart => exact ⟨0, Nat.zero_le _, rfl, hpm, Fr.rf _ _⟩
    case round =>
      clear hpm
      obtain ⟨k, hk, rfl, HM, HFR⟩ := hrel
      obtain ⟨wo, rfl⟩ : ∃ wo, wo = wr := ⟨_, rfl⟩
      have gwo : G w wo := ((G.fr (R := fun _ => False) g3).t2 HFR.out (fun i hi e => by omega)).toG (fun _ _ h => h)
      by_cases hlt : k < r.racers.length
      · have hki : (k : Int) < r.racers.length := by omega
        have hrow2 := HROW.out.below gwo
        have hob : 0 ≤ (r.racers.getD k default).owner ∧ (r.racers.getD k default).owner ≤ 99 := racers_own HR.out _ (by rw [List.getD_eq_getElem?_getD, List.getElem?_eq_getElem hlt]; exact List.getElem_mem _)
        have HPS : Hid (pu0 r.racers (k + 1) = putP (pu0 r.racers k) ⟨(r.racers.getD k default).owner, 0, 0⟩) := rfl
        obtain ⟨ra, rc, racers, pa, pc, pools, ta, tc, protests⟩ := r
        dsimp only at *
        rcases hrow2 with h | ⟨gr, ofr, rfl, hgr, hcell⟩
        · omega
        have hcl := hcell k hlt
        obtain ⟨y, hy⟩ : ∃ y, y = racers.getD k default := ⟨_, rfl⟩
        rw [← hy] at hcl hob HPS
        clear hy hcell
        obtain ⟨zbird, zowner, zrank, zday, zpa, zpc, zpools⟩ := y
        unfold Rc.v at hcl
        dsimp only at hob HPS
        have q0 : wo.cell? ⟨gr, ofr + k * 5, none⟩ = some (.int .i64 zbird) := hcl 0 (by omega)
        have q1 : wo.cell? ⟨gr, ofr + k * 5 + 1, none⟩ = some (.int .i64 zowner) := hcl 1 (by omega)
        have q2 : wo.cell? ⟨gr, ofr + k * 5 + 2, none⟩ = some (.int .i64 zrank) := hcl 2 (by omega)
        have q3 : wo.cell? ⟨gr, ofr + k * 5 + 3, none⟩ = some (.int .i64 zday) := hcl 3 (by omega)
        have q4 : wo.cell? ⟨gr, ofr + k * 5 + 4, none⟩ = some (.slice zpa zpools.length zpc) := hcl 4 (by omega)
        clear hcl
        obtain ⟨W8, hrun, hpm8, hg8⟩ := (HM.out.keep ((G.rf wo).a (.cells #[.int .i64 zbird, .int .i64 zowner, .int .i64 zrank, .int .i64 zday, .slice zpa zpools.length zpc] 60))).store ⟨zowner, 0, 0⟩ (by show -1000000000000 ≤ zowner ∧ zowner ≤ 1000000000000; omega) (by unfold maxLen; omega)
        unfold Pu.v at hrun
        dsimp only at hrun
        go_wp2_with fail
        go_roundw
        case rel => exact ⟨k + 1, by omega, by go_num, by rw [HPS.out]; exact hpm8, ((HFR.out.a _).grown hg8 (fun g e => .inl (by cases e; rfl)))⟩
        case measure => simp [intOf] <;> omega
      · obtain rfl : k = r.racers.length := by omega
        have hki : ¬ ((r.racers.length : Nat) : Int) < r.racers.length := by omega
        have bo := HFR.out.blk b3 (by omega)
        have m1 := bo.cell 1
        have l0 := bo.lt
        go_wp2_with fail
        clear m1 l0
        have HNR : Hid (r.racers.length ≤ 12) := h12
        obtain ⟨ht0, hN0⟩ : ∃ x, x = Lib.hid (show PuM wo m r.racers.length (puTo r 0) from HM.out) := ⟨_, rfl⟩
        clear hN0
        go_loopw [36] (fun i wr => ∃ k N : Nat, k ≤ r.pools.length ∧ i = .int .i64 k ∧ Hid (PuM wr m N (puTo r k)) ∧ Hid (N ≤ 12 + 12 * k) ∧ Hid (Fr (fun i => i = m) W3 wr)) (fun i _ => r.pools.length - (intOf i).toNat)
        case atStart => exact ⟨0, r.racers.length, Nat.zero_le _, rfl, ht0.out, HNR.out, HFR.out⟩
        case round =>
          clear bo HM HFR ht0 gwo
          obtain ⟨k, N, hk, rfl, HM, HN, HFR⟩ := hrel
          obtain ⟨wo, rfl⟩ : ∃ wo, wo = wr := ⟨_, rfl⟩
          have gwo : G w wo := ((G.fr (R := fun _ => False) g3).t2 HFR.out (fun i hi e => by omega)).toG (fun _ _ h => h)
          by_cases hlk : k < r.pools.length
          · have hkp : (k : Int) < r.pools.length := by omega
            have bo := HFR.out.blk b3 (by omega)
            have HOP : Hid (∀ W, G w W → Calls Tryz.prog 53 #[.agg #[.slice r.ra r.racers.length r.rc, .slice r.pa r.pools.length r.pc, .slice r.ta r.protests.length r.tc], .int .i64 (k : Nat)] W fun e w' => ∃ fa fc, e = .returned (.agg #[.int .i64 (poolAt r k).stake, .int .i64 (poolAt r k).cut, .int .i64 (poolAt r k).kind, .slice (poolAt r k).ta (poolAt r k).table.length (poolAt r k).tc, .int .i64 (poolAt r k).quota, .bool (poolAt r k).first, .slice fa (runners r k).length fc, .slice r.ta r.protests.length r.tc]) ∧ w'.ownsRow W.heap.size 60 5 (.slice fa (runners r k).length fc) (runners r k).length (rcV (runners r k)) ∧ G W w') := fun W hW => open_any r k W (HAT.out.keep hW) hlk (uniq_of (race_parts HR.out)).2 h12
            have m0 := bo.cell 0
            have m1 := bo.cell 1
            have m2 := bo.cell 2
            have l0 := bo.lt
            go_upto_region 14 with (go_at_call 53; refine (HOP.out _ gwo).mono ?_; rintro e w5 ⟨fa, fc, rfl, ho5, hG5⟩)
            clear m0 m1 m2 l0 HOP
            have ga := (G.rf w5).a (.cells #[.int .i64 (poolAt r k).stake, .int .i64 (poolAt r k).cut, .int .i64 (poolAt r k).kind, .slice (poolAt r k).ta (poolAt r k).table.length (poolAt r k).tc, .int .i64 (poolAt r k).quota, .bool (poolAt r k).first, .slice fa (runners r k).length fc, .slice r.ta r.protests.length r.tc] 85)
            have bK : Blk (w5.alloc (.cells #[.int .i64 (poolAt r k).stake, .int .i64 (poolAt r k).cut, .int .i64 (poolAt r k).kind, .slice (poolAt r k).ta (poolAt r k).table.length (poolAt r k).tc, .int .i64 (poolAt r k).quota, .bool (poolAt r k).first, .slice fa (runners r k).length fc, .slice r.ta r.protests.length r.tc] 85)) w5.heap.size 85 #[.int .i64 (poolAt r k).stake, .int .i64 (poolAt r k).cut, .int .i64 (poolAt r k).kind, .slice (poolAt r k).ta (poolAt r k).table.length (poolAt r k).tc, .int .i64 (poolAt r k).quota, .bool (poolAt r k).first, .slice fa (runners r k).length fc, .slice r.ta r.protests.length r.tc] := Blk.new _ _ _
            have g56 := hG5.t ga
            have gw6 := gwo.t g56
            have hgf : GF (fuOf r k fa fc) (w5.alloc (.cells #[.int .i64 (poolAt r k).stake, .int .i64 (poolAt r k).cut, .int .i64 (poolAt r k).kind, .slice (poolAt r k).ta (poolAt r k).table.length (poolAt r k).tc, .int .i64 (poolAt r k).quota, .bool (poolAt r k).first, .slice fa (runners r k).length fc, .slice r.ta r.protests.length r.tc] 85)) := gf_of HR.out (inB_pool hlk) (HAT.out.keep gw6) (own_G ho5 ga)
            have hor := own_G ho5 ga
            have hm6 := HM.out.keep g56
            have hf6 := HFR.out.g g56
            have hfn := own_fn hor
            clear ho5 hor HM HFR ga hG5 g56
            obtain ⟨K, hK⟩ : ∃ K, K = w5.heap.size := ⟨_, rfl⟩
            rw [← hK] at bK ⊢
            change Code.wp _ _ _ _ (w5.alloc (.cells #[.int .i64 (poolAt r k).stake, .int .i64 (poolAt r k).cut, .int .i64 (poolAt r k).kind, .slice (poolAt r k).ta (poolAt r k).table.length (poolAt r k).tc, .int .i64 (poolAt r k).quota, .bool (poolAt r k).first, .slice fa (runners r k).length fc, .slice r.ta r.protests.length r.tc] 85))
            clear hK
            generalize w5.alloc (.cells #[.int .i64 (poolAt r k).stake, .int .i64 (poolAt r k).cut, .int .i64 (poolAt r k).kind, .slice (poolAt r k).ta (poolAt r k).table.length (poolAt r k).tc, .int .i64 (poolAt r k).quota, .bool (poolAt r k).first, .slice fa (runners r k).length fc, .slice r.ta r.protests.length r.tc] 85) = w6 at *
            have HPZ : Hid (Calls Tryz.prog 52 #[.agg #[.int .i64 (poolAt r k).stake, .int .i64 (poolAt r k).cut, .int .i64 (poolAt r k).kind, .slice (poolAt r k).ta (poolAt r k).table.length (poolAt r k).tc, .int .i64 (poolAt r k).quota, .bool (poolAt r k).first, .slice fa (runners r k).length fc, .slice r.ta r.protests.length r.tc]] w6 (PzPost w6 (prizesL (fuOf r k fa fc)))) := prizes_any (fuOf r k fa fc) w6 hgf
            have HWF := Lib.hid (hgf.facts [])
            have hst := hgf.B.stake
            have hmany := hgf.B.many
            have m0 := bK.cell 0
            have m1 := bK.cell 1
            have m2 := bK.cell 2
            have m3 := bK.cell 3
            have m4 := bK.cell 4
            have m5 := bK.cell 5
            have m6 := bK.cell 6
            have m7 := bK.cell 7
            have l0 := bK.lt
            clear hgf
            unfold PzPost at HPZ
            go_wp2_with (go_at_call 52; refine (HPZ.out).mono ?_; rintro e w7 ⟨v7, rfl, ho7, hG7⟩; obtain ⟨pa7, pc7, rfl, hpr7⟩ := own_rowE Pz.vs ho7)
            clear m0 m1 m2 m3 m4 m5 m6 m7 l0 HPZ ho7
            have bK7 := bK.keep hG7
            have hm7 := hm6.keep hG7
            have gw7 := gw6.t hG7
            have HF7 := Lib.hid (hf6.g hG7)
            have hrr7 := hfn.2.below hG7
            have hKm : K ≠ m := hm7.ne bK7
            have hpl : (prizesL (fuOf r k fa fc)).length = (runners r k).length := prizesL_len _
            rw [hpl] at ⊢
            have HST : Hid (∀ j, puIn (fuOf r k none 0) (puTo r k) (j + 1) = putP (puIn (fuOf r k none 0) (puTo r k) j) (addP (atP (puIn (fuOf r k none 0) (puTo r k) j) ((runners r k).getD j default).owner) (poolAt r k).stake (((prizesL (fuOf r k fa fc)).getD j default).won + ((prizesL (fuOf r k fa fc)).getD j default).back))) := fun j => rfl
            have HEN : Hid (puTo r (k + 1) = puIn (fuOf r k none 0) (puTo r k) (runners r k).length) := rfl
            have HPBJ := Lib.hid (fun (j : Nat) (hj : j ≤ (runners r k).length) => puIn_pb (f := fuOf r k none 0) (HTB.out k (by omega)).1 (fu_facts HR.out hlk none 0 []) (fu_bounds HR.out (inB_pool hlk) none 0) j hj)
            have HPBD := Lib.hid (fun (j : Nat) (hj : j < (runners r k).length) => prizesL_bd HWF.out j hj)
            have HS0 : Hid (PuM w7 m N (puIn (fuOf r k none 0) (puTo r k) 0)) := hm7
            have hstk : 0 ≤ (poolAt r k).stake ∧ (poolAt r k).stake ≤ 100000 := hst
            have hmany2 : (runners r k).length ≤ 12 := hmany
            have HOWN : Hid (∀ j, j < (runners r k).length → 0 ≤ ((runners r k).getD j default).owner ∧ ((runners r k).getD j default).owner ≤ 99) := fun j hj => racers_own HR.out _ (runners_sub (p := (k : Int)) (by rw [List.getD_eq_getElem?_getD, List.getElem?_eq_getElem hj]; exact List.getElem_mem _)).1
            obtain ⟨PI, hPI⟩ : ∃ PI : Nat → List Pu, PI = puIn (fuOf r k none 0) (puTo r k) := ⟨_, rfl⟩
            rw [← hPI] at HST HEN HPBJ HS0
            have HPZR := Lib.hid hpr7
            have HRR := Lib.hid hrr7
            clear hPI hpr7 hrr7 hfn hm6 hf6 bK hG7 gw6 hst hmany HWF
            obtain ⟨PL, hPL⟩ : ∃ PL, PL = prizesL (fuOf r k fa fc) := ⟨_, rfl⟩
            rw [← hPL] at HST HPBD HPZR hpl
            obtain ⟨RS, hRS⟩ : ∃ RS, RS = runners r k := ⟨_, rfl⟩
            rw [← hRS] at HST HPBD HRR hpl HEN HPBJ hmany2 HOWN bK7 ⊢
            clear hPL hRS
            go_loopw [45] (fun i wr => ∃ j N2 : Nat, j ≤ RS.length ∧ i = .int .i64 j ∧ Hid (PuM wr m N2 (PI j)) ∧ Hid (N2 ≤ 12 + 12 * k + j) ∧ Hid (Fr (fun i => i = m) w7 wr)) (fun i _ => RS.length - (intOf i).toNat)
            case atStart => exact ⟨0, N, Nat.zero_le _, rfl, HS0.out, HN.out, Fr.rf _ _⟩
            case round =>
              clear HS0
              obtain ⟨j, N2, hj, rfl, HM, HN2, HFR⟩ := hrel
              obtain ⟨wi, rfl⟩ : ∃ wi, wi = wr := ⟨_, rfl⟩
              by_cases hjl : j < RS.length
              · have hji : (j : Int) < RS.length := by omega
                have hjp : j < PL.length := by omega
                rcases HPZR.out with h | ⟨gp, op, rfl, hgp, hpcell⟩
                · omega
                rcases HRR.out with h | ⟨gr, ofr, rfl, hgr, hrcell⟩
                · omega
                have hpc := hpcell j hjp
                have hrc := hrcell j hjl
                have hpb := HPBJ.out j hj
                have hpd := HPBD.out j hjl
                have hob := HOWN.out j hjl
                have hst2 := HST.out j
                obtain ⟨y, hy⟩ : ∃ y, y = RS.getD j default := ⟨_, rfl⟩
                rw [← hy] at hrc hob hst2
                clear hy hrcell
                obtain ⟨z, hz⟩ : ∃ z, z = PL.getD j default := ⟨_, rfl⟩
                rw [← hz] at hpc hpd hst2
                clear hz hpcell
                obtain ⟨zbird, zowner, zrank, zday, zpa, zpc, zpools⟩ := y
                obtain ⟨pb, pw, pk⟩ := z
                unfold Rc.v at hrc
                unfold Pz.v at hpc
                dsimp only at hob hst2 hpd
                have hneR : gr ≠ m := hm7.ne_cell (hrc 1 (by omega))
                have hneP : gp ≠ m := hm7.ne_cell (hpc 1 (by omega))
                have q1 : wi.cell? ⟨gr, ofr + j * 5 + 1, none⟩ = some (.int .i64 zowner) := fr_cell HFR.out hgr hneR (hrc 1 (by omega))
                have p0 : wi.cell? ⟨gp, op + j * 3, none⟩ = some (.int .i64 pb) := fr_cell HFR.out hgp hneP (hpc 0 (by omega))
                have p1 : wi.cell? ⟨gp, op + j * 3 + 1, none⟩ = some (.int .i64 pw) := fr_cell HFR.out hgp hneP (hpc 1 (by omega))
                have p2 : wi.cell? ⟨gp, op + j * 3 + 2, none⟩ = some (.int .i64 pk) := fr_cell HFR.out hgp hneP (hpc 2 (by omega))
                have lgr : gr < wi.heap.size := Nat.lt_of_lt_of_le hgr HFR.out.size
                have lgp : gp < wi.heap.size := Nat.lt_of_lt_of_le hgp HFR.out.size
                have bKi := HFR.out.blk bK7 hKm
                have m0 := bKi.cell 0
                have m6 := bKi.cell 6
                have l0 := bKi.lt
                have hAt := hpb.1.at zowner
                have HST2 := Lib.hid hst2
                have hlk2 := (HM.out.keep ((G.rf wi).a (.cells #[.int .i64 pb, .int .i64 pw, .int .i64 pk] 40))).at (x := zowner) (by omega) (by go_simp)
                obtain ⟨X, hX⟩ : ∃ X, X = atP (PI j) zowner := ⟨_, rfl⟩
                rw [← hX] at hAt hlk2 HST2
                clear hst2 hX hrc hpc
                obtain ⟨xo, xs, xp⟩ := X
                unfold Pu.v at hlk2
                unfold addP at HST2
                dsimp only at hAt hlk2 HST2
                have hk12 : 12 * (k : Int) + j ≤ 84 := by omega
                have x1 : IntKind.i64.wrap (xs + (poolAt r k).stake) = xs + (poolAt r k).stake := IntWalk.i64_in _ (by omega)
                have x2 : IntKind.i64.wrap (pw + pk) = pw + pk := IntWalk.i64_in _ (by omega)
                have x3 : IntKind.i64.wrap (xp + (pw + pk)) = xp + (pw + pk) := IntWalk.i64_in _ (by omega)
                go_upto_region 18 with fail
                have frA : Fr (fun i => i = m) w7 ((wi.alloc (.cells #[.int .i64 pb, .int .i64 pw, .int .i64 pk] 40)).alloc (.cells #[.int .i64 xo, .int .i64 xs, .int .i64 xp] 47)) := (HFR.out.a _).a _
                have hmA := (HM.out.keep ((G.rf wi).a (.cells #[.int .i64 pb, .int .i64 pw, .int .i64 pk] 40))).keep ((G.rf _).a (.cells #[.int .i64 xo, .int .i64 xs, .int .i64 xp] 47))
                have b40 : Blk ((wi.alloc (.cells #[.int .i64 pb, .int .i64 pw, .int .i64 pk] 40)).alloc (.cells #[.int .i64 xo, .int .i64 xs, .int .i64 xp] 47)) wi.heap.size 40 #[.int .i64 pb, .int .i64 pw, .int .i64 pk] := (Blk.new _ _ _).alloc _
                have b47 : Blk ((wi.alloc (.cells #[.int .i64 pb, .int .i64 pw, .int .i64 pk] 40)).alloc (.cells #[.int .i64 xo, .int .i64 xs, .int .i64 xp] 47)) (wi.heap.size + 1) 47 #[.int .i64 xo, .int .i64 xs, .int .i64 xp] := Blk.new1 _ _ _ _
                have bKA := (bKi.alloc (.cells #[.int .i64 pb, .int .i64 pw, .int .i64 pk] 40)).alloc (.cells #[.int .i64 xo, .int .i64 xs, .int .i64 xp] 47)
                have hgi : w7.heap.size ≤ wi.heap.size := HFR.out.size
                clear q1 p0 p1 p2 lgr lgp m0 m6 l0 hlk2 HM HFR bKi
                obtain ⟨gi, hgi2⟩ : ∃ gi, gi = wi.heap.size := ⟨_, rfl⟩
                change Code.wp _ _ _ _ ((wi.alloc (.cells #[.int .i64 pb, .int .i64 pw, .int .i64 pk] 40)).alloc (.cells #[.int .i64 xo, .int .i64 xs, .int .i64 xp] 47))
                rw [← hgi2] at b40 b47 hgi ⊢
                clear hgi2
                generalize (wi.alloc (.cells #[.int .i64 pb, .int .i64 pw, .int .i64 pk] 40)).alloc (.cells #[.int .i64 xo, .int .i64 xs, .int .i64 xp] 47) = wA at *
                have m0 := bKA.cell 0
                have lK := bKA.lt
                have c1 := b40.cell 1
                have c2 := b40.cell 2
                have l4 := b40.lt
                have d0 := b47.cell 0
                have d1 := b47.cell 1
                have d2 := b47.cell 2
                have z1 := b47.frozen 1
                have z2 := b47.frozen 2
                have l7 := b47.lt
                go_upto_region 20 with fail
                have bE := (b47.set_ 1 (.int .i64 (xs + (poolAt r k).stake))).set_ 2 (.int .i64 (xp + (pw + pk)))
                simp only [List.setIfInBounds_toArray, List.set_cons_zero, List.set_cons_succ] at bE
                have hne7 : some m ≠ some (gi + 1) := fun e => by
                  have e2 : m = gi + 1 := by injection e
                  exact hmA.ne b47 e2.symm
                have hmE := (hmA.grown (grownBy_set wA ⟨gi + 1, 1, none⟩ (.int .i64 (xs + (poolAt r k).stake))) hne7).grown (grownBy_set _ ⟨gi + 1, 2, none⟩ (.int .i64 (xp + (pw + pk)))) hne7
                have frE : Fr (fun i => i = m) w7 ((wA.setCell ⟨gi + 1, 1, none⟩ (.int .i64 (xs + (poolAt r k).stake))).setCell ⟨gi + 1, 2, none⟩ (.int .i64 (xp + (pw + pk)))) := (frA.s (p := ⟨gi + 1, 1, none⟩) (.inr (show w7.heap.size ≤ gi + 1 by omega)) _).s (p := ⟨gi + 1, 2, none⟩) (.inr (show w7.heap.size ≤ gi + 1 by omega)) _
                clear m0 lK c1 c2 l4 d0 d1 d2 z1 z2 l7 hmA frA b40 b47 bKA
                generalize (wA.setCell ⟨gi + 1, 1, none⟩ (.int .i64 (xs + (poolAt r k).stake))).setCell ⟨gi + 1, 2, none⟩ (.int .i64 (xp + (pw + pk))) = wE at *
                obtain ⟨W8, hrun, hpm8, hg8⟩ := hmE.store ⟨xo, xs + (poolAt r k).stake, xp + (pw + pk)⟩ (by show -1000000000000 ≤ xo ∧ xo ≤ 1000000000000; omega) (by have := HN2.out; unfold maxLen; omega)
                unfold Pu.v at hrun
                dsimp only at hrun
                have d0 := bE.cell 0
                have d1 := bE.cell 1
                have d2 := bE.cell 2
                have l7 := bE.lt
                go_wp2_with fail
                go_roundw
                case rel => exact ⟨j + 1, N2 + 1, by omega, by go_num, by rw [HST2.out]; exact hpm8, by show N2 + 1 ≤ _; have := HN2.out; omega, frE.grown hg8 (fun g e => .inl (by cases e; rfl))⟩
                case measure => simp [intOf] <;> omega
              · obtain rfl : j = RS.length := by omega
                have hji : ¬ ((RS.length : Nat) : Int) < RS.length := by omega
                go_wp2_with fail
                go_roundw
                case rel => exact ⟨k + 1, N2, by omega, by go_num, by rw [HEN.out]; exact HM.out, by show N2 ≤ _; have := HN2.out; omega, HF7.out.t2 HFR.out (fun i hi e => e)⟩
                case measure => simp [intOf] <;> omega
          · obtain rfl : k = r.pools.length := by omega
            have hkp : ¬ ((r.pools.length : Nat) : Int) < r.pools.length := by omega
            have htb := HTB.out r.pools.length (Nat.le_refl _)
            have HPV := Lib.hid (pvalues_any m)
            have bV : Blk (wo.alloc (.cells #[.map (some m)] 93)) wo.heap.size 93 #[.map (some m)] := Blk.new _ _ _
            have HSO := Lib.hid (psorted_any wo.heap.size m N (puTo r r.pools.length) htb.1.uniq (by omega) (wo.alloc (.cells #[.map (some m)] 93)) bV (HM.out.keep ((G.rf _).a _)))
            clear bV
            go_wp2_with (first | (go_at_call 55; refine (HPV.out _).mono ?_; rintro e w7 ⟨rfl, rfl⟩) | (go_at_call 54; refine (HSO.out).mono ?_; rintro e w8 ⟨v8, rfl, ho8, hG8⟩))
            have gz : G w w8 := (gwo.a _).t hG8
            have hln : (pursesL r).length = (puTo r r.pools.length).length := srtP_len _
            have HF := Lib.hid (HSS.out w8 v8 gz (own_weaken (by rw [hln]; exact ho8) (gwo.a (.cells #[.map (some m)] 93)).size))
            first | exact HF.out | (go_ret; exact HF.out)
end Go.Proofs.YtnkmcoljijmgpaaGreat
