import Derived.Test.YtnkmcoljijmgpaaGreatCb
set_option linter.unusedSimpArgs false
set_option linter.unusedVariables false
namespace Go.Proofs.YtnkmcoljijmgpaaGreat
open Go.RowKit Go.Shelf Go.Sort Go.Maps
attribute [local go_sem] Oper.semAt_some
/-- the racers of the new race so far -/
def AloneAt (W : World) (B : Nat) (v : Value) (L : List Rc) : Prop := W.ownsRow B 60 5 v L.length (rcV L) ∧ ∀ y ∈ L, y.pools = [0] ∧ ∃ g, y.pa = some ⟨g, 0, none⟩ ∧ Blk W g 3 #[.int .i64 0]
theorem ints0 {W : World} {g : Nat} (h : Blk W g 3 #[.int .i64 0]) : IntsAt W (some ⟨g, 0, none⟩) [0] := ints_blk h (fun k hk => by
  have : k = 0 := by simpa using hk
  subst this
  rfl)
theorem eq33s (a b c d : Int) (w : World) : (binOp .eql 33 (.agg #[.int .i64 a, .int .i64 b, .int .i64 c, .int .i64 d]) (.agg #[.int .i64 a, .int .i64 b, .int .i64 c, .int .i64 d])).run Tryz.prog w = .ok (.bool true) w := by
  go_simp
theorem own_cap {W : World} {B T k : Nat} {a : Option Addr} {n c : Nat} {xs : List Value} (h : W.ownsRow B T k (.slice a n c) n xs) : n ≤ c := by
  rcases h.2 with ⟨e, h0⟩ | ⟨g, cap, cur, e, _, _, h1, _⟩
  · omega
  · injection e with _ _ e3
    omega
theorem runners_len (r : Ra) (p : Int) : (runners r p).length ≤ r.racers.length := by
  unfold runners
  rw [srt_len]
  exact List.length_filter_le _ _
theorem prQ0 (r : Ra) (p : Int) (w : World) (h : r.At w) (hq : qE r p [] = 0) : Calls Tryz.prog 18 #[.agg r.v, .int .i64 p] w fun e w' => G w w' ∧ ∃ a c, e = .returned (.tuple #[.slice a (prizesL (fuOf r p none 0)).length c, .int .i64 0]) ∧ RowE Pz.v 3 w' a (prizesL (fuOf r p none 0)) := by
  refine (Prizes_any r p w h).mono ?_
  rintro e w' ⟨hG, ⟨h1, _⟩ | ⟨_, v, rfl, ho⟩⟩
  · exact absurd hq h1
  · obtain ⟨a, c, rfl, hr⟩ := own_rowE Pz.vs ho
    exact ⟨hG, a, c, rfl, hr⟩
theorem potQ0 (r : Ra) (p : Int) (w : World) (h : r.At w) (hq : qE r p [] = 0) : Calls Tryz.prog 17 #[.agg r.v, .int .i64 p] w fun e w' => G w w' ∧ e = .returned (.tuple #[.agg (potV (fuOf r p none 0)), .int .i64 0]) := by
  refine (Pot_any r p w h).mono ?_
  rintro e w' ⟨hG, ⟨h1, _⟩ | ⟨_, rfl⟩⟩
  · exact absurd hq h1
  · exact ⟨hG, rfl⟩
theorem own_ge {W : World} {base k n : Nat} {e : TypeId} {v : Value} {xs : List Value} (h : W.ownsRow base e k v n xs) : ∀ g, v.ownBlock = some g → base ≤ g := fun g hg => by
  rcases h.2 with ⟨rfl, _⟩ | ⟨g', cap, cur, rfl, hb, _⟩
  · cases hg
  · have : some g' = some g := hg
    injection this with e
    omega
theorem blk_ne {W : World} {a b : Nat} {t u : TypeId} {cs ds : Array Value} (h : Blk W a t cs) (k : Blk W b u ds) (hn : t ≠ u) : a ≠ b := fun e => by
  subst e
  have := h.symm.trans k
  injection this with h1
  injection h1 with _ h2
  exact hn h2
theorem alone_qE {r : Ra} {p : Int} {L : List Rc} {va pb : Option Addr} {vc : Nat} (h : raceB (aloneR r p va pb vc L) = true) : qE (aloneR r p va pb vc L) 0 [] = 0 := by
  unfold qE
  rw [if_pos h]
  rfl
set_option maxRecDepth 100000 in
set_option maxHeartbeats 8000000 in
theorem AloneLaw (r : Ra) (p : Int) (w : World) (h : r.Laid w) : Calls Tryz.prog 8 #[.agg r.v, .int .i64 p] w fun e w' => e = .returned (.bool true) ∧ G w w' := by
  have HVA := Lib.hid (fun (W : World) (hW : G w W) => valid8_any r p W (h.keep hW))
  have HWK := Lib.hid (fun (W : World) => works_any W)
  have hrv : r.v = #[.slice r.ra r.racers.length r.rc, .slice r.pa r.pools.length r.pc, .slice r.ta r.protests.length r.tc] := rfl
  obtain ⟨W1, hW1⟩ : ∃ W1, W1 = w.alloc (.cells #[.slice r.ra r.racers.length r.rc, .slice r.pa r.pools.length r.pc, .slice r.ta r.protests.length r.tc] 26) := ⟨_, rfl⟩
  have g0 : G w W1 := by rw [hW1]; exact (G.rf _).a _
  have b0 : Blk W1 w.heap.size 26 #[.slice r.ra r.racers.length r.rc, .slice r.pa r.pools.length r.pc, .slice r.ta r.protests.length r.tc] := by rw [hW1]; exact Blk.new _ _ _
  rw [hrv] at HVA ⊢
  go_enter Tryz.func8, Tryz.ntmps8
  go_upto_region 1 with fail
  change Code.wp _ _ _ _ (w.alloc (.cells #[.slice r.ra r.racers.length r.rc, .slice r.pa r.pools.length r.pc, .slice r.ta r.protests.length r.tc] 26))
  rw [← hW1]
  clear hW1
  have m0 := b0.cell 0
  have m1 := b0.cell 1
  have m2 := b0.cell 2
  have l0 := b0.lt
  cases hVB : valR r p
  · rw [hVB] at HVA
    clear h
    go_wp2_with (first | (go_at_call 20; refine (HVA.out _ g0).mono ?_; rintro e w2 ⟨rfl, hG2⟩) | (go_at_call 15; refine (HWK.out _).mono ?_; rintro e w3 ⟨rfl, hG3⟩))
    have gz := (g0.t hG2).t hG3
    first | exact ⟨rfl, gz⟩ | (go_ret; exact ⟨rfl, gz⟩)
  · rw [hVB] at HVA
    obtain ⟨hat, hrb, hp0, hpl⟩ := valR_at h hVB
    have hq0 := valR_q hVB
    obtain ⟨pn, rfl⟩ : ∃ pn : Nat, p = (pn : Nat) := ⟨p.toNat, by omega⟩
    have hpn : pn < r.pools.length := by omega
    have HAT := Lib.hid hat
    have hpr := hat.ps.row
    have HTB := Lib.hid (hat.ps.tables pn hpn)
    have HRB := Lib.hid hrb
    have HQ0 := Lib.hid hq0
    have h12 := (uniq_of (race_parts hrb)).1
    have HPA : Hid (poolAt r (pn : Nat) = r.pools.getD pn default) := by show _ = _; unfold poolAt; rw [Int.toNat_natCast]
    have hrow := hat.rs.row
    have HPI := Lib.hid (fun (k : Nat) (hk : k < r.racers.length) (W : World) (hW : G w W) => In_any (r.racers.getD k default).pools (r.racers.getD k default).pa (r.racers.getD k default).pc (pn : Nat) W ((hat.rs.below hW).pools k hk) (hat.nq k hk))
    have HC1 := Lib.hid (fun (W : World) (hW : G w W) => prQ0 r (pn : Nat) W (hat.keep hW) hq0)
    have HC3 := Lib.hid (fun (W : World) (hW : G w W) => potQ0 r (pn : Nat) W (hat.keep hW) hq0)
    rw [hrv] at HC1 HC3
    have hPLn : (prizesL (fuOf r (pn : Nat) none 0)).length ≤ 1000 := by
      rw [prizesL_len]
      have := runners_len r (pn : Nat)
      show (runners r (pn : Nat)).length ≤ 1000
      omega
    obtain ⟨PL, hPL⟩ : ∃ PL, PL = prizesL (fuOf r (pn : Nat) none 0) := ⟨_, rfl⟩
    rw [← hPL] at HC1 hPLn
    have HPL := Lib.hid hPL
    clear hPL
    obtain ⟨t1, t2, t3, t4, hPV⟩ : ∃ t1 t2 t3 t4 : Int, potV (fuOf r (pn : Nat) none 0) = #[.int .i64 t1, .int .i64 t2, .int .i64 t3, .int .i64 t4] := ⟨_, _, _, _, rfl⟩
    rw [hPV] at HC3
    have HPV := Lib.hid hPV
    clear hPV
    have HOO := Lib.hid (fun (W : World) (hW : G w W) => (hat.keep hW).ps.tables pn hpn)
    have HBT := Lib.hid (hat.nb pn hpn)
    have HPO := Lib.hid (show ∀ W, G w W → (poolAt r (pn : Nat)).v = (r.pools.getD pn default).v from fun _ _ => by unfold poolAt; rw [Int.toNat_natCast])
    have HAL := Lib.hid (fun (L : List Rc) (hL : L.map rcQ = (r.racers.filter fun x => inL x.pools (pn : Nat)).map rcQ) (hz : ∀ y ∈ L, y.pools = [0]) (va pb : Option Addr) (vc : Nat) => alone_race (r := r) (p := (pn : Nat)) hrb hp0 hpl hL hz va pb vc)
    clear h hVB hat hrb hq0 hrv
    rcases hpr with hx | ⟨gp, op, hpe, hgp, hpc⟩
    · omega
    have hpcell := hpc pn hpn
    rw [← HPA.out] at hpcell
    rw [← HPA.out] at HTB
    obtain ⟨PP0, hPP0⟩ : ∃ PP0, PP0 = poolAt r (pn : Nat) := ⟨_, rfl⟩
    have HPP := Lib.hid hPP0
    rw [← hPP0] at hpcell HTB
    clear hPP0 hpc HPA
    obtain ⟨ystake, ycut, ykind, yta, ytc, ytable, yquota, yfirst⟩ := PP0
    unfold Po.v at hpcell
    dsimp only at HTB
    have HPE := Lib.hid hpe
    have HPC := Lib.hid hpcell
    have HROW := Lib.hid hrow
    clear hpe hpcell hrow
    go_upto_region 3 with (go_at_call 20; refine (HVA.out _ g0).mono ?_; rintro e w2 ⟨rfl, hG2⟩)
    clear m0 m1 m2 l0 HVA
    have hpcell := HPC.out
    have hpe := HPE.out
    clear HPC
    have g2 := g0.t hG2
    have b2 := b0.keep hG2
    have hcl := fun r hr => ((bcellB g2).1 gp _ hgp).trans (hpcell r hr)
    have lgp := Nat.lt_of_lt_of_le hgp g2.size
    have q0 : w2.cell? ⟨gp, op + pn * 6, none⟩ = some (.int .i64 ystake) := hcl 0 (by omega)
    have q1 : w2.cell? ⟨gp, op + pn * 6 + 1, none⟩ = some (.int .i64 ycut) := hcl 1 (by omega)
    have q2 : w2.cell? ⟨gp, op + pn * 6 + 2, none⟩ = some (.int .i64 ykind) := hcl 2 (by omega)
    have q3 : w2.cell? ⟨gp, op + pn * 6 + 3, none⟩ = some (.slice yta ytable.length ytc) := hcl 3 (by omega)
    have q4 : w2.cell? ⟨gp, op + pn * 6 + 4, none⟩ = some (.int .i64 yquota) := hcl 4 (by omega)
    have q5 : w2.cell? ⟨gp, op + pn * 6 + 5, none⟩ = some (.bool yfirst) := hcl 5 (by omega)
    have m1 := b2.cell 1
    rw [hpe] at m1
    have m1' : w2.cell? ⟨w.heap.size, 1, none⟩ = some (.slice (some ⟨gp, op, none⟩) r.pools.length r.pc) := m1
    have l0 := b2.lt
    clear hcl hpcell m1 hpe
    go_upto_region 4 with fail
    have b3 := (b2.alloc (.cells #[.int .i64 ystake, .int .i64 ycut, .int .i64 ykind, .slice yta ytable.length ytc, .int .i64 yquota, .bool yfirst] 42)).alloc (.cells #[.slice none 0 0, .slice (some ⟨w2.heap.size, 0, none⟩) 1 1, .slice none 0 0] 26)
    have bP : Blk ((w2.alloc (.cells #[.int .i64 ystake, .int .i64 ycut, .int .i64 ykind, .slice yta ytable.length ytc, .int .i64 yquota, .bool yfirst] 42)).alloc (.cells #[.slice none 0 0, .slice (some ⟨w2.heap.size, 0, none⟩) 1 1, .slice none 0 0] 26)) w2.heap.size 42 #[.int .i64 ystake, .int .i64 ycut, .int .i64 ykind, .slice yta ytable.length ytc, .int .i64 yquota, .bool yfirst] := (Blk.new _ _ _).alloc _
    have bO : Blk ((w2.alloc (.cells #[.int .i64 ystake, .int .i64 ycut, .int .i64 ykind, .slice yta ytable.length ytc, .int .i64 yquota, .bool yfirst] 42)).alloc (.cells #[.slice none 0 0, .slice (some ⟨w2.heap.size, 0, none⟩) 1 1, .slice none 0 0] 26)) (w2.heap.size + 1) 26 #[.slice none 0 0, .slice (some ⟨w2.heap.size, 0, none⟩) 1 1, .slice none 0 0] := Blk.new1 _ _ _ _
    have g3 : G w ((w2.alloc (.cells #[.int .i64 ystake, .int .i64 ycut, .int .i64 ykind, .slice yta ytable.length ytc, .int .i64 yquota, .bool yfirst] 42)).alloc (.cells #[.slice none 0 0, .slice (some ⟨w2.heap.size, 0, none⟩) 1 1, .slice none 0 0] 26)) := (g2.a _).a _
    have hs2 : w.heap.size < w2.heap.size := b2.lt
    clear q0 q1 q2 q3 q4 q5 m1' l0 lgp b2 g2 hG2 b0 g0
    obtain ⟨B, hB⟩ : ∃ B, B = w2.heap.size := ⟨_, rfl⟩
    change Code.wp _ _ _ _ ((w2.alloc (.cells #[.int .i64 ystake, .int .i64 ycut, .int .i64 ykind, .slice yta ytable.length ytc, .int .i64 yquota, .bool yfirst] 42)).alloc (.cells #[.slice none 0 0, .slice (some ⟨w2.heap.size, 0, none⟩) 1 1, .slice none 0 0] 26))
    rw [← hB] at b3 bP bO g3 hs2 ⊢
    have hs3 : ((w2.alloc (.cells #[.int .i64 ystake, .int .i64 ycut, .int .i64 ykind, .slice yta ytable.length ytc, .int .i64 yquota, .bool yfirst] 42)).alloc (.cells #[.slice none 0 0, .slice (some ⟨B, 0, none⟩) 1 1, .slice none 0 0] 26)).heap.size = B + 1 + 1 := by rw [World.size_alloc, World.size_alloc, hB]
    clear hB
    generalize (w2.alloc (.cells #[.int .i64 ystake, .int .i64 ycut, .int .i64 ykind, .slice yta ytable.length ytc, .int .i64 yquota, .bool yfirst] 42)).alloc (.cells #[.slice none 0 0, .slice (some ⟨B, 0, none⟩) 1 1, .slice none 0 0] 26) = W3 at *
    have HS3 := Lib.hid hs3
    have m0 := b3.cell 0
    have l0 := b3.lt
    clear hs3
    go_wp2_with fail
    clear m0 l0
    go_loopw [6] (fun i wr => ∃ (k : Nat) (v : Value) (L : List Rc), k ≤ r.racers.length ∧ i = .int .i64 k ∧ Hid (Blk wr (B + 1) 26 #[v, .slice (some ⟨B, 0, none⟩) 1 1, .slice none 0 0]) ∧ Hid (AloneAt wr (B + 1 + 1) v L) ∧ Hid (L.map rcQ = ((r.racers.take k).filter fun x => inL x.pools (pn : Nat)).map rcQ) ∧ L.length ≤ k ∧ Hid (Fr (fun i => i = B + 1) W3 wr)) (fun i _ => r.racers.length - (intOf i).toNat)
    case atStart => exact ⟨0, .slice none 0 0, [], Nat.zero_le _, rfl, bO, ⟨World.ownsRow_nil _ _ _ _, fun y hy => by simp at hy⟩, by simp [Hid], Nat.le_refl _, Fr.rf _ _⟩
    case round =>
      clear bO
      obtain ⟨k, v, L, hk, rfl, HBO, HAA, HLL, hLk, HFR⟩ := hrel
      obtain ⟨wo, rfl⟩ : ∃ wo, wo = wr := ⟨_, rfl⟩
      have gwo : G w wo := ((G.fr (R := fun _ => False) g3).t2 HFR.out (fun i hi e => by omega)).toG (fun _ _ h => h)
      have bo := HFR.out.blk b3 (by omega)
      have m0 := bo.cell 0
      have l0 := bo.lt
      by_cases hlt : k < r.racers.length
      · have hki : (k : Int) < r.racers.length := by omega
        have hrow2 := HROW.out.below gwo
        have HI := Lib.hid (HPI.out k hlt)
        have htk : ∀ (q : Rc → Bool), (r.racers.take (k + 1)).filter q = (r.racers.take k).filter q ++ (if q (r.racers.getD k default) = true then [r.racers.getD k default] else []) := fun q => by
          rw [List.take_add_one, List.filter_append, List.getElem?_eq_getElem hlt]
          have e : r.racers.getD k default = r.racers[k] := by rw [List.getD_eq_getElem?_getD, List.getElem?_eq_getElem hlt]; rfl
          rw [e]
          by_cases hq : q r.racers[k] = true
          · simp [hq]
          · simp [hq]
        have HTK := Lib.hid (htk (fun x => inL x.pools (pn : Nat)))
        rcases hrow2 with hx | ⟨gr, ofr, hre, hgr, hcell⟩
        · omega
        rw [hre] at m0
        have m0' : wo.cell? ⟨w.heap.size, 0, none⟩ = some (.slice (some ⟨gr, ofr, none⟩) r.racers.length r.rc) := m0
        have hcl := hcell k hlt
        obtain ⟨y, hy⟩ : ∃ y, y = r.racers.getD k default := ⟨_, rfl⟩
        rw [← hy] at hcl HI HTK
        clear hy hcell htk m0 hre
        obtain ⟨zbird, zowner, zrank, zday, zpa, zpc, zpools⟩ := y
        unfold Rc.v at hcl
        dsimp only at HI HTK
        have q0 : wo.cell? ⟨gr, ofr + k * 5, none⟩ = some (.int .i64 zbird) := hcl 0 (by omega)
        have q1 : wo.cell? ⟨gr, ofr + k * 5 + 1, none⟩ = some (.int .i64 zowner) := hcl 1 (by omega)
        have q2 : wo.cell? ⟨gr, ofr + k * 5 + 2, none⟩ = some (.int .i64 zrank) := hcl 2 (by omega)
        have q3 : wo.cell? ⟨gr, ofr + k * 5 + 3, none⟩ = some (.int .i64 zday) := hcl 3 (by omega)
        have q4 : wo.cell? ⟨gr, ofr + k * 5 + 4, none⟩ = some (.slice zpa zpools.length zpc) := hcl 4 (by omega)
        clear hcl
        go_upto_region 8 with fail
        have ga : G wo (wo.alloc (.cells #[.int .i64 zbird, .int .i64 zowner, .int .i64 zrank, .int .i64 zday, .slice zpa zpools.length zpc] 60)) := (G.rf wo).a _
        have bx : Blk (wo.alloc (.cells #[.int .i64 zbird, .int .i64 zowner, .int .i64 zrank, .int .i64 zday, .slice zpa zpools.length zpc] 60)) wo.heap.size 60 #[.int .i64 zbird, .int .i64 zowner, .int .i64 zrank, .int .i64 zday, .slice zpa zpools.length zpc] := Blk.new _ _ _
        have hgx : W3.heap.size ≤ wo.heap.size := HFR.out.size
        clear q0 q1 q2 q3 q4 m0' l0 hgr
        obtain ⟨gx, hgx2⟩ : ∃ gx, gx = wo.heap.size := ⟨_, rfl⟩
        change Code.wp _ _ _ _ (wo.alloc (.cells #[.int .i64 zbird, .int .i64 zowner, .int .i64 zrank, .int .i64 zday, .slice zpa zpools.length zpc] 60))
        rw [← hgx2] at bx hgx ⊢
        have hgx3 : wo.heap.size ≤ gx := Nat.le_of_eq hgx2.symm
        clear hgx2
        have gw2 := gwo.t ga
        generalize wo.alloc (.cells #[.int .i64 zbird, .int .i64 zowner, .int .i64 zrank, .int .i64 zday, .slice zpa zpools.length zpc] 60) = w4 at *
        have n4 := bx.cell 4
        have ln := bx.lt
        cases hin : inL zpools (pn : Nat)
        · rw [hin] at HI HTK
          have HTK2 := Lib.hid (show (r.racers.take (k + 1)).filter (fun x => inL x.pools (pn : Nat)) = (r.racers.take k).filter (fun x => inL x.pools (pn : Nat)) by have := HTK.out; simpa using this)
          clear hin HTK
          go_wp2_with (go_at_call 28; refine (HI.out _ gw2).mono ?_; rintro e w5 ⟨rfl, hG5⟩)
          go_roundw
          case rel => exact ⟨k + 1, v, L, by omega, by go_num, HBO.out.keep (ga.t hG5), ⟨own_G HAA.out.1 (ga.t hG5), fun y hy => ⟨(HAA.out.2 y hy).1, (HAA.out.2 y hy).2.imp fun g hg => ⟨hg.1, hg.2.keep (ga.t hG5)⟩⟩⟩, by show _ = _; rw [HTK2.out]; exact HLL.out, by omega, HFR.out.g (ga.t hG5)⟩
          case measure => simp [intOf] <;> omega
        · rw [hin] at HI HTK
          have HTK2 := Lib.hid (show (r.racers.take (k + 1)).filter (fun x => inL x.pools (pn : Nat)) = (r.racers.take k).filter (fun x => inL x.pools (pn : Nat)) ++ [⟨zbird, zowner, zrank, zday, zpa, zpc, zpools⟩] by have := HTK.out; simpa using this)
          clear hin HTK
          go_upto_region 9 with (go_at_call 28; refine (HI.out _ gw2).mono ?_; rintro e w5 ⟨rfl, hG5⟩)
          have bx5 := bx.keep hG5
          have n4 := bx5.cell 4
          have z4 := bx5.frozen 4
          have ln := bx5.lt
          have h45 : w4.heap.size ≤ w5.heap.size := hG5.size
          have lnx : gx < w4.heap.size := bx.lt
          go_upto_region 10 with fail
          have g6 : G wo ((w5.setCell ⟨gx, 4, none⟩ (.slice (some ⟨w5.heap.size, 0, none⟩) 1 1)).alloc (.cells #[.int .i64 0] 3)) := ((ga.t hG5).s (p := ⟨gx, 4, none⟩) hgx3 _).a _
          have bx6 : Blk ((w5.setCell ⟨gx, 4, none⟩ (.slice (some ⟨w5.heap.size, 0, none⟩) 1 1)).alloc (.cells #[.int .i64 0] 3)) gx 60 #[.int .i64 zbird, .int .i64 zowner, .int .i64 zrank, .int .i64 zday, .slice (some ⟨w5.heap.size, 0, none⟩) 1 1] := by
            have b := (bx5.set_ 4 (.slice (some ⟨w5.heap.size, 0, none⟩) 1 1)).alloc (.cells #[.int .i64 0] 3)
            simp only [List.setIfInBounds_toArray, List.set_cons_zero, List.set_cons_succ] at b
            exact b
          have b36 : Blk ((w5.setCell ⟨gx, 4, none⟩ (.slice (some ⟨w5.heap.size, 0, none⟩) 1 1)).alloc (.cells #[.int .i64 0] 3)) w5.heap.size 3 #[.int .i64 0] := by
            have b := Blk.new (w5.setCell ⟨gx, 4, none⟩ (.slice (some ⟨w5.heap.size, 0, none⟩) 1 1)) 3 #[.int .i64 0]
            rw [World.size_setCell] at b
            exact b
          clear n4 z4 ln
          obtain ⟨g3, hg3⟩ : ∃ g3, g3 = w5.heap.size := ⟨_, rfl⟩
          rw [← hg3] at g6 bx6 b36 ⊢
          clear hg3 h45 lnx bx5 hG5 bx gw2
          generalize (w5.setCell ⟨gx, 4, none⟩ (.slice (some ⟨g3, 0, none⟩) 1 1)).alloc (.cells #[.int .i64 0] 3) = w6 at *
          have HO6 := Lib.hid (own_G HAA.out.1 g6)
          have HB6 := Lib.hid (HBO.out.keep g6)
          have m0 := HB6.out.cell 0
          have l0 := HB6.out.lt
          have n0 := bx6.cell 0
          have n1 := bx6.cell 1
          have n2 := bx6.cell 2
          have n3 := bx6.cell 3
          have n4 := bx6.cell 4
          have ln := bx6.lt
          have HL12 : L.length ≤ 12 := by omega
          have hgx4 : W3.heap.size ≤ w6.heap.size := by have := g6.size; have := HFR.out.size; omega
          have HGX := Lib.hid hgx4
          clear hgx4
          obtain ⟨i0, hi0, hz0, hz1, hz2⟩ := info_parts info60
          go_wp2_with (at_builtin; refine wpList_append_own _ rfl _ _ 22 rfl (B + 1 + 1) 60 i0 (.agg #[.int .i64 0, .int .i64 0, .int .i64 0, .int .i64 0, .slice none 0 0]) 5 56 Tryz.underlying22 hi0 hz0 hz1 hz2 rfl (by decide) _ L.length (rcV L) rfl ?hown ⟨_, 0, none⟩ 1 1 [.int .i64 zbird, .int .i64 zowner, .int .i64 zrank, .int .i64 zday, .slice (some ⟨g3, 0, none⟩) 1 1] rfl rfl (cell_new5 _ _ _) (by simp [Value.oneCell']) (by unfold maxLen; omega) (by omega) ?hbase ?hrest)
          case hown => exact own_G HO6.out ((G.rf _).a _)
          case hbase => have := HGX.out; have := HS3.out; simp only [World.alloc, Array.size_push]; omega
          case hrest =>
            intro v9 w9 hown9 hg9 _
            obtain ⟨va9, vc9, rfl⟩ := own_slice hown9
            have ga9 : G w6 (w6.alloc (.cells #[.int .i64 zbird, .int .i64 zowner, .int .i64 zrank, .int .i64 zday, .slice (some ⟨g3, 0, none⟩) 1 1] 60)) := (G.rf w6).a _
            have ho3 := own_G HO6.out ga9
            have HB9 := Lib.hid ((HB6.out.keep ga9).grown hg9 (own_ne ho3 (HB6.out.keep ga9) (by decide)))
            have HF9 := Lib.hid ((HFR.out.g (g6.t ga9)).grown hg9 (fun g hg => .inr (by have := own_ge ho3 g hg; have := HS3.out; omega)))
            have HT9 : Hid (∀ g, Blk w6 g 3 #[.int .i64 0] → Blk w9 g 3 #[.int .i64 0]) := fun g hb => (hb.keep ga9).grown hg9 (own_ne ho3 (hb.keep ga9) (by decide))
            have HN9 := Lib.hid hown9
            clear hown9 hg9 ho3 n0 n1 n2 n3 n4 ln m0 l0
            have m0 := HB9.out.cell 0
            have lf := HB9.out.lt
            have fz := HB9.out.frozen 0
            go_wp2
            go_roundw
            case rel => exact ⟨k + 1, .slice va9 (L.length + 1) vc9, L ++ [⟨zbird, zowner, zrank, zday, some ⟨g3, 0, none⟩, 1, [0]⟩], by omega, by go_num, by
              have b := HB9.out.set_ 0 (.slice va9 (L.length + 1) vc9)
              simp only [List.setIfInBounds_toArray, List.set_cons_zero, List.set_cons_succ] at b
              exact b, ⟨by
              rw [List.length_append, rcV_snoc]
              exact HN9.out.kept (grownBy_set _ _ _) (.inr (own_ne HN9.out HB9.out (by decide)).symm), fun y hy => by
              have hfar : ∀ g, Blk w9 g 3 #[.int .i64 0] → Blk (w9.setCell ⟨B + 1, 0, none⟩ (.slice va9 (L.length + 1) vc9)) g 3 #[.int .i64 0] := fun g hb => hb.far (blk_ne hb HB9.out (by decide)) _
              rcases List.mem_append.1 hy with h | h
              · obtain ⟨h1, g, h2, h3⟩ := HAA.out.2 y h
                exact ⟨h1, g, h2, hfar g (HT9.out g (h3.keep g6))⟩
              · obtain rfl : y = _ := List.mem_singleton.1 h
                exact ⟨rfl, g3, rfl, hfar g3 (HT9.out g3 b36)⟩⟩, by
              show _ = _
              rw [HTK2.out, List.map_append, List.map_append, HLL.out]
              rfl, by rw [List.length_append]; exact Nat.add_le_add hLk (Nat.le_refl 1), HF9.out.s (p := ⟨B + 1, 0, none⟩) (.inl rfl) _⟩
            case measure => simp [intOf] <;> omega
      · obtain rfl : k = r.racers.length := by omega
        have hki : ¬ ((r.racers.length : Nat) : Int) < r.racers.length := by omega
        obtain ⟨va, vc, rfl⟩ := own_slice HAA.out.1
        have hLL : L.map rcQ = (r.racers.filter fun x => inL x.pools (pn : Nat)).map rcQ := by have := HLL.out; rw [List.take_length] at this; exact this
        obtain ⟨ho1, ho2, ho3⟩ := HAL.out L hLL (fun y hy => (HAA.out.2 y hy).1) va (some ⟨B, 0, none⟩) vc
        have hbP := HFR.out.blk bP (by omega)
        have hpv := HPO.out wo gwo
        have hoA : (aloneR r (pn : Nat) va (some ⟨B, 0, none⟩) vc L).At wo := by
          have hfn := own_fn HAA.out.1
          refine ⟨⟨hfn.2, fun i hi => ?_⟩, ⟨.inr ⟨B, 0, rfl, hbP.lt, fun i hi r' hr' => ?_⟩, fun i hi => ?_⟩, .inl rfl, by show L.length ≤ 1000; omega, own_cap HAA.out.1, Nat.le_refl _, by show 1 ≤ 1000; decide, by show 0 ≤ 1000; decide, fun i hi => ?_, fun i hi => ?_⟩
          · have hm : L.getD i default ∈ L := by
              have hi' : i < L.length := hi
              rw [List.getD_eq_getElem?_getD, List.getElem?_eq_getElem hi']
              exact List.getElem_mem hi'
            obtain ⟨h1, g, h2, h3⟩ := HAA.out.2 _ hm
            show IntsAt wo (L.getD i default).pa (L.getD i default).pools
            rw [h1, h2]
            exact ints0 h3
          · have hi' : i < 1 := hi
            obtain rfl : i = 0 := by omega
            rw [show (0 + 0 * 6 + r' : Nat) = r' by omega]
            show _ = (poolAt r (pn : Nat)).v[r']?
            rw [← HPP.out]
            exact hbP.cell r'
          · have hi' : i < 1 := hi
            obtain rfl : i = 0 := by omega
            show IntsAt wo (poolAt r (pn : Nat)).ta (poolAt r (pn : Nat)).table
            have := HOO.out wo gwo
            unfold poolAt
            rw [Int.toNat_natCast]
            exact this
          · have hm : L.getD i default ∈ L := by
              have hi' : i < L.length := hi
              rw [List.getD_eq_getElem?_getD, List.getElem?_eq_getElem hi']
              exact List.getElem_mem hi'
            show (L.getD i default).pools.length ≤ 1000
            rw [(HAA.out.2 _ hm).1]
            decide
          · have hi' : i < 1 := hi
            obtain rfl : i = 0 := by omega
            show (poolAt r (pn : Nat)).table.length ≤ 1000
            unfold poolAt
            rw [Int.toNat_natCast]
            exact HBT.out
        have HC2 := Lib.hid (fun (W : World) (hW : G wo W) => prQ0 _ 0 W (hoA.keep hW) (alone_qE ho1))
        have HC4 := Lib.hid (fun (W : World) (hW : G wo W) => potQ0 _ 0 W (hoA.keep hW) (alone_qE ho1))
        rw [← prizesK ho2, ← HPL.out] at HC2
        rw [← potK ho2, HPV.out] at HC4
        have hov : (aloneR r (pn : Nat) va (some ⟨B, 0, none⟩) vc L).v = #[.slice va L.length vc, .slice (some ⟨B, 0, none⟩) 1 1, .slice none 0 0] := rfl
        rw [hov] at HC2 HC4
        have HBO7 := Lib.hid HBO.out
        have HBo := Lib.hid bo
        clear hov hoA ho1 ho2 ho3 hLL hpv hbP HAA HLL HFR HBO m0 l0 bo bP b3
        have m0 := HBo.out.cell 0
        have m1 := HBo.out.cell 1
        have m2 := HBo.out.cell 2
        have l0 := HBo.out.lt
        go_upto_region 12 with (go_at_call 18; refine (HC1.out _ gwo).mono ?_; rintro e w6 ⟨hG6, a1, c1, rfl, hr1⟩)
        have HR1 := Lib.hid hr1
        have n0 := (HBO7.out.keep hG6).cell 0
        have n1 := (HBO7.out.keep hG6).cell 1
        have n2 := (HBO7.out.keep hG6).cell 2
        have ln := (HBO7.out.keep hG6).lt
        clear m0 m1 m2 l0 hr1
        go_upto_region 13 with (go_at_call 18; refine (HC2.out _ hG6).mono ?_; rintro e w7 ⟨hG7, a2, c2, rfl, hr2⟩)
        have HR2 := Lib.hid hr2
        have g07 := hG6.t hG7
        have gw7 := gwo.t g07
        have m0 := (HBo.out.keep g07).cell 0
        have m1 := (HBo.out.keep g07).cell 1
        have m2 := (HBo.out.keep g07).cell 2
        have l0 := (HBo.out.keep g07).lt
        clear n0 n1 n2 ln hr2
        go_upto_region 14 with (go_at_call 17; refine (HC3.out _ gw7).mono ?_; rintro e w8 ⟨hG8, rfl⟩)
        have HBW := Lib.hid (Blk.new w8 33 #[.int .i64 t1, .int .i64 t2, .int .i64 t3, .int .i64 t4])
        have g78 := (hG7.t hG8).a (.cells #[.int .i64 t1, .int .i64 t2, .int .i64 t3, .int .i64 t4] 33)
        have HR12 := Lib.hid (HR1.out.below g78)
        have HR22 := Lib.hid (HR2.out.below (hG8.a (.cells #[.int .i64 t1, .int .i64 t2, .int .i64 t3, .int .i64 t4] 33)))
        have g68 := hG6.t g78
        have gw8 := gwo.t g68
        have n0 := (HBO7.out.keep g68).cell 0
        have n1 := (HBO7.out.keep g68).cell 1
        have n2 := (HBO7.out.keep g68).cell 2
        have ln := (HBO7.out.keep g68).lt
        clear m0 m1 m2 l0 HR1 HR2 hG8 hG7 hG6 g78 g07 gw7
        obtain ⟨K1, hK1⟩ : ∃ K1, K1 = w8.heap.size := ⟨_, rfl⟩
        change Code.wp _ _ _ _ (w8.alloc (.cells #[.int .i64 t1, .int .i64 t2, .int .i64 t3, .int .i64 t4] 33))
        rw [← hK1] at HBW ⊢
        clear hK1
        generalize w8.alloc (.cells #[.int .i64 t1, .int .i64 t2, .int .i64 t3, .int .i64 t4] 33) = w9 at *
        go_upto_region 15 with (go_at_call 17; refine (HC4.out _ g68).mono ?_; rintro e w10 ⟨hG10, rfl⟩)
        have HBX := Lib.hid (Blk.new w10 33 #[.int .i64 t1, .int .i64 t2, .int .i64 t3, .int .i64 t4])
        have gA := hG10.a (.cells #[.int .i64 t1, .int .i64 t2, .int .i64 t3, .int .i64 t4] 33)
        have HBW2 := Lib.hid (HBW.out.keep gA)
        have HR13 := Lib.hid (HR12.out.below gA)
        have HR23 := Lib.hid (HR22.out.below gA)
        have gw10 := gw8.t gA
        clear n0 n1 n2 ln HBW HR12 HR22 g68 gw8 gA hG10
        obtain ⟨K2, hK2⟩ : ∃ K2, K2 = w10.heap.size := ⟨_, rfl⟩
        change Code.wp _ _ _ _ (w10.alloc (.cells #[.int .i64 t1, .int .i64 t2, .int .i64 t3, .int .i64 t4] 33))
        rw [← hK2] at HBX ⊢
        clear hK2
        generalize w10.alloc (.cells #[.int .i64 t1, .int .i64 t2, .int .i64 t3, .int .i64 t4] 33) = w11 at *
        have HSM := Lib.hid (same26_any PL a1 a2 c1 c2 w11 HR13.out HR23.out hPLn)
        go_wp2_with (first | (go_at_call 26; refine HSM.out.mono ?_; rintro e w12 ⟨rfl, hG12⟩; have m0 := (HBW2.out.keep hG12).cell 0; have m1 := (HBW2.out.keep hG12).cell 1; have m2 := (HBW2.out.keep hG12).cell 2; have m3 := (HBW2.out.keep hG12).cell 3; have l0 := (HBW2.out.keep hG12).lt; have n0 := (HBX.out.keep hG12).cell 0; have n1 := (HBX.out.keep hG12).cell 1; have n2 := (HBX.out.keep hG12).cell 2; have n3 := (HBX.out.keep hG12).cell 3; have ln := (HBX.out.keep hG12).lt) | (go_at_call 15; refine (HWK.out _).mono ?_; rintro e w13 ⟨rfl, hG13⟩))
        have gz := (gw10.t hG12).t hG13
        first | exact ⟨rfl, gz⟩ | (go_ret; exact ⟨rfl, gz⟩)
end Go.Proofs.YtnkmcoljijmgpaaGreat
