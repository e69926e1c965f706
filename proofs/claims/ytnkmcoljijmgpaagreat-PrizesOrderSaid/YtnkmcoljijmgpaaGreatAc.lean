import Derived.Test.YtnkmcoljijmgpaaGreatAb
set_option linter.unusedSimpArgs false
set_option linter.unusedVariables false
namespace Go.Proofs.YtnkmcoljijmgpaaGreat
open Go.RowKit Go.Shelf
attribute [local go_sem] Oper.semAt_some
theorem isPool_any (r : Ra) (n : Int) (w : World) (hp : r.pools.length ≤ 1000) : Calls Tryz.prog 70 #[.agg r.v, .int .i64 n] w fun e w' => e = .returned (.bool (isInB n 0 ((r.pools.length : Int) - 1))) ∧ G w w' := by
  obtain ⟨ra, rc, racers, pa, pc, pools, ta, tc, protests⟩ := r
  unfold Ra.v
  dsimp only at *
  have HI := Lib.hid (fun (W : World) => isIn_any n 0 ((pools.length : Int) - 1) W)
  have x1 : IntKind.i64.wrap ((pools.length : Int) - 1) = (pools.length : Int) - 1 := IntWalk.i64_in _ (by omega)
  have g0 : G w (w.alloc (.cells #[.slice ra racers.length rc, .slice pa pools.length pc, .slice ta protests.length tc] 26)) := (G.rf _).a _
  go_enter Tryz.func70, Tryz.ntmps70
  go_wp2_with (go_at_call 94; refine (HI.out _).mono ?_; rintro e w1 ⟨rfl, hG1⟩)
  go_ret
  exact ⟨rfl, g0.t hG1⟩
theorem in150 (r : Ra) (n : Int) (B : Nat) (W : World) (hp : r.pools.length ≤ 1000) (hB : Blk W B 26 r.v) : Calls Tryz.prog 150 #[.int .i64 n, .pointer (some ⟨B, 0, none⟩)] W fun e w' => e = .returned (.bool (isInB n 0 ((r.pools.length : Int) - 1))) ∧ G W w' := by
  have HI := Lib.hid (isPool_any r n W hp)
  generalize isInB n 0 ((r.pools.length : Int) - 1) = A at *
  obtain ⟨ra, rc, racers, pa, pc, pools, ta, tc, protests⟩ := r
  unfold Ra.v at *
  have m0 := hB.cell 0; have m1 := hB.cell 1; have m2 := hB.cell 2
  have l0 := hB.lt
  go_enter Tryz.func150, Tryz.ntmps150
  go_wp2_with (go_at_call 70; refine (HI.out).mono ?_; rintro e w1 ⟨rfl, hG1⟩)
  go_ret
  exact ⟨rfl, hG1⟩
theorem has93 (r : Ra) (b : Int) (B : Nat) (W : World) (h : RowE Rc.v 5 W r.ra r.racers) (hl : r.racers.length ≤ 1000) (hB : Blk W B 26 r.v) : Calls Tryz.prog 93 #[.int .i64 b, .pointer (some ⟨B, 0, none⟩)] W fun e w' => e = .returned (.bool (hasB r.racers b)) ∧ G W w' := by
  have HI := Lib.hid (has_any r.racers r.ra r.rc b W h hl)
  generalize hasB r.racers b = A at *
  obtain ⟨ra, rc, racers, pa, pc, pools, ta, tc, protests⟩ := r
  unfold Ra.v at *
  dsimp only at *
  have m0 := hB.cell 0
  have l0 := hB.lt
  clear h
  go_enter Tryz.func93, Tryz.ntmps93
  go_wp2_with (go_at_call 73; refine (HI.out).mono ?_; rintro e w1 ⟨rfl, hG1⟩)
  go_ret
  exact ⟨rfl, hG1⟩
def racerB (np : Nat) (x : Rc) : Bool := isInB x.bird 0 9999 && (isInB x.owner 0 99 && (rankB x && (ascB x.pools && allU (fun i => isInB (x.pools.getD i 0) 0 ((np : Int) - 1)) x.pools.length)))
set_option maxHeartbeats 4000000 in
theorem racer_any (r : Ra) (x : Rc) (w : World) (h : IntsAt w x.pa x.pools) (hl : x.pools.length ≤ 1000) (hp : r.pools.length ≤ 1000) : Calls Tryz.prog 116 #[.agg r.v, .agg x.v] w fun e w' => e = .returned (.bool (racerB r.pools.length x)) ∧ G w w' := by
  have HB := Lib.hid (fun (W : World) => isIn_any x.bird 0 9999 W)
  have HO := Lib.hid (fun (W : World) => isIn_any x.owner 0 99 W)
  have HR := Lib.hid (fun (W : World) => rank_any x W)
  have HA := Lib.hid (fun (W : World) (hW : G w W) => asc_any x.pools x.pa x.pc W (h.below hW) hl)
  have HE := Lib.hid (fun (W : World) (hW : G w W) (hB : Blk W w.heap.size 26 r.v) => eachInt_any 150 (enters_of Tryz.func150 (by kernel_rfl) rfl) #[.pointer (some ⟨w.heap.size, 0, none⟩)] W x.pa x.pc x.pools (fun i => isInB (x.pools.getD i 0) 0 ((r.pools.length : Int) - 1)) hl (h.below hW) (fun W' hW' i _ => in150 r _ w.heap.size W' hp (hB.keep hW')))
  clear h
  unfold racerB
  generalize rankB x = C at *
  generalize ascB x.pools = D at *
  generalize allU (fun i => isInB (x.pools.getD i 0) 0 ((r.pools.length : Int) - 1)) x.pools.length = E at *
  generalize isInB x.bird 0 9999 = A at *
  generalize isInB x.owner 0 99 = B at *
  obtain ⟨ra, rc, racers, pa, pc, pools, ta, tc, protests⟩ := r
  obtain ⟨ybird, yowner, yrank, yday, ypa, ypc, ypools⟩ := x
  unfold Ra.v Rc.v at *
  dsimp only at *
  have g0 : G w ((w.alloc (.cells #[.slice ra racers.length rc, .slice pa pools.length pc, .slice ta protests.length tc] 26)).alloc (.cells #[.int .i64 ybird, .int .i64 yowner, .int .i64 yrank, .int .i64 yday, .slice ypa ypools.length ypc] 60)) := ((G.rf _).a _).a _
  have b0 : Blk ((w.alloc (.cells #[.slice ra racers.length rc, .slice pa pools.length pc, .slice ta protests.length tc] 26)).alloc (.cells #[.int .i64 ybird, .int .i64 yowner, .int .i64 yrank, .int .i64 yday, .slice ypa ypools.length ypc] 60)) w.heap.size 26 #[.slice ra racers.length rc, .slice pa pools.length pc, .slice ta protests.length tc] := (Blk.new w _ _).alloc _
  have d0 : Blk ((w.alloc (.cells #[.slice ra racers.length rc, .slice pa pools.length pc, .slice ta protests.length tc] 26)).alloc (.cells #[.int .i64 ybird, .int .i64 yowner, .int .i64 yrank, .int .i64 yday, .slice ypa ypools.length ypc] 60)) (w.heap.size + 1) 60 #[.int .i64 ybird, .int .i64 yowner, .int .i64 yrank, .int .i64 yday, .slice ypa ypools.length ypc] := Blk.new1 w _ 60 _
  have key : A = false ∨ (A = true ∧ B = false) ∨ (A = true ∧ B = true ∧ C = false) ∨ (A = true ∧ B = true ∧ C = true ∧ D = false) ∨ (A = true ∧ B = true ∧ C = true ∧ D = true) := by
    cases A <;> cases B <;> cases C <;> cases D <;> simp
  rcases key with rfl | ⟨rfl, rfl⟩ | ⟨rfl, rfl, rfl⟩ | ⟨rfl, rfl, rfl, rfl⟩ | ⟨rfl, rfl, rfl, rfl⟩
  all_goals
    go_enter Tryz.func116, Tryz.ntmps116
    go_wp2_with (first | (go_at_call 94; refine (HB.out _).mono ?_; rintro e w1 ⟨rfl, hG1⟩; clear HB; replace b0 := b0.keep hG1; replace d0 := d0.keep hG1; replace g0 := g0.t hG1; clear hG1; have m0 := b0.cell 0; have m1 := b0.cell 1; have m2 := b0.cell 2; have n0 := d0.cell 0; have n1 := d0.cell 1; have n2 := d0.cell 2; have n3 := d0.cell 3; have n4 := d0.cell 4; have l0 := b0.lt; have l1 := d0.lt) | (go_at_call 94; refine (HO.out _).mono ?_; rintro e w2 ⟨rfl, hG1⟩; clear HO; clear m0 m1 m2 n0 n1 n2 n3 n4 l0 l1; replace b0 := b0.keep hG1; replace d0 := d0.keep hG1; replace g0 := g0.t hG1; clear hG1; have m0 := b0.cell 0; have m1 := b0.cell 1; have m2 := b0.cell 2; have n0 := d0.cell 0; have n1 := d0.cell 1; have n2 := d0.cell 2; have n3 := d0.cell 3; have n4 := d0.cell 4; have l0 := b0.lt; have l1 := d0.lt) | (go_at_call 149; refine (HR.out _).mono ?_; rintro e w3 ⟨rfl, hG1⟩; clear m0 m1 m2 n0 n1 n2 n3 n4 l0 l1; replace b0 := b0.keep hG1; replace d0 := d0.keep hG1; replace g0 := g0.t hG1; clear hG1; have m0 := b0.cell 0; have m1 := b0.cell 1; have m2 := b0.cell 2; have n0 := d0.cell 0; have n1 := d0.cell 1; have n2 := d0.cell 2; have n3 := d0.cell 3; have n4 := d0.cell 4; have l0 := b0.lt; have l1 := d0.lt) | (go_at_call 92; refine (HA.out _ g0).mono ?_; rintro e w4 ⟨rfl, hG1⟩; clear m0 m1 m2 n0 n1 n2 n3 n4 l0 l1; replace b0 := b0.keep hG1; replace d0 := d0.keep hG1; replace g0 := g0.t hG1; clear hG1; have m0 := b0.cell 0; have m1 := b0.cell 1; have m2 := b0.cell 2; have n0 := d0.cell 0; have n1 := d0.cell 1; have n2 := d0.cell 2; have n3 := d0.cell 3; have n4 := d0.cell 4; have l0 := b0.lt; have l1 := d0.lt) | (go_at_call 71; refine (HE.out _ g0 b0).mono ?_; rintro e w5 ⟨rfl, hG1⟩; replace g0 := g0.t hG1; clear hG1))
    go_ret
    exact ⟨rfl, g0⟩
/-- the first racers of a row -/
theorem RowE.take {α : Type} [Inhabited α] {v : α → Array Value} {k : Nat} {W : World} {a : Option Addr} {l : List α} (h : RowE v k W a l) (i : Nat) : RowE v k W a (l.take i) := by
  rcases h with h | ⟨g, off, h1, h2, h3⟩
  · exact .inl (by rw [List.length_take]; omega)
  · refine .inr ⟨g, off, h1, h2, fun j hj r hr => ?_⟩
    rw [List.length_take] at hj
    have e : (l.take i).getD j default = l.getD j default := by
      rw [List.getD_eq_getElem?_getD, List.getD_eq_getElem?_getD, List.getElem?_take_of_lt (by omega)]
    rw [e]
    exact h3 j (by omega) r hr
def racersB (r : Ra) : Bool := decide (r.racers.length ≤ 12) && allU (fun i => !hasB (r.racers.take i) (r.racers.getD i default).bird && racerB r.pools.length (r.racers.getD i default)) r.racers.length
set_option maxRecDepth 100000 in
set_option maxHeartbeats 8000000 in
theorem racers_any (r : Ra) (w : World) (h : r.At w) : Calls Tryz.prog 91 #[.agg r.v] w fun e w' => e = .returned (.bool (racersB r)) ∧ G w w' := by
  have HH := Lib.hid (fun (i : Nat) (hi : i < r.racers.length) (W : World) (hW : G w W) (cap : Nat) => has_any (r.racers.take i) r.ra cap (r.racers.getD i default).bird W ((h.rs.below hW).row.take i) (by rw [List.length_take]; have := h.nr; omega))
  have HX := Lib.hid (fun (i : Nat) (hi : i < r.racers.length) (W : World) (hW : G w W) => racer_any r (r.racers.getD i default) W ((h.rs.below hW).pools i hi) (h.nq i hi) h.np)
  have hrow := h.rs.row
  have hnr := h.nr
  have hcr := h.cr
  have HT : Hid (r.racers.length ≤ 12 → (∀ i, i < r.racers.length → (!hasB (r.racers.take i) (r.racers.getD i default).bird && racerB r.pools.length (r.racers.getD i default)) = true) → racersB r = true) := fun a b => by
    unfold racersB
    rw [decide_eq_true a, allU_iff.2 b]
    rfl
  have HF : Hid (∀ i, i < r.racers.length → (!hasB (r.racers.take i) (r.racers.getD i default).bird && racerB r.pools.length (r.racers.getD i default)) = false → racersB r = false) := fun i hi hb => by
    unfold racersB
    cases hv : allU (fun i => !hasB (r.racers.take i) (r.racers.getD i default).bird && racerB r.pools.length (r.racers.getD i default)) r.racers.length
    · simp
    · rw [allU_iff.1 hv i hi] at hb; cases hb
  have HN : Hid (12 < r.racers.length → racersB r = false) := fun a => by
    unfold racersB
    rw [decide_eq_false (by omega)]
    rfl
  clear h
  generalize racersB r = RES at *
  obtain ⟨hasF, hhas⟩ : ∃ hasF : Nat → Bool, hasF = fun i => hasB (r.racers.take i) (r.racers.getD i default).bird := ⟨_, rfl⟩
  obtain ⟨okF, hok⟩ : ∃ okF : Nat → Bool, okF = fun i => racerB r.pools.length (r.racers.getD i default) := ⟨_, rfl⟩
  have HH2 : Hid (∀ (i : Nat) (hi : i < r.racers.length) (W : World) (hW : G w W) (cap : Nat), Calls Tryz.prog 73 #[.slice r.ra i cap, .int .i64 (r.racers.getD i default).bird] W fun e w' => e = .returned (.bool (hasF i)) ∧ G W w') := fun i hi W hW cap => by
    have := HH.out i hi W hW cap
    rw [List.length_take, Nat.min_eq_left (by omega)] at this
    rw [hhas]
    exact this
  have HX2 : Hid (∀ (i : Nat) (hi : i < r.racers.length) (W : World) (hW : G w W), Calls Tryz.prog 116 #[.agg r.v, .agg (r.racers.getD i default).v] W fun e w' => e = .returned (.bool (okF i)) ∧ G W w') := fun i hi W hW => by
    rw [hok]
    exact HX.out i hi W hW
  have HT2 : Hid (r.racers.length ≤ 12 → (∀ i, i < r.racers.length → (!hasF i && okF i) = true) → RES = true) := by rw [hhas, hok]; exact HT
  have HF2 : Hid (∀ i, i < r.racers.length → (!hasF i && okF i) = false → RES = false) := by rw [hhas, hok]; exact HF
  clear HH HX HT HF hhas hok
  obtain ⟨ra, rc, racers, pa, pc, pools, ta, tc, protests⟩ := r
  unfold Ra.v at *
  dsimp only at *
  have g0 : G w (w.alloc (.cells #[.slice ra racers.length rc, .slice pa pools.length pc, .slice ta protests.length tc] 26)) := (G.rf _).a _
  have b0 : Blk (w.alloc (.cells #[.slice ra racers.length rc, .slice pa pools.length pc, .slice ta protests.length tc] 26)) w.heap.size 26 #[.slice ra racers.length rc, .slice pa pools.length pc, .slice ta protests.length tc] := Blk.new _ _ _
  by_cases h12 : 12 < racers.length
  · have t1 : (12 : Int) < racers.length := by omega
    have HZ := Lib.hid (HN.out h12)
    go_enter Tryz.func91, Tryz.ntmps91
    go_wp2_with fail
    go_ret
    exact ⟨by rw [HZ.out]; rfl, g0⟩
  have t1 : ¬ (12 : Int) < racers.length := by omega
  go_enter Tryz.func91, Tryz.ntmps91
  go_upto_region 3 with fail
  change Code.wp _ _ _ _ (w.alloc (.cells #[.slice ra racers.length rc, .slice pa pools.length pc, .slice ta protests.length tc] 26))
  generalize w.alloc (.cells #[.slice ra racers.length rc, .slice pa pools.length pc, .slice ta protests.length tc] 26) = w1 at *
  have m0 := b0.cell 0
  have lb := b0.lt
  go_wp2_with fail
  clear m0 lb
  go_loopw [12] (fun i wr => ∃ k : Nat, k ≤ racers.length ∧ i = .int .i64 k ∧ Hid (∀ j, j < k → (!hasF j && okF j) = true) ∧ G w1 wr) (fun i _ => racers.length - (intOf i).toNat)
  case atStart => exact ⟨0, Nat.zero_le _, rfl, fun j hj => by omega, G.rf _⟩
  case round =>
    obtain ⟨k, hk, rfl, hno, hG⟩ := hrel
    obtain ⟨wo, rfl⟩ : ∃ wo, wo = wr := ⟨_, rfl⟩
    by_cases hlt : k < racers.length
    · have hki : (k : Int) < racers.length := by omega
      rcases hrow with h | ⟨g, off, rfl, hg, hcell⟩
      · omega
      have lg := Nat.lt_of_lt_of_le hg (g0.t hG).size
      have hcl := fun r hr => ((bcellB (g0.t hG)).1 g _ hg).trans (hcell k hlt r hr)
      have HH3 := Lib.hid (HH2.out k hlt)
      have HX3 := Lib.hid (HX2.out k hlt)
      have HF3 := Lib.hid (HF2.out k hlt)
      obtain ⟨y, hy⟩ : ∃ y, y = racers.getD k default := ⟨_, rfl⟩
      rw [← hy] at hcl HH3 HX3
      clear hy hcell
      obtain ⟨ybird, yowner, yrank, yday, ypa, ypc, ypools⟩ := y
      unfold Rc.v at hcl HX3
      dsimp only at HH3
      have q0 : wo.cell? ⟨g, off + k * 5, none⟩ = some (.int .i64 ybird) := hcl 0 (by omega)
      have q1 : wo.cell? ⟨g, off + k * 5 + 1, none⟩ = some (.int .i64 yowner) := hcl 1 (by omega)
      have q2 : wo.cell? ⟨g, off + k * 5 + 2, none⟩ = some (.int .i64 yrank) := hcl 2 (by omega)
      have q3 : wo.cell? ⟨g, off + k * 5 + 3, none⟩ = some (.int .i64 yday) := hcl 3 (by omega)
      have q4 : wo.cell? ⟨g, off + k * 5 + 4, none⟩ = some (.slice ypa ypools.length ypc) := hcl 4 (by omega)
      clear hcl
      go_upto_region 6 with fail
      have b1 := b0.keep hG
      have hgo : G w1 (wo.alloc (.cells #[.int .i64 ybird, .int .i64 yowner, .int .i64 yrank, .int .i64 yday, .slice ypa ypools.length ypc] 60)) := hG.a _
      have bx : Blk (wo.alloc (.cells #[.int .i64 ybird, .int .i64 yowner, .int .i64 yrank, .int .i64 yday, .slice ypa ypools.length ypc] 60)) wo.heap.size 60 #[.int .i64 ybird, .int .i64 yowner, .int .i64 yrank, .int .i64 yday, .slice ypa ypools.length ypc] := Blk.new _ _ _
      have bb := b0.keep hgo
      clear q0 q1 q2 q3 q4 lg
      change Code.wp _ _ _ _ (wo.alloc (.cells #[.int .i64 ybird, .int .i64 yowner, .int .i64 yrank, .int .i64 yday, .slice ypa ypools.length ypc] 60))
      obtain ⟨gx, hgx⟩ : ∃ gx, gx = wo.heap.size := ⟨_, rfl⟩
      rw [← hgx] at bx ⊢
      clear hgx
      generalize wo.alloc (.cells #[.int .i64 ybird, .int .i64 yowner, .int .i64 yrank, .int .i64 yday, .slice ypa ypools.length ypc] 60) = w2 at *
      have hSk : ∀ W', G w2 W' → ((W'.cell? ⟨w.heap.size, 0, none⟩ = some (.slice (some ⟨g, off, none⟩) racers.length rc) ∧ W'.cell? ⟨w.heap.size, 1, none⟩ = some (.slice pa pools.length pc) ∧ W'.cell? ⟨w.heap.size, 2, none⟩ = some (.slice ta protests.length tc)) ∧ Blk W' gx 60 #[.int .i64 ybird, .int .i64 yowner, .int .i64 yrank, .int .i64 yday, .slice ypa ypools.length ypc]) := fun W' hW => ⟨⟨(bb.keep hW).cell 0, (bb.keep hW).cell 1, (bb.keep hW).cell 2⟩, bx.keep hW⟩
      refine wp_region_Y (S := fun W' => (W'.cell? ⟨w.heap.size, 0, none⟩ = some (.slice (some ⟨g, off, none⟩) racers.length rc) ∧ W'.cell? ⟨w.heap.size, 1, none⟩ = some (.slice pa pools.length pc) ∧ W'.cell? ⟨w.heap.size, 2, none⟩ = some (.slice ta protests.length tc)) ∧ Blk W' gx 60 #[.int .i64 ybird, .int .i64 yowner, .int .i64 yrank, .int .i64 yday, .slice ypa ypools.length ypc]) 12 13 rfl (by kernel_rfl) (hSk _ (G.rf _).d) (fun hS => ?_)
      have ga := (G.rf w2).d
      refine wpAnyY_take (i := 0) (v := ?_) rfl (by kernel_rfl) (by kernel_rfl) (by kernel_rfl) (by kernel_rfl) (fun _ _ _ h => h) (Or.inl ⟨by kernel_rfl, ?_⟩) hS ?_
      rotate_left
      · intro w' hSw; obtain ⟨⟨s0, s1, s2⟩, hx⟩ := hSw; go_simp; with_reducible rfl
      try simp only [Act.put, List.getElem_toArray, List.getElem_cons_zero, List.getElem_cons_succ, List.setIfInBounds_toArray, List.set_cons_zero, List.set_cons_succ]
      refine wpAnyY_take (i := 1) (v := ?_) rfl (by kernel_rfl) (by kernel_rfl) (by kernel_rfl) (by kernel_rfl) (fun _ _ _ h => h) (Or.inl ⟨by kernel_rfl, ?_⟩) hS ?_
      rotate_left
      · intro w' hSw; obtain ⟨⟨s0, s1, s2⟩, hx⟩ := hSw; go_simp; with_reducible rfl
      try simp only [Act.put, List.getElem_toArray, List.getElem_cons_zero, List.getElem_cons_succ, List.setIfInBounds_toArray, List.set_cons_zero, List.set_cons_succ]
      refine wpAnyY_take (i := 2) (v := ?_) rfl (by kernel_rfl) (by kernel_rfl) (by kernel_rfl) (by kernel_rfl) (fun _ _ _ h => h) (Or.inl ⟨by kernel_rfl, ?_⟩) hS ?_
      rotate_left
      · intro w' hSw; go_simp; with_reducible rfl
      try simp only [Act.put, List.getElem_toArray, List.getElem_cons_zero, List.getElem_cons_succ, List.setIfInBounds_toArray, List.set_cons_zero, List.set_cons_succ]
      refine wpAnyY_take (i := 4) (v := ?_) rfl (by kernel_rfl) (by kernel_rfl) (by kernel_rfl) (by kernel_rfl) (fun _ _ _ h => h) (Or.inl ⟨by kernel_rfl, ?_⟩) hS ?_
      rotate_left
      · intro w' hSw; go_simp; with_reducible rfl
      try simp only [Act.put, List.getElem_toArray, List.getElem_cons_zero, List.getElem_cons_succ, List.setIfInBounds_toArray, List.set_cons_zero, List.set_cons_succ]
      refine wpAnyY_take (i := 5) (v := ?_) rfl (by kernel_rfl) (by kernel_rfl) (by kernel_rfl) (by kernel_rfl) (fun _ _ _ h => h) (Or.inl ⟨by kernel_rfl, ?_⟩) hS ?_
      rotate_left
      · intro w' hSw; have n0 := hSw.2.cell 0; have ln := hSw.2.lt; go_simp; with_reducible rfl
      try simp only [Act.put, List.getElem_toArray, List.getElem_cons_zero, List.getElem_cons_succ, List.setIfInBounds_toArray, List.set_cons_zero, List.set_cons_succ]
      have hkc : (k : Int) ≤ rc := by omega
      have hkc2 : k ≤ rc := by omega
      refine wpAnyY_oneSW (i := 3) (by kernel_rfl) rfl (by kernel_rfl) (fun K3 hK3 => ?_)
      go_simp
      refine hK3.out _ _ (hSk _ ga) (fun hS => ?_)
      clear hK3
      try simp only [Act.put, List.getElem_toArray, List.getElem_cons_zero, List.getElem_cons_succ, List.setIfInBounds_toArray, List.set_cons_zero, List.set_cons_succ]
      refine wpAnyY_oneSW (i := 6) (by kernel_rfl) rfl (by kernel_rfl) (fun K6 hK6 => ?_)
      go_simp
      refine (HH3.out _ (g0.t (hgo.t ga)) _).mono ?_
      rintro e w3 ⟨rfl, hG3⟩
      replace ga := ga.t hG3
      refine hK6.out _ _ (hSk _ ga) (fun hS => ?_)
      clear hK6
      try simp only [Act.put, List.getElem_toArray, List.getElem_cons_zero, List.getElem_cons_succ, List.setIfInBounds_toArray, List.set_cons_zero, List.set_cons_succ]
      refine wpAnyY_take (i := 7) (v := ?_) rfl (by kernel_rfl) (by kernel_rfl) (by kernel_rfl) (by kernel_rfl) (fun _ _ _ h => h) (Or.inl ⟨by kernel_rfl, ?_⟩) hS ?_
      rotate_left
      · intro w' hSw; go_simp; with_reducible rfl
      try simp only [Act.put, List.getElem_toArray, List.getElem_cons_zero, List.getElem_cons_succ, List.setIfInBounds_toArray, List.set_cons_zero, List.set_cons_succ]
      obtain ⟨hv, hhv⟩ : ∃ hv, hv = hasF k := ⟨_, rfl⟩
      obtain ⟨ov, hov⟩ : ∃ ov, ov = okF k := ⟨_, rfl⟩
      have HKV : Hid ((!hasF k && okF k) = (!hv && ov)) := by rw [hhv, hov]; rfl
      have HX4 := Lib.hid HX3.out
      rw [← hov] at HX4
      rw [← hhv]
      clear hhv hov HX3 HH3
      cases hv
      ·
        refine wpAnyY_take (i := 8) (v := ?_) rfl (by kernel_rfl) (by kernel_rfl) (by kernel_rfl) (by kernel_rfl) (fun _ _ _ h => h) (Or.inl ⟨by kernel_rfl, ?_⟩) hS ?_
        rotate_left
        · intro w' hSw; obtain ⟨⟨s0, s1, s2⟩, hx⟩ := hSw; go_simp; with_reducible rfl
        try simp only [Act.put, List.getElem_toArray, List.getElem_cons_zero, List.getElem_cons_succ, List.setIfInBounds_toArray, List.set_cons_zero, List.set_cons_succ]
        refine wpAnyY_take (i := 9) (v := ?_) rfl (by kernel_rfl) (by kernel_rfl) (by kernel_rfl) (by kernel_rfl) (fun _ _ _ h => h) (Or.inl ⟨by kernel_rfl, ?_⟩) hS ?_
        rotate_left
        · intro w' hSw; have n0 := hSw.2.cell 0; have n1 := hSw.2.cell 1; have n2 := hSw.2.cell 2; have n3 := hSw.2.cell 3; have n4 := hSw.2.cell 4; go_simp; with_reducible rfl
        try simp only [Act.put, List.getElem_toArray, List.getElem_cons_zero, List.getElem_cons_succ, List.setIfInBounds_toArray, List.set_cons_zero, List.set_cons_succ]
        refine wpAnyY_oneSW (i := 10) (by kernel_rfl) rfl (by kernel_rfl) (fun K10 hK10 => ?_)
        go_simp
        refine (HX4.out _ (g0.t (hgo.t ga))).mono ?_
        rintro e w4 ⟨rfl, hG4⟩
        replace ga := ga.t hG4
        refine hK10.out _ _ (hSk _ ga) (fun hS => ?_)
        clear hK10
        try simp only [Act.put, List.getElem_toArray, List.getElem_cons_zero, List.getElem_cons_succ, List.setIfInBounds_toArray, List.set_cons_zero, List.set_cons_succ]
        refine wpAnyY_take (i := 11) (v := ?_) rfl (by kernel_rfl) (by kernel_rfl) (by kernel_rfl) (by kernel_rfl) (fun _ _ _ h => h) (Or.inl ⟨by kernel_rfl, ?_⟩) hS ?_
        rotate_left
        · intro w' hSw; go_simp; with_reducible rfl
        try simp only [Act.put, List.getElem_toArray, List.getElem_cons_zero, List.getElem_cons_succ, List.setIfInBounds_toArray, List.set_cons_zero, List.set_cons_succ]
        refine wpAnyY_oneW (i := 12) (by kernel_rfl) rfl (by kernel_rfl) (by kernel_rfl) (fun K12 hK12 => ?_)
        go_simp
        refine hK12.out _ _ ?_
        clear hK12
        try simp only [Act.put, List.getElem_toArray, List.getElem_cons_zero, List.getElem_cons_succ, List.setIfInBounds_toArray, List.set_cons_zero, List.set_cons_succ]
        refine wpAnyY_done (by kernel_rfl) ?_ _
        clear hS hSk HX4
        cases ov
        · have HZ := Lib.hid (HF3.out (by rw [HKV.out]; rfl))
          go_wp2_with fail
          go_ret
          exact ⟨by rw [HZ.out]; rfl, g0.t (hgo.t ga)⟩
        · clear HF3
          go_wp2_with fail
          go_roundw
          case rel => exact ⟨k + 1, by omega, by go_num, fun j hj => by
            rcases Nat.lt_or_ge j k with h | h
            · exact hno.out j h
            · obtain rfl : j = k := by omega
              rw [HKV.out]; rfl, hgo.t ga⟩
          case measure => simp [intOf] <;> omega
      ·
        refine wpAnyY_take (i := 8) (v := undef) rfl (by kernel_rfl) (by kernel_rfl) (by kernel_rfl) (by kernel_rfl) (fun _ _ _ h => h) (Or.inr ⟨by kernel_rfl, rfl⟩) hS ?_
        try simp only [Act.put, List.getElem_toArray, List.getElem_cons_zero, List.getElem_cons_succ, List.setIfInBounds_toArray, List.set_cons_zero, List.set_cons_succ]
        refine wpAnyY_take (i := 9) (v := undef) rfl (by kernel_rfl) (by kernel_rfl) (by kernel_rfl) (by kernel_rfl) (fun _ _ _ h => h) (Or.inr ⟨by kernel_rfl, rfl⟩) hS ?_
        try simp only [Act.put, List.getElem_toArray, List.getElem_cons_zero, List.getElem_cons_succ, List.setIfInBounds_toArray, List.set_cons_zero, List.set_cons_succ]
        refine wpAnyY_take (i := 10) (v := undef) rfl (by kernel_rfl) (by kernel_rfl) (by kernel_rfl) (by kernel_rfl) (fun _ _ _ h => h) (Or.inr ⟨by kernel_rfl, rfl⟩) hS ?_
        try simp only [Act.put, List.getElem_toArray, List.getElem_cons_zero, List.getElem_cons_succ, List.setIfInBounds_toArray, List.set_cons_zero, List.set_cons_succ]
        refine wpAnyY_take (i := 11) (v := undef) rfl (by kernel_rfl) (by kernel_rfl) (by kernel_rfl) (by kernel_rfl) (fun _ _ _ h => h) (Or.inr ⟨by kernel_rfl, rfl⟩) hS ?_
        try simp only [Act.put, List.getElem_toArray, List.getElem_cons_zero, List.getElem_cons_succ, List.setIfInBounds_toArray, List.set_cons_zero, List.set_cons_succ]
        refine wpAnyY_oneW (i := 12) (by kernel_rfl) rfl (by kernel_rfl) (by kernel_rfl) (fun K12 hK12 => ?_)
        go_simp
        refine hK12.out _ _ ?_
        clear hK12
        try simp only [Act.put, List.getElem_toArray, List.getElem_cons_zero, List.getElem_cons_succ, List.setIfInBounds_toArray, List.set_cons_zero, List.set_cons_succ]
        refine wpAnyY_done (by kernel_rfl) ?_ _
        clear hS hSk HX4
        have HZ := Lib.hid (HF3.out (by rw [HKV.out]; rfl))
        go_wp2_with fail
        go_ret
        exact ⟨by rw [HZ.out]; rfl, g0.t (hgo.t ga)⟩
    · obtain rfl : k = racers.length := by omega
      have hki : ¬ ((racers.length : Nat) : Int) < racers.length := by omega
      have HZ := Lib.hid (HT2.out (by omega) hno.out)
      go_wp2_with fail
      go_ret
      exact ⟨by rw [HZ.out]; rfl, g0.t hG⟩
end Go.Proofs.YtnkmcoljijmgpaaGreat
