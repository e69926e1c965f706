import Derived.Test.YtnkmcoljijmgpaaGreatAm
set_option linter.unusedSimpArgs false
set_option linter.unusedVariables false
namespace Go.Proofs.YtnkmcoljijmgpaaGreat
open Go.RowKit Go.Shelf Go.Sort
attribute [local go_sem] Oper.semAt_some
theorem wpAnyY_twoSW {P : Program} {ops : Array Oper} {md : Region.Mode} {Q : Exit → Act → World → Prop} {S : World → Prop} {z : Nat} {i j : Nat} {oi oj : Oper} {fuel : Nat} {l : Array Bool} {a : Act} {w : World} (hr : Region.ready md ops l = [i, j]) (hi : ops[i]? = some oi) (hj : ops[j]? = some oj)
    (hwi : Region.wanted oi (yielded ops a.tmps) = true) (hwj : Region.wanted oj (yielded ops a.tmps) = true)
    (h1 : ∀ K' : Act → World → Prop, Shut (∀ a w, S w → (S w → wpAnyY P md ops Q S z fuel (l.setIfInBounds i true) a w) → K' a w) → Oper.wp P oi a w K' Q)
    (h2 : ∀ K' : Act → World → Prop, Shut (∀ a w, S w → (S w → wpAnyY P md ops Q S z fuel (l.setIfInBounds j true) a w) → K' a w) → Oper.wp P oj a w K' Q) :
    wpAnyY P md ops Q S z (fuel + 1) l a w := by
  refine ⟨fun h0 => (by rw [hr] at h0; cases h0), fun k hk => ?_⟩
  rw [hr] at hk
  have hk2 : k = i ∨ k = j := by simpa using hk
  rcases hk2 with rfl | rfl
  · exact wpOp_step hi (fun K' hK => by rw [if_pos hwi]; exact h1 K' (fun a w hS hW => hK a w ⟨fun _ => hS, hW hS⟩))
  · exact wpOp_step hj (fun K' hK => by rw [if_pos hwj]; exact h2 K' (fun a w hS hW => hK a w ⟨fun _ => hS, hW hS⟩))
/-- draws and new blocks, nothing else -/
def Gx (W w' : World) : Prop := ∃ q os', w' = grow (W.drewN q) os'
theorem Gx.rf (W : World) : Gx W W := ⟨0, #[], by rw [grow_empty]; rfl⟩
theorem Gx.t {a b c : World} (h : Gx a b) (k : Gx b c) : Gx a c := by
  obtain ⟨q, os, rfl⟩ := h
  obtain ⟨q2, os2, rfl⟩ := k
  exact ⟨q + q2, os ++ os2, by show grow (grow ((a.drewN q).drewN q2) os) os2 = _; rw [grow_grow, World.drewN_drewN]⟩
theorem Gx.a {a b : World} (h : Gx a b) (o : Obj) : Gx a (b.alloc o) := h.t ⟨0, #[o], by rw [alloc_eq_grow]; rfl⟩
theorem Gx.d {a b : World} (h : Gx a b) : Gx a b.drew := h.t ⟨1, #[], by rw [grow_empty]; rfl⟩
theorem Gx.g {a b : World} (h : Gx a b) : G a b := by
  obtain ⟨q, os, rfl⟩ := h
  exact ⟨rfl, rfl, rfl, by simp, fun i hi => heap_grow_old _ _ (by simpa using hi)⟩
def orI (d r : Int) : Int := if d = 0 then r else d
set_option maxRecDepth 100000 in
set_option maxHeartbeats 4000000 in
theorem or_any (d r : Int) (g cap : Nat) (W : World) (c0 : W.cell? ⟨g, 0, none⟩ = some (.int .i64 d)) (c1 : W.cell? ⟨g, 1, none⟩ = some (.int .i64 r)) (hg : g < W.heap.size) : Calls Tryz.prog 110 #[.slice (some ⟨g, 0, none⟩) 2 cap] W fun e w' => e = .returned (.int .i64 (orI d r)) ∧ w' = W := by
  have HO : Hid (∀ x, x = orI d r → Calls Tryz.prog 110 #[.slice (some ⟨g, 0, none⟩) 2 cap] W (fun e w' => e = .returned (.int .i64 x) ∧ w' = W) → Calls Tryz.prog 110 #[.slice (some ⟨g, 0, none⟩) 2 cap] W fun e w' => e = .returned (.int .i64 (orI d r)) ∧ w' = W) := fun x hx h => by rw [← hx]; exact h
  by_cases hd : d = 0
  · refine HO.out r (by simp [orI, hd]) ?_
    subst hd
    by_cases hr : r = 0
    · subst hr
      clear HO
      go_enter Tryz.func110, Tryz.ntmps110
      go_wp2_with fail
      go_loopw [8] (fun i wr => ∃ k : Nat, k ≤ 2 ∧ i = .int .i64 k ∧ wr = W) (fun i _ => 2 - (intOf i).toNat)
      case atStart => exact ⟨0, by omega, rfl, rfl⟩
      case round =>
        obtain ⟨k, hk, rfl, rfl⟩ := hrel
        have h3 : k = 0 ∨ k = 1 ∨ k = 2 := by omega
        rcases h3 with rfl | rfl | rfl
        · go_wp2_with fail
          go_roundw
          case rel => exact ⟨1, by omega, by go_num, by first | rfl | trivial⟩
          case measure => simp [intOf] <;> omega
        · go_wp2_with fail
          go_roundw
          case rel => exact ⟨2, by omega, by go_num, by first | rfl | trivial⟩
          case measure => simp [intOf] <;> omega
        · go_wp2_with fail
          first | exact ⟨rfl, rfl⟩ | (go_ret; exact ⟨rfl, rfl⟩)
    · have e1 : (r == 0) = false := by simpa using hr
      clear HO
      go_enter Tryz.func110, Tryz.ntmps110
      go_wp2_with fail
      go_loopw [8] (fun i wr => ∃ k : Nat, k ≤ 1 ∧ i = .int .i64 k ∧ wr = W) (fun i _ => 2 - (intOf i).toNat)
      case atStart => exact ⟨0, by omega, rfl, rfl⟩
      case round =>
        obtain ⟨k, hk, rfl, rfl⟩ := hrel
        have h3 : k = 0 ∨ k = 1 := by omega
        rcases h3 with rfl | rfl
        · go_wp2_with fail
          go_roundw
          case rel => exact ⟨1, by omega, by go_num, by first | rfl | trivial⟩
          case measure => simp [intOf] <;> omega
        · go_wp2_with fail
          first | exact ⟨rfl, rfl⟩ | (go_ret; exact ⟨rfl, rfl⟩)
  · refine HO.out d (by simp [orI, hd]) ?_
    have e1 : (d == 0) = false := by simpa using hd
    clear HO
    go_enter Tryz.func110, Tryz.ntmps110
    go_wp2_with fail
    go_loopw [8] (fun i wr => i = .int .i64 0 ∧ wr = W) (fun i _ => 2 - (intOf i).toNat)
    case atStart => exact ⟨rfl, rfl⟩
    case round =>
      obtain ⟨rfl, rfl⟩ := hrel
      go_wp2_with fail
      first | exact ⟨rfl, rfl⟩ | (go_ret; exact ⟨rfl, rfl⟩)
/-- the code's order of takers: by day, then by rank -/
def takeC (x y : Rc) : Int := orI (cmpI x.day y.day) (cmpI x.rank y.rank)
set_option maxRecDepth 100000 in
set_option maxHeartbeats 4000000 in
theorem closure109 (x y : Rc) (W : World) : Calls Tryz.prog 109 #[.agg x.v, .agg y.v] W fun e w' => e = .returned (.int .i64 (takeC x y)) ∧ Gx W w' := by
  have HD := Lib.hid (fun W' => cmp_any x.day y.day W')
  have HR := Lib.hid (fun W' => cmp_any x.rank y.rank W')
  have HO := Lib.hid (fun (g cap : Nat) (W' : World) (c0 : W'.cell? ⟨g, 0, none⟩ = some (.int .i64 (cmpI x.day y.day))) (c1 : W'.cell? ⟨g, 1, none⟩ = some (.int .i64 (cmpI x.rank y.rank))) (hg : g < W'.heap.size) => or_any _ _ g cap W' c0 c1 hg)
  unfold takeC
  generalize cmpI x.day y.day = DD at *
  generalize cmpI x.rank y.rank = RR at *
  generalize orI DD RR = OO at *
  obtain ⟨xb, xo, xr, xd, xpa, xpc, xp⟩ := x
  obtain ⟨yb, yo, yr, yd, ypa, ypc, yp⟩ := y
  unfold Rc.v
  dsimp only at *
  have gx0 : Gx W ((W.alloc (.cells #[.int .i64 xb, .int .i64 xo, .int .i64 xr, .int .i64 xd, .slice xpa xp.length xpc] 60)).alloc (.cells #[.int .i64 yb, .int .i64 yo, .int .i64 yr, .int .i64 yd, .slice ypa yp.length ypc] 60)) := ((Gx.rf _).a _).a _
  have bx : Blk ((W.alloc (.cells #[.int .i64 xb, .int .i64 xo, .int .i64 xr, .int .i64 xd, .slice xpa xp.length xpc] 60)).alloc (.cells #[.int .i64 yb, .int .i64 yo, .int .i64 yr, .int .i64 yd, .slice ypa yp.length ypc] 60)) W.heap.size 60 #[.int .i64 xb, .int .i64 xo, .int .i64 xr, .int .i64 xd, .slice xpa xp.length xpc] := (Blk.new _ _ _).alloc _
  have by1 : Blk ((W.alloc (.cells #[.int .i64 xb, .int .i64 xo, .int .i64 xr, .int .i64 xd, .slice xpa xp.length xpc] 60)).alloc (.cells #[.int .i64 yb, .int .i64 yo, .int .i64 yr, .int .i64 yd, .slice ypa yp.length ypc] 60)) (W.heap.size + 1) 60 #[.int .i64 yb, .int .i64 yo, .int .i64 yr, .int .i64 yd, .slice ypa yp.length ypc] := Blk.new1 _ _ _ _
  go_enter Tryz.func109, Tryz.ntmps109
  go_upto_region 1 with fail
  change Code.wp _ _ _ _ ((W.alloc (.cells #[.int .i64 xb, .int .i64 xo, .int .i64 xr, .int .i64 xd, .slice xpa xp.length xpc] 60)).alloc (.cells #[.int .i64 yb, .int .i64 yo, .int .i64 yr, .int .i64 yd, .slice ypa yp.length ypc] 60))
  obtain ⟨gy, hgy⟩ : ∃ gy, gy = W.heap.size + 1 := ⟨_, rfl⟩
  obtain ⟨gx, hgx⟩ : ∃ gx, gx = W.heap.size := ⟨_, rfl⟩
  rw [← hgy] at by1 ⊢
  rw [← hgx] at bx ⊢
  clear hgx hgy
  generalize ((W.alloc (.cells #[.int .i64 xb, .int .i64 xo, .int .i64 xr, .int .i64 xd, .slice xpa xp.length xpc] 60)).alloc (.cells #[.int .i64 yb, .int .i64 yo, .int .i64 yr, .int .i64 yd, .slice ypa yp.length ypc] 60)) = W1 at *
  have hSk : ∀ W', Gx W1 W' → (W'.cell? ⟨gx, 2, none⟩ = some (.int .i64 xr) ∧ W'.cell? ⟨gx, 3, none⟩ = some (.int .i64 xd) ∧ gx < W'.heap.size) ∧ (W'.cell? ⟨gy, 2, none⟩ = some (.int .i64 yr) ∧ W'.cell? ⟨gy, 3, none⟩ = some (.int .i64 yd) ∧ gy < W'.heap.size) := fun W' hW =>
    ⟨⟨(bx.keep hW.g).cell 2, (bx.keep hW.g).cell 3, (bx.keep hW.g).lt⟩, ⟨(by1.keep hW.g).cell 2, (by1.keep hW.g).cell 3, (by1.keep hW.g).lt⟩⟩
  have ga := (Gx.rf W1).d
  refine wp_region_Y (S := fun W' => (W'.cell? ⟨gx, 2, none⟩ = some (.int .i64 xr) ∧ W'.cell? ⟨gx, 3, none⟩ = some (.int .i64 xd) ∧ gx < W'.heap.size) ∧ (W'.cell? ⟨gy, 2, none⟩ = some (.int .i64 yr) ∧ W'.cell? ⟨gy, 3, none⟩ = some (.int .i64 yd) ∧ gy < W'.heap.size)) 12 13 rfl (by kernel_rfl) (hSk _ ga) (fun hS => ?_)
  refine wpAnyY_take (i := 0) (v := ?_) rfl (by kernel_rfl) (by kernel_rfl) (by kernel_rfl) (by kernel_rfl) (fun _ _ _ h => h) (Or.inl ⟨by kernel_rfl, ?_⟩) hS ?_
  rotate_left
  · intro w' hSw; go_simp; with_reducible rfl
  try simp only [Act.put, List.getElem_toArray, List.getElem_cons_zero, List.getElem_cons_succ, List.setIfInBounds_toArray, List.set_cons_zero, List.set_cons_succ]
  refine wpAnyY_take (i := 1) (v := ?_) rfl (by kernel_rfl) (by kernel_rfl) (by kernel_rfl) (by kernel_rfl) (fun _ _ _ h => h) (Or.inl ⟨by kernel_rfl, ?_⟩) hS ?_
  rotate_left
  · intro w' hSw; obtain ⟨⟨s2, s3, sl⟩, ⟨u2, u3, ul⟩⟩ := hSw; go_simp; with_reducible rfl
  try simp only [Act.put, List.getElem_toArray, List.getElem_cons_zero, List.getElem_cons_succ, List.setIfInBounds_toArray, List.set_cons_zero, List.set_cons_succ]
  refine wpAnyY_take (i := 2) (v := ?_) rfl (by kernel_rfl) (by kernel_rfl) (by kernel_rfl) (by kernel_rfl) (fun _ _ _ h => h) (Or.inl ⟨by kernel_rfl, ?_⟩) hS ?_
  rotate_left
  · intro w' hSw; go_simp; with_reducible rfl
  try simp only [Act.put, List.getElem_toArray, List.getElem_cons_zero, List.getElem_cons_succ, List.setIfInBounds_toArray, List.set_cons_zero, List.set_cons_succ]
  refine wpAnyY_take (i := 3) (v := ?_) rfl (by kernel_rfl) (by kernel_rfl) (by kernel_rfl) (by kernel_rfl) (fun _ _ _ h => h) (Or.inl ⟨by kernel_rfl, ?_⟩) hS ?_
  rotate_left
  · intro w' hSw; obtain ⟨⟨s2, s3, sl⟩, ⟨u2, u3, ul⟩⟩ := hSw; go_simp; with_reducible rfl
  try simp only [Act.put, List.getElem_toArray, List.getElem_cons_zero, List.getElem_cons_succ, List.setIfInBounds_toArray, List.set_cons_zero, List.set_cons_succ]
  refine wpAnyY_take (i := 5) (v := ?_) rfl (by kernel_rfl) (by kernel_rfl) (by kernel_rfl) (by kernel_rfl) (fun _ _ _ h => h) (Or.inl ⟨by kernel_rfl, ?_⟩) hS ?_
  rotate_left
  · intro w' hSw; go_simp; with_reducible rfl
  try simp only [Act.put, List.getElem_toArray, List.getElem_cons_zero, List.getElem_cons_succ, List.setIfInBounds_toArray, List.set_cons_zero, List.set_cons_succ]
  refine wpAnyY_take (i := 6) (v := ?_) rfl (by kernel_rfl) (by kernel_rfl) (by kernel_rfl) (by kernel_rfl) (fun _ _ _ h => h) (Or.inl ⟨by kernel_rfl, ?_⟩) hS ?_
  rotate_left
  · intro w' hSw; obtain ⟨⟨s2, s3, sl⟩, ⟨u2, u3, ul⟩⟩ := hSw; go_simp; with_reducible rfl
  try simp only [Act.put, List.getElem_toArray, List.getElem_cons_zero, List.getElem_cons_succ, List.setIfInBounds_toArray, List.set_cons_zero, List.set_cons_succ]
  refine wpAnyY_take (i := 7) (v := ?_) rfl (by kernel_rfl) (by kernel_rfl) (by kernel_rfl) (by kernel_rfl) (fun _ _ _ h => h) (Or.inl ⟨by kernel_rfl, ?_⟩) hS ?_
  rotate_left
  · intro w' hSw; go_simp; with_reducible rfl
  try simp only [Act.put, List.getElem_toArray, List.getElem_cons_zero, List.getElem_cons_succ, List.setIfInBounds_toArray, List.set_cons_zero, List.set_cons_succ]
  refine wpAnyY_take (i := 8) (v := ?_) rfl (by kernel_rfl) (by kernel_rfl) (by kernel_rfl) (by kernel_rfl) (fun _ _ _ h => h) (Or.inl ⟨by kernel_rfl, ?_⟩) hS ?_
  rotate_left
  · intro w' hSw; obtain ⟨⟨s2, s3, sl⟩, ⟨u2, u3, ul⟩⟩ := hSw; go_simp; with_reducible rfl
  try simp only [Act.put, List.getElem_toArray, List.getElem_cons_zero, List.getElem_cons_succ, List.setIfInBounds_toArray, List.set_cons_zero, List.set_cons_succ]
  refine wpAnyY_oneSW (i := 4) (by kernel_rfl) rfl (by kernel_rfl) (fun K4 hK4 => ?_)
  go_simp
  refine (HD.out _).mono ?_
  rintro e w' ⟨rfl, rfl⟩
  refine hK4.out _ _ (hSk _ ga) (fun hS => ?_)
  try simp only [Act.put, List.getElem_toArray, List.getElem_cons_zero, List.getElem_cons_succ, List.setIfInBounds_toArray, List.set_cons_zero, List.set_cons_succ]
  refine wpAnyY_oneSW (i := 9) (by kernel_rfl) rfl (by kernel_rfl) (fun K9 hK9 => ?_)
  go_simp
  refine (HR.out _).mono ?_
  rintro e w' ⟨rfl, rfl⟩
  refine hK9.out _ _ (hSk _ ga) (fun hS => ?_)
  try simp only [Act.put, List.getElem_toArray, List.getElem_cons_zero, List.getElem_cons_succ, List.setIfInBounds_toArray, List.set_cons_zero, List.set_cons_succ]
  refine wpAnyY_oneSW (i := 10) (by kernel_rfl) rfl (by kernel_rfl) (fun K10 hK10 => ?_)
  go_simp
  refine hK10.out _ _ (hSk _ (ga.a _)) (fun hS => ?_)
  try simp only [Act.put, List.getElem_toArray, List.getElem_cons_zero, List.getElem_cons_succ, List.setIfInBounds_toArray, List.set_cons_zero, List.set_cons_succ]
  have bz := Blk.new W1.drew 3 #[.int .i64 DD, .int .i64 RR]
  refine wpAnyY_oneSW (i := 11) (by kernel_rfl) rfl (by kernel_rfl) (fun K11 hK11 => ?_)
  go_simp
  refine (HO.out _ _ _ (bz.cell 0) (bz.cell 1) bz.lt).mono ?_
  rintro e w' ⟨rfl, rfl⟩
  refine hK11.out _ _ (hSk _ (ga.a _)) (fun hS => ?_)
  try simp only [Act.put, List.getElem_toArray, List.getElem_cons_zero, List.getElem_cons_succ, List.setIfInBounds_toArray, List.set_cons_zero, List.set_cons_succ]
  refine wpAnyY_oneW (i := 12) (by kernel_rfl) rfl (by kernel_rfl) (by kernel_rfl) (fun K12 hK12 => ?_)
  go_simp
  refine hK12.out _ _ ?_
  try simp only [Act.put, List.getElem_toArray, List.getElem_cons_zero, List.getElem_cons_succ, List.setIfInBounds_toArray, List.set_cons_zero, List.set_cons_succ]
  refine wpAnyY_done (by kernel_rfl) ?_ _
  go_wp2_with fail
  first | exact ⟨rfl, gx0.t (ga.a _)⟩ | (go_ret; exact ⟨rfl, gx0.t (ga.a _)⟩)
end Go.Proofs.YtnkmcoljijmgpaaGreat
