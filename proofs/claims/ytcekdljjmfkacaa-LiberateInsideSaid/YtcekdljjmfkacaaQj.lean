import Derived.Test.YtcekdljjmfkacaaQi
set_option linter.unusedSimpArgs false
set_option linter.unusedVariables false
namespace Go.Proofs.Ytcekdljjmfkacaa
open Go.RowKit Go.Shelf
attribute [local go_sem] Oper.semAt_some wide_fn wide_dep wideR_fn wideR_dep
theorem rRefPasses {r : Rl} {w : World} (h : r.Ok w) {i m : Nat} (hi : i < r.n) (hm : m ≤ 1000000) : Calls Try.prog 53 #[.agg r.v, .int .i64 (i : Nat), .int .i64 (m : Nat)] w (SpPost w (pvL (r.ln i) (r.ns i) r.sl r.sh m (r.ns i)) (r.ns i)) := by
  have hN := h.nums
  have hns := Rl.ns_le hN hi
  have hsp := hN.speed
  refine refPasses_walk i m r.sl r.sh (r.ns i) r.v (r.ln i) w (rIs r) rfl rfl (by omega) (by omega) hm (by omega) (fun j hj => ?_) (fun W hW => rRefFar (h.keep hW) hi)
  have a : farL r.north r.east (r.P i) j ≤ j * 100000000 := h.far hi j (by omega)
  have e : farS (r.ln i) j = farL r.north r.east (r.P i) j := rfl
  omega
/-- the latest minute after which the birds of a home are there, as the reference counts it -/
def hiR (r : Rl) (j : Nat) : Nat := (farS (r.ln j) (r.ns j - 1) + r.sl - 1) / r.sl
/-- all are home before it is dark -/
def lightB (r : Rl) (m : Nat) : Bool := !anyU (fun j => !decide (m + hiR r j ≤ r.dark)) r.n
set_option maxRecDepth 100000 in
set_option maxHeartbeats 8000000 in
theorem Light_any {r : Rl} {w : World} (h : r.Ok w) {m : Nat} (hm : m ≤ 1000000) : Calls Try.prog 25 #[.agg r.v, .int .i64 (m : Nat)] w fun e w' => e = .returned (.bool (lightB r m)) ∧ G w w' := by
  have HP := Lib.hid (fun (W : World) (hW : G w W) (j : Nat) (hj : j < r.n) => rRefPasses (h.keep hW) hj hm)
  have HNS := Lib.hid (fun (j : Nat) (hj : j < r.n) => Rl.ns_le h.nums hj)
  have hn6 := h.nums.many
  have hdk := h.nums.dark
  have HIS := Lib.hid (rIs r)
  have g0 : G w (w.alloc (.cells r.v 35)) := (G.rf _).a _
  have b0 : Blk (w.alloc (.cells r.v 35)) w.heap.size 35 r.v := Blk.new w 35 r.v
  clear h
  obtain ⟨n, hn⟩ : ∃ n, n = r.n := ⟨_, rfl⟩
  obtain ⟨dk, hd⟩ : ∃ dk, dk = r.dark := ⟨_, rfl⟩
  have v8 : r.v[8]? = some (.slice r.ha n r.hc) := by rw [hn]; rfl
  have v16 : r.v[16]? = some (.int .i64 (dk : Nat)) := by rw [hd]; rfl
  rw [← hn] at hn6
  rw [← hd] at hdk
  have HN : Hid (n = r.n) := hn
  have HD : Hid (dk = r.dark) := hd
  clear hn hd
  go_enter Try.func25, Try.ntmps25
  go_upto_region 1 with fail
  change Code.wp _ _ _ _ (w.alloc (.cells r.v 35))
  generalize w.alloc (.cells r.v 35) = w1 at *
  go_wp2_with fail
  go_loopw [5, 6] (fun i u6 wr => ∃ q : Nat, q ≤ n ∧ i = .int .i64 q ∧ Hid (∀ j, j < q → decide (m + hiR r j ≤ r.dark) = true) ∧ G w1 wr) (fun i _ _ => n - (intOf i).toNat)
  case atStart => exact ⟨0, Nat.zero_le _, rfl, fun j hj => absurd hj (Nat.not_lt_zero _), G.rf _⟩
  case round =>
    obtain ⟨q, hq, rfl, hno, hG⟩ := hrel
    obtain ⟨wo, rfl⟩ : ∃ wo, wo = wr := ⟨_, rfl⟩
    have gw := g0.t hG
    have bq := b0.keep hG
    have e8 := (bq.cell 8).trans v8
    have lb := bq.lt
    by_cases hlt : q < n
    · have hqi : (q : Int) < n := by omega
      have hqr : q < r.n := by rw [← HN.out]; exact hlt
      have hns := HNS.out q hqr
      have HPq := Lib.hid (HP.out wo gw q hqr)
      have hget := (flat2q_get (plo (r.ln q) r.sh m) (phi (r.ln q) (r.ns q) r.sl m) (r.ns q) (r.ns q - 1) (by omega)).2
      have hph : phi (r.ln q) (r.ns q) r.sl m (r.ns q - 1) = .int .i64 ((m + hiR r q : Nat) : Int) := by
        unfold phi hiR
        rw [show min (r.ns q - 1 + 1) (r.ns q - 1) = r.ns q - 1 by omega]
      rw [hph] at hget
      obtain ⟨N, hNe⟩ : ∃ N, N = r.ns q := ⟨_, rfl⟩
      rw [← hNe] at HPq hget hns
      obtain ⟨M, hM⟩ : ∃ M, M = N - 1 := ⟨_, rfl⟩
      rw [← hM] at hget
      obtain ⟨hi, hhi⟩ : ∃ hi, hi = m + hiR r q := ⟨_, rfl⟩
      rw [← hhi] at hget
      have HHI := Lib.hid hhi
      have xN : IntKind.i64.wrap ((N : Int) - 1) = (M : Int) := by rw [IntWalk.i64_in _ (by omega), hM]; omega
      have hMN : (M : Int) < N := by omega
      have xq : IntKind.i64.wrap ((q : Int) + 1) = ((q + 1 : Nat) : Int) := by rw [IntWalk.i64_in _ (by omega)]; rfl
      clear hph hhi hM hNe HP HNS
      go_upto_region 4 with fail
      refine wp_region_lit ?_
      refine wpList_load35 w.heap.size 2 HIS.out rfl rfl rfl bq ?_
      try simp only [Act.put, List.getElem_toArray, List.getElem_cons_zero, List.getElem_cons_succ, List.setIfInBounds_toArray, List.set_cons_zero, List.set_cons_succ]
      go_upto_region 5 with (go_at_call 53; refine (HPq.out).mono ?_; rintro e w4 ⟨v, rfl, hown, hG4⟩; obtain ⟨gS, capS, curS, rfl, hbS, hgS, htS⟩ := own_some hown (by omega); have hcl := take_cell hbS htS (show M * 2 + 1 < N * 2 by omega) hget)
      have bz := bq.keep hG4
      have hSk : ∀ W', G w4 W' → (Blk W' w.heap.size 35 r.v ∧ W'.cell? ⟨gS, M * 2 + 1, none⟩ = some (.int .i64 (hi : Nat))) := fun W' h => ⟨bz.keep h, ((bcellB h).1 gS _ hgS).trans hcl⟩
      have gz := hG.t hG4
      clear hown hbS htS hcl hget e8 lb
      refine wp_region_Y (S := fun W' => Blk W' w.heap.size 35 r.v ∧ W'.cell? ⟨gS, M * 2 + 1, none⟩ = some (.int .i64 (hi : Nat))) 9 10 rfl (by kernel_rfl) (hSk _ (G.rf _).d) (fun hS => ?_)
      refine wpAnyY_take (i := 0) (v := ?_) rfl (by kernel_rfl) (by kernel_rfl) (by kernel_rfl) (by kernel_rfl) (fun _ _ _ h => h) (Or.inl ⟨by kernel_rfl, ?_⟩) hS ?_
      rotate_left
      · intro w' hSw; go_simp; with_reducible rfl
      try simp only [Act.put, List.getElem_toArray, List.getElem_cons_zero, List.getElem_cons_succ, List.setIfInBounds_toArray, List.set_cons_zero, List.set_cons_succ]
      refine wpAnyY_take (i := 1) (v := ?_) rfl (by kernel_rfl) (by kernel_rfl) (by kernel_rfl) (by kernel_rfl) (fun _ _ _ h => h) (Or.inl ⟨by kernel_rfl, ?_⟩) hS ?_
      rotate_left
      · intro w' hSw; go_simp; with_reducible rfl
      try simp only [Act.put, List.getElem_toArray, List.getElem_cons_zero, List.getElem_cons_succ, List.setIfInBounds_toArray, List.set_cons_zero, List.set_cons_succ]
      refine wpAnyY_take (i := 2) (v := ?_) rfl (by kernel_rfl) (by kernel_rfl) (by kernel_rfl) (by kernel_rfl) (fun _ _ _ h => h) (Or.inl ⟨by kernel_rfl, ?_⟩) hS ?_
      rotate_left
      · intro w' hSw; go_simp; with_reducible rfl
      try simp only [Act.put, List.getElem_toArray, List.getElem_cons_zero, List.getElem_cons_succ, List.setIfInBounds_toArray, List.set_cons_zero, List.set_cons_succ]
      refine wpAnyY_take (i := 3) (v := ?_) rfl (by kernel_rfl) (by kernel_rfl) (by kernel_rfl) (by kernel_rfl) (fun _ _ _ h => h) (Or.inl ⟨by kernel_rfl, ?_⟩) hS ?_
      rotate_left
      · intro w' hSw; go_simp; with_reducible rfl
      try simp only [Act.put, List.getElem_toArray, List.getElem_cons_zero, List.getElem_cons_succ, List.setIfInBounds_toArray, List.set_cons_zero, List.set_cons_succ]
      refine wpAnyY_take (i := 4) (v := ?_) rfl (by kernel_rfl) (by kernel_rfl) (by kernel_rfl) (by kernel_rfl) (fun _ _ _ h => h) (Or.inl ⟨by kernel_rfl, ?_⟩) hS ?_
      rotate_left
      · intro w' hSw; go_simp; with_reducible rfl
      try simp only [Act.put, List.getElem_toArray, List.getElem_cons_zero, List.getElem_cons_succ, List.setIfInBounds_toArray, List.set_cons_zero, List.set_cons_succ]
      refine wpAnyY_take (i := 5) (v := ?_) rfl (by kernel_rfl) (by kernel_rfl) (by kernel_rfl) (by kernel_rfl) (fun _ _ _ h => h) (Or.inl ⟨by kernel_rfl, ?_⟩) hS ?_
      rotate_left
      · intro w' hSw; go_simp; with_reducible rfl
      try simp only [Act.put, List.getElem_toArray, List.getElem_cons_zero, List.getElem_cons_succ, List.setIfInBounds_toArray, List.set_cons_zero, List.set_cons_succ]
      refine wpAnyY_take (i := 6) (v := ?_) rfl (by kernel_rfl) (by kernel_rfl) (by kernel_rfl) (by kernel_rfl) (fun _ _ _ h => h) (Or.inl ⟨by kernel_rfl, ?_⟩) hS ?_
      rotate_left
      · intro w' hSw; have e := hSw.2; go_simp; with_reducible rfl
      try simp only [Act.put, List.getElem_toArray, List.getElem_cons_zero, List.getElem_cons_succ, List.setIfInBounds_toArray, List.set_cons_zero, List.set_cons_succ]
      refine wpAnyY_take (i := 7) (v := ?_) rfl (by kernel_rfl) (by kernel_rfl) (by kernel_rfl) (by kernel_rfl) (fun _ _ _ h => h) (Or.inl ⟨by kernel_rfl, ?_⟩) hS ?_
      rotate_left
      · intro w' hSw; go_simp; with_reducible rfl
      try simp only [Act.put, List.getElem_toArray, List.getElem_cons_zero, List.getElem_cons_succ, List.setIfInBounds_toArray, List.set_cons_zero, List.set_cons_succ]
      refine wpAnyY_take (i := 8) (v := ?_) rfl (by kernel_rfl) (by kernel_rfl) (by kernel_rfl) (by kernel_rfl) (fun _ _ _ h => h) (Or.inl ⟨by kernel_rfl, ?_⟩) hS ?_
      rotate_left
      · intro w' hSw; have e16 := (hSw.1.cell 16).trans v16; have lb := hSw.1.lt; go_simp; with_reducible rfl
      try simp only [Act.put, List.getElem_toArray, List.getElem_cons_zero, List.getElem_cons_succ, List.setIfInBounds_toArray, List.set_cons_zero, List.set_cons_succ]
      refine wpAnyY_oneW (i := 9) (by kernel_rfl) rfl (by kernel_rfl) (by kernel_rfl) (fun K9 hK9 => ?_)
      go_simp
      refine hK9.out _ _ ?_
      try simp only [Act.put, List.getElem_toArray, List.getElem_cons_zero, List.getElem_cons_succ, List.setIfInBounds_toArray, List.set_cons_zero, List.set_cons_succ]
      refine wpAnyY_done (by kernel_rfl) ?_ _
      clear hS hSk
      have gzd := gz.d
      by_cases hc : dk < hi
      · have hc1 : decide (dk < hi) = true := decide_eq_true hc
        have HY : Hid (lightB r m = false) := by
          unfold lightB
          rw [anyU_yes hqr (by rw [decide_eq_false (by rw [← HHI.out, ← HD.out]; omega)]; rfl)]; rfl
        go_wp2_with fail
        go_ret
        exact ⟨by rw [HY.out]; rfl, g0.t gzd⟩
      · have hc1 : decide (dk < hi) = false := decide_eq_false hc
        have HOK : Hid (decide (m + hiR r q ≤ r.dark) = true) := decide_eq_true (by rw [← HHI.out, ← HD.out]; omega)
        go_wp2_with fail
        go_roundw
        case rel => exact ⟨q + 1, by omega, by go_num, fun j hj => by
          rcases Nat.lt_or_ge j q with h | h
          · exact hno.out j h
          · obtain rfl : j = q := by omega
            exact HOK.out, gzd⟩
        case measure => simp [intOf]; omega
    · obtain rfl : n = q := by omega
      have HY : Hid (lightB r m = true) := by unfold lightB; rw [anyU_no fun j hj => by rw [hno.out j (by rw [HN.out]; exact hj)]; rfl]; rfl
      have hjj : ¬ (n : Int) < n := by omega
      clear HP HNS
      go_wp2_with fail
      go_ret
      exact ⟨by rw [HY.out]; rfl, gw⟩
end Go.Proofs.Ytcekdljjmfkacaa
