import Derived.Test.YtcekdljjmfkacaaGreatMe
set_option linter.unusedSimpArgs false
set_option linter.unusedVariables false
namespace Go.Proofs.YtcekdljjmfkacaaGreat
open Go.RowKit
attribute [local go_sem] Oper.semAt_some

/-- the spans of Passes -/
def spV (north : Int) (east : List Int) (P : List (Nat × Nat)) (sl sh m k : Nat) : List Value := (List.range k).flatMap fun i => [.int .i64 ((m : Int) + (loT north east P sh i : Nat)), .int .i64 ((m : Int) + (hiT north east P sl i : Nat))]
theorem spV_succ (north : Int) (east : List Int) (P : List (Nat × Nat)) (sl sh m k : Nat) : spV north east P sl sh m (k + 1) = spV north east P sl sh m k ++ [.int .i64 ((m : Int) + (loT north east P sh k : Nat)), .int .i64 ((m : Int) + (hiT north east P sl k : Nat))] := by
  unfold spV
  rw [List.range_succ, List.flatMap_append]
  simp
theorem stV_get (north : Int) (east : List Int) (P : List (Nat × Nat)) (sl sh : Nat) : ∀ n k, k < n → ∀ r, r < 4 → (stV north east P sl sh n)[k * 4 + r]? = ([.int .i64 ((P.getD k (0, 0)).1 : Nat), .int .i64 ((P.getD k (0, 0)).2 : Nat), .int .i64 (loT north east P sh k : Nat), .int .i64 (hiT north east P sl k : Nat)] : List Value)[r]?
  | 0, k, hk, _, _ => by omega
  | n + 1, k, hk, r, hr => by
    have hl : (stV north east P sl sh n).length = n * 4 := by
      clear hk
      induction n with
      | zero => rfl
      | succ n ih => rw [stV_succ, List.length_append, ih]; simp; omega
    rw [stV_succ]
    by_cases h : k < n
    · rw [List.getElem?_append_left (by omega)]
      exact stV_get north east P sl sh n k h r hr
    · obtain rfl : k = n := by omega
      rw [List.getElem?_append_right (by omega), hl, show k * 4 + r - k * 4 = r by omega]
theorem info27b : (Tryz.prog.info? 30).map (fun i => (i.zero, i.size, i.bytes)) = some (some (.agg #[.int .i64 0, .int .i64 0]), 2, 16) := by kernel_rfl
def PaPost (w : World) (L : List Value) (n : Nat) (e : Ending) (w' : World) : Prop := ∃ v, e = .returned (.tuple #[v, .int .i64 0]) ∧ w'.ownsRow w.heap.size 30 2 v n L ∧ G w w'
def IsRel (REL : Array Value) : Prop := ∃ (a0 a1 : Int) (ea : Option Addr) (el ec : Nat) (a3 : Int) (sa : Option Addr) (sl sc : Nat) (a5 a6 a7 : Int) (ha : Option Addr) (hl hc : Nat) (a9 a10 : Int) (fa : Option Addr) (fl fc : Nat) (a12 a13 a14 a15 a16 : Int),
  REL = #[.int .i64 a0, .int .i64 a1, .slice ea el ec, .int .i64 a3, .slice sa sl sc, .int .i64 a5, .int .i64 a6, .int .i64 a7, .slice ha hl hc, .int .i64 a9, .int .i64 a10, .slice fa fl fc, .int .i64 a12, .int .i64 a13, .int .i64 a14, .int .i64 a15, .int .i64 a16]
theorem load46o (w : World) (g t : Nat) {REL : Array Value} (hR : IsRel REL) (op : Oper) (ev : Operand → Value) (ho : op.op = .load 35 (.tmp t)) (hv : ev (.tmp t) = .pointer (some ⟨g, 0, none⟩)) (hB : Blk w g 35 REL) :
    (execOp ev op).run Tryz.prog w = .ok (.value (.agg REL)) w := by
  obtain ⟨a0, a1, ea, el, ec, a3, sa, sl, sc, a5, a6, a7, ha, hl, hc, a9, a10, fa, fl, fc, a12, a13, a14, a15, a16, rfl⟩ := hR
  exact load46 w g t op ev ho hv hB
theorem wpAnyY_twoSW {P : Program} {ops : Array Oper} {md : Region.Mode} {Q : Exit → Act → World → Prop} {S : World → Prop} {z : Nat} {i j : Nat} {oi oj : Oper} {fuel : Nat} {l : Array Bool} {a : Act} {w : World} (hr : Region.ready md ops l = [i, j]) (hi : ops[i]? = some oi) (hj : ops[j]? = some oj)
    (hwi : Region.wanted oi (yielded ops a.tmps) = true) (hwj : Region.wanted oj (yielded ops a.tmps) = true)
    (h1 : ∀ K' : Act → World → Prop, Shut (∀ a w, S w → (S w → wpAnyY P md ops Q S z fuel (l.setIfInBounds i true) a w) → K' a w) → Oper.wp P oi a w K' Q)
    (h2 : ∀ K' : Act → World → Prop, Shut (∀ a w, S w → (S w → wpAnyY P md ops Q S z fuel (l.setIfInBounds j true) a w) → K' a w) → Oper.wp P oj a w K' Q) :
    wpAnyY P md ops Q S z (fuel + 1) l a w := by
  refine ⟨fun h0 => (by rw [hr] at h0; cases h0), fun k hk => ?_⟩
  rw [hr] at hk
  have hk2 : k = i ∨ k = j := by simpa using hk
  rcases hk2 with rfl | rfl
  · exact wpOp_step hi (fun K' hK => by rw [if_pos hwi]; exact h1 K' (fun a w hS hW => hK a w ⟨fun _ => hS, hW hS⟩))
  · exact wpOp_step hj (fun K' hK => by rw [if_pos hwj]; exact h2 K' (fun a w hS hW => hK a w ⟨fun _ => hS, hW hS⟩))
theorem flat4_len (a b c d : Nat → Value) (n : Nat) : ((List.range n).flatMap fun i => [a i, b i, c i, d i]).length = n * 4 := by
  induction n with
  | zero => rfl
  | succ n ih =>
    rw [List.range_succ, List.flatMap_append, List.length_append, ih]
    simp
    omega
theorem flat4_get (a b c d : Nat → Value) : ∀ n k, k < n → ∀ r, r < 4 → ((List.range n).flatMap fun i => [a i, b i, c i, d i])[k * 4 + r]? = [a k, b k, c k, d k][r]?
  | 0, k, hk, _, _ => by omega
  | n + 1, k, hk, r, hr => by
    have hl := flat4_len a b c d n
    rw [List.range_succ, List.flatMap_append]
    by_cases h : k < n
    · rw [List.getElem?_append_left (by omega)]
      exact flat4_get a b c d n k h r hr
    · obtain rfl : k = n := by omega
      rw [List.getElem?_append_right (by omega), hl, show k * 4 + r - k * 4 = r by omega]
      simp
theorem flat2_succ (a b : Nat → Value) (n : Nat) : ((List.range (n + 1)).flatMap fun i => [a i, b i]) = ((List.range n).flatMap fun i => [a i, b i]) ++ [a n, b n] := by
  rw [List.range_succ, List.flatMap_append]
  simp
section
variable (north wrong lw lg lh hours dark : Int) (cols lofts bx bY hx hy sl sh m hi : Nat) (east : List Int) (svs : List Sv) (n k : Nat) (h f : Nat → Nat → Int) (ea sa ha fa : Option Addr) (ec sc hc fc : Nat) (w : World)
/-- the walk of Passes over a release of which only the contracts are known -/
structure PaHyp (w : World) (REL : Array Value) (gH oH n hc hi hx hy m : Nat) (L : List Value) (N : Nat) : Prop where
  isrel : IsRel REL
  home : ∀ W : World, Calls Tryz.prog 39 #[.agg REL, .int .i64 hi] W fun e w' => e = .returned (.bool true) ∧ G W w'
  minute : ∀ W : World, Calls Tryz.prog 43 #[.int .i64 m] W fun e w' => e = .returned (.bool true) ∧ G W w'
  question : ∀ W : World, G w W → Calls Tryz.prog 38 #[.agg REL, .bool true] W fun e w' => e = .returned (.int .i64 0) ∧ G W w'
  stops : ∀ W : World, G w W → Calls Tryz.prog 44 #[.agg REL, .agg #[.int .i64 hx, .int .i64 hy]] W fun e w' => ∃ v, e = .returned v ∧ w'.ownsRow W.heap.size 84 4 v N L ∧ G W w'
  cell : REL[8]? = some (.slice (some ⟨gH, oH, none⟩) n hc)
  lt : gH < w.heap.size
  c0 : w.cell? ⟨gH, oH + hi * 2, none⟩ = some (.int .i64 (hx : Nat))
  c1 : w.cell? ⟨gH, oH + hi * 2 + 1, none⟩ = some (.int .i64 (hy : Nat))
  hin : hi < n
/-- behind the first region: the stops are called -/
def PaRest (w : World) (REL : Array Value) (gH oH n hc hi hx hy m : Nat) (PP : Ending → World → Prop) : Prop := True
set_option maxRecDepth 100000 in
set_option maxHeartbeats 8000000 in
theorem Passes_walk (REL : Array Value) (gH oH : Nat) (x y lo hh : Nat → Int) (N : Nat) (hN : 1 ≤ N ∧ N ≤ 100) (hm : m ≤ 9999)
    (hbd : ∀ i, i < N → (0 ≤ lo i ∧ lo i ≤ 20000000000) ∧ (0 ≤ hh i ∧ hh i ≤ 20000000000))
    (H : PaHyp w REL gH oH n hc hi hx hy m ((List.range N).flatMap fun i => [.int .i64 (x i), .int .i64 (y i), .int .i64 (lo i), .int .i64 (hh i)]) N) :
    Calls Tryz.prog 13 #[.agg REL, .int .i64 hi, .int .i64 m] w (PaPost w ((List.range N).flatMap fun i => [.int .i64 (m + lo i), .int .i64 (m + hh i)]) N) := by
  have HIS := Lib.hid H.isrel
  have HI := Lib.hid H.home
  have HM := Lib.hid H.minute
  have HQ := Lib.hid H.question
  have HST := Lib.hid H.stops
  have hgH := H.lt
  have e0 := H.c0
  have e1 := H.c1
  have hin := H.hin
  have h8 := H.cell
  have hini : (hi : Int) < n := by omega
  have HBD := Lib.hid hbd
  have HPP : Hid (∀ w' v, w'.ownsRow w.heap.size 30 2 v N ((List.range N).flatMap fun i => [.int .i64 (m + lo i), .int .i64 (m + hh i)]) → G w w' → PaPost w ((List.range N).flatMap fun i => [.int .i64 (m + lo i), .int .i64 (m + hh i)]) N (.returned (.tuple #[v, .int .i64 0])) w') := fun w' v a b => ⟨v, rfl, a, b⟩
  generalize PaPost w ((List.range N).flatMap fun i => [.int .i64 (m + lo i), .int .i64 (m + hh i)]) N = PP at *
  clear H hbd
  have g0 : G w (w.alloc (.cells REL 35)) := (G.rf _).a _
  have b0 : Blk (w.alloc (.cells REL 35)) w.heap.size 35 REL := Blk.new w 35 REL
  go_enter Tryz.func13, Tryz.ntmps13
  go_wp2
  refine wp_region_Y (S := fun W' => Blk W' w.heap.size 35 REL) 8 10 rfl (by kernel_rfl) (b0.keep (G.rf _).d) (fun hS => ?_)
  refine wpAnyY_take (i := 0) (v := .agg REL) rfl (by kernel_rfl) (by kernel_rfl) (by kernel_rfl) (by kernel_rfl) (fun _ _ _ h => h) (Or.inl ⟨by kernel_rfl, ?_⟩) hS ?_
  · intro w' hSw; exact load46o w' w.heap.size 3 HIS.out _ _ rfl rfl hSw
  try simp only [Act.put, List.setIfInBounds_toArray, List.set_cons_zero, List.set_cons_succ]
  refine wpAnyY_take (i := 1) (v := .agg REL) rfl (by kernel_rfl) (by kernel_rfl) (by kernel_rfl) (by kernel_rfl) (fun _ _ _ h => h) (Or.inl ⟨by kernel_rfl, ?_⟩) hS ?_
  · intro w' hSw; exact load46o w' w.heap.size 3 HIS.out _ _ rfl rfl hSw
  try simp only [Act.put, List.setIfInBounds_toArray, List.set_cons_zero, List.set_cons_succ]
  refine wpAnyY_take (i := 2) (v := ?_) rfl (by kernel_rfl) (by kernel_rfl) (by kernel_rfl) (by kernel_rfl) (fun _ _ _ h => h) (Or.inl ⟨by kernel_rfl, ?_⟩) hS ?_
  rotate_left
  · intro w' hSw; go_simp; with_reducible rfl
  try simp only [Act.put, List.setIfInBounds_toArray, List.set_cons_zero, List.set_cons_succ]
  refine wpAnyY_oneSW (i := 3) (by kernel_rfl) rfl (by kernel_rfl) (fun K3 hK3 => ?_)
  go_simp
  refine (HI.out _).mono ?_
  rintro e w1 ⟨rfl, hG1⟩
  have ga := (G.rf _).d.t hG1
  refine hK3.out _ _ (b0.keep ga) (fun hS => ?_)
  try simp only [Act.put, List.setIfInBounds_toArray, List.set_cons_zero, List.set_cons_succ]
  refine wpAnyY_take (i := 4) (v := ?_) rfl (by kernel_rfl) (by kernel_rfl) (by kernel_rfl) (by kernel_rfl) (fun _ _ _ h => h) (Or.inl ⟨by kernel_rfl, ?_⟩) hS ?_
  rotate_left
  · intro w' hSw; go_simp; with_reducible rfl
  try simp only [Act.put, List.setIfInBounds_toArray, List.set_cons_zero, List.set_cons_succ]
  refine wpAnyY_take (i := 5) (v := ?_) rfl (by kernel_rfl) (by kernel_rfl) (by kernel_rfl) (by kernel_rfl) (fun _ _ _ h => h) (Or.inl ⟨by kernel_rfl, ?_⟩) hS ?_
  rotate_left
  · intro w' hSw; go_simp; with_reducible rfl
  try simp only [Act.put, List.setIfInBounds_toArray, List.set_cons_zero, List.set_cons_succ]
  refine wpAnyY_oneSW (i := 6) (by kernel_rfl) rfl (by kernel_rfl) (fun K6 hK6 => ?_)
  go_simp
  refine (HM.out _).mono ?_
  rintro e w2 ⟨rfl, hG2⟩
  replace ga := ga.t hG2
  refine hK6.out _ _ (b0.keep ga) (fun hS => ?_)
  try simp only [Act.put, List.setIfInBounds_toArray, List.set_cons_zero, List.set_cons_succ]
  refine wpAnyY_take (i := 7) (v := ?_) rfl (by kernel_rfl) (by kernel_rfl) (by kernel_rfl) (by kernel_rfl) (fun _ _ _ h => h) (Or.inl ⟨by kernel_rfl, ?_⟩) hS ?_
  rotate_left
  · intro w' hSw; go_simp; with_reducible rfl
  try simp only [Act.put, List.setIfInBounds_toArray, List.set_cons_zero, List.set_cons_succ]
  refine wpAnyY_oneW (i := 8) (by kernel_rfl) rfl (by kernel_rfl) (by kernel_rfl) (fun K8 hK8 => ?_)
  go_simp
  refine (HQ.out _ (g0.t ga)).mono ?_
  rintro e w3 ⟨rfl, hG3⟩
  replace ga := ga.t hG3
  refine hK8.out _ _ ?_
  try simp only [Act.put, List.setIfInBounds_toArray, List.set_cons_zero, List.set_cons_succ]
  refine wpAnyY_oneW (i := 9) (by kernel_rfl) rfl (by kernel_rfl) (by kernel_rfl) (fun K9 hK9 => ?_)
  go_simp
  refine hK9.out _ _ ?_
  try simp only [Act.put, List.setIfInBounds_toArray, List.set_cons_zero, List.set_cons_succ]
  refine wpAnyY_done (by kernel_rfl) ?_ _
  clear hS hK3 hK6 hK8 hK9 HI HM HQ hG1 hG2 hG3
  replace g0 := g0.t ga
  replace b0 := b0.keep ga
  clear ga
  have lb := b0.lt
  have hgw := g0
  have lH := Nat.lt_of_lt_of_le hgH g0.size
  replace e0 := ((bcellB g0).1 gH _ hgH).trans e0
  replace e1 := ((bcellB g0).1 gH _ hgH).trans e1
  have e8 : w3.cell? ⟨w.heap.size, 8, none⟩ = some (.slice (some ⟨gH, oH, none⟩) n hc) := (b0.cell 8).trans h8
  have hSk : ∀ W', G w3 W' → Blk W' w.heap.size 35 REL ∧ W'.cell? ⟨w.heap.size, 8, none⟩ = some (.slice (some ⟨gH, oH, none⟩) n hc) ∧ W'.cell? ⟨gH, oH + hi * 2, none⟩ = some (.int .i64 (hx : Nat)) ∧ W'.cell? ⟨gH, oH + hi * 2 + 1, none⟩ = some (.int .i64 (hy : Nat)) := fun W' hW => ⟨b0.keep hW, ((bcellB hW).1 _ _ lb).trans e8, ((bcellB hW).1 gH _ lH).trans e0, ((bcellB hW).1 gH _ lH).trans e1⟩
  clear e0 e1 e8
  go_wp2
  refine wp_region_Y (S := fun W' => Blk W' w.heap.size 35 REL ∧ W'.cell? ⟨w.heap.size, 8, none⟩ = some (.slice (some ⟨gH, oH, none⟩) n hc) ∧ W'.cell? ⟨gH, oH + hi * 2, none⟩ = some (.int .i64 (hx : Nat)) ∧ W'.cell? ⟨gH, oH + hi * 2 + 1, none⟩ = some (.int .i64 (hy : Nat))) 6 9 rfl (by kernel_rfl) (hSk _ (G.rf _).d) (fun hS => ?_)
  refine wpAnyY_take (i := 0) (v := .agg REL) rfl (by kernel_rfl) (by kernel_rfl) (by kernel_rfl) (by kernel_rfl) (fun _ _ _ h => h) (Or.inl ⟨by kernel_rfl, ?_⟩) hS ?_
  · intro w' hSw; exact load46o w' w.heap.size 3 HIS.out _ _ rfl rfl hSw.1
  try simp only [Act.put, List.setIfInBounds_toArray, List.set_cons_zero, List.set_cons_succ]
  refine wpAnyY_take (i := 1) (v := ?_) rfl (by kernel_rfl) (by kernel_rfl) (by kernel_rfl) (by kernel_rfl) (fun _ _ _ h => h) (Or.inl ⟨by kernel_rfl, ?_⟩) hS ?_
  rotate_left
  · intro w' hSw; go_simp; with_reducible rfl
  try simp only [Act.put, List.setIfInBounds_toArray, List.set_cons_zero, List.set_cons_succ]
  refine wpAnyY_take (i := 2) (v := ?_) rfl (by kernel_rfl) (by kernel_rfl) (by kernel_rfl) (by kernel_rfl) (fun _ _ _ h => h) (Or.inl ⟨by kernel_rfl, ?_⟩) hS ?_
  rotate_left
  · intro w' hSw; have m8 := hSw.2.1; go_simp; with_reducible rfl
  try simp only [Act.put, List.setIfInBounds_toArray, List.set_cons_zero, List.set_cons_succ]
  refine wpAnyY_take (i := 3) (v := ?_) rfl (by kernel_rfl) (by kernel_rfl) (by kernel_rfl) (by kernel_rfl) (fun _ _ _ h => h) (Or.inl ⟨by kernel_rfl, ?_⟩) hS ?_
  rotate_left
  · intro w' hSw; go_simp; with_reducible rfl
  try simp only [Act.put, List.setIfInBounds_toArray, List.set_cons_zero, List.set_cons_succ]
  refine wpAnyY_take (i := 4) (v := ?_) rfl (by kernel_rfl) (by kernel_rfl) (by kernel_rfl) (by kernel_rfl) (fun _ _ _ h => h) (Or.inl ⟨by kernel_rfl, ?_⟩) hS ?_
  rotate_left
  · intro w' hSw; go_simp; with_reducible rfl
  try simp only [Act.put, List.setIfInBounds_toArray, List.set_cons_zero, List.set_cons_succ]
  refine wpAnyY_take (i := 5) (v := ?_) rfl (by kernel_rfl) (by kernel_rfl) (by kernel_rfl) (by kernel_rfl) (fun _ _ _ h => h) (Or.inl ⟨by kernel_rfl, ?_⟩) hS ?_
  rotate_left
  · intro w' hSw; obtain ⟨y0, y1⟩ := hSw.2.2; go_simp; with_reducible rfl
  try simp only [Act.put, List.setIfInBounds_toArray, List.set_cons_zero, List.set_cons_succ]
  refine wpAnyY_twoSW (i := 6) (j := 8) (by kernel_rfl) rfl rfl (by kernel_rfl) (by kernel_rfl) (fun K6 hK6 => ?_) (fun K8 hK8 => ?_)
  · go_simp
    refine (HST.out _ g0.d).mono ?_
    rintro e w4 ⟨v, rfl, hown, hG4⟩
    obtain ⟨gS, capS, curS, ev, hbS, hgS, htS⟩ := own_some hown (by omega)
    subst ev
    clear hown
    have gd4 := (G.rf w3).d.t hG4
    refine hK6.out _ _ (hSk _ gd4) (fun hS => ?_)
    try simp only [Act.put, List.setIfInBounds_toArray, List.set_cons_zero, List.set_cons_succ]
    refine wpAnyY_twoSW (i := 7) (j := 8) (by kernel_rfl) rfl rfl (by kernel_rfl) (by kernel_rfl) (fun K7 hK7 => ?_) (fun K8 hK8 => ?_)
    · go_simp
      refine hK7.out _ _ (hSk _ gd4) (fun hS => ?_)
      try simp only [Act.put, List.setIfInBounds_toArray, List.set_cons_zero, List.set_cons_succ]
      refine wpAnyY_oneW (i := 8) (by kernel_rfl) rfl (by kernel_rfl) (by kernel_rfl) (fun K8 hK8 => ?_)
      go_simp
      refine hK8.out _ _ ?_
      try simp only [Act.put, List.setIfInBounds_toArray, List.set_cons_zero, List.set_cons_succ]
      refine wpAnyY_done (by kernel_rfl) ?_ _
      clear hS hSk hG4 hK6 hK7 hK8
      have gw4 := g0.t gd4
      clear gd4 g0 b0 lH lb hgw HST HIS h8
      go_wp2_with fail
      obtain ⟨i0, hi0, hz0, hz1, hz2⟩ := info_parts info27b
      go_loopw [9, 32] (fun v i wr => ∃ q : Nat, q ≤ N ∧ i = .int .i64 q ∧ wr.ownsRow w4.heap.size 30 2 v q ((List.range q).flatMap fun i => [.int .i64 (m + lo i), .int .i64 (m + hh i)]) ∧ G w4 wr) (fun _ i _ => N - (intOf i).toNat)
      case atStart => exact ⟨0, Nat.zero_le _, rfl, World.ownsRow_nil _ _ _ _, G.rf _⟩
      case round =>
        obtain ⟨q, hq, rfl, ho, hGr⟩ := hrel
        obtain ⟨wo, rfl⟩ : ∃ wo, wo = wr := ⟨_, rfl⟩
        have HO := Lib.hid ho
        clear ho
        by_cases hlt : q < N
        · have hqi : (q : Int) < N := by omega
          have hb := HBD.out q hlt
          have HSV := Lib.hid (flat2_succ (fun i => .int .i64 (m + lo i)) (fun i => .int .i64 (m + hh i)) q)
          have hf := fun r hr => flat4_get (fun i => .int .i64 (x i)) (fun i => .int .i64 (y i)) (fun i => .int .i64 (lo i)) (fun i => .int .i64 (hh i)) N q hlt r hr
          have c0 : wo.cell? ⟨gS, q * 4, none⟩ = some (.int .i64 (x q)) := ((bcellB hGr).1 gS _ hgS).trans (take_cell hbS htS (k := q * 4) (by omega) (hf 0 (by omega)))
          have c1 : wo.cell? ⟨gS, q * 4 + 1, none⟩ = some (.int .i64 (y q)) := ((bcellB hGr).1 gS _ hgS).trans (take_cell hbS htS (k := q * 4 + 1) (by omega) (hf 1 (by omega)))
          have c2 : wo.cell? ⟨gS, q * 4 + 2, none⟩ = some (.int .i64 (lo q)) := ((bcellB hGr).1 gS _ hgS).trans (take_cell hbS htS (k := q * 4 + 2) (by omega) (hf 2 (by omega)))
          have c3 : wo.cell? ⟨gS, q * 4 + 3, none⟩ = some (.int .i64 (hh q)) := ((bcellB hGr).1 gS _ hgS).trans (take_cell hbS htS (k := q * 4 + 3) (by omega) (hf 3 (by omega)))
          clear hf
          have HP := Lib.hid (fun W : World => passed_any (x q) (y q) (lo q) (hh q) m W (by omega) (by omega) (by omega))
          clear hb
          generalize x q = X at *
          generalize y q = Y at *
          obtain ⟨LO, hLO⟩ : ∃ LO, LO = lo q := ⟨_, rfl⟩
          obtain ⟨HI, hHI⟩ : ∃ HI, HI = hh q := ⟨_, rfl⟩
          rw [← hLO, ← hHI] at HP
          rw [← hLO] at c2
          rw [← hHI] at c3
          have HS2 : Hid ((List.range (q + 1)).flatMap (fun i => [.int .i64 (m + lo i), .int .i64 (m + hh i)]) = ((List.range q).flatMap fun i => [.int .i64 (m + lo i), .int .i64 (m + hh i)]) ++ [Value.int .i64 (m + LO), Value.int .i64 (m + HI)]) := by rw [hLO, hHI]; exact HSV.out
          clear HSV hLO hHI
          have lS := Nat.lt_of_lt_of_le hgS hGr.size
          go_wp2_with (first | (go_at_call 45; refine (HP.out _).mono ?_; rintro e w5 ⟨rfl, hG5⟩) | (at_builtin; refine wpList_append_own _ rfl _ _ 45 rfl w4.heap.size 30 i0 _ 2 16 Tryz.underlying45 hi0 hz0 hz1 hz2 rfl (by decide) _ q ((List.range q).flatMap fun i => [.int .i64 (m + lo i), .int .i64 (m + hh i)]) rfl ?hown ⟨_, 0, none⟩ 1 1 [.int .i64 (m + LO), .int .i64 (m + HI)] rfl rfl (cells_two (Blk.new _ _ _)) (by simp [Value.oneCell']) (by unfold maxLen; omega) (by omega) ?hbase ?hrest))
          case hown => exact own_G HO.out (((G.rf _).a _).t (hG5.a _))
          case hbase => exact (hGr.t (((G.rf _).a _).t (hG5.a _))).size
          case hrest =>
            intro v9 w9 hown9 hg9 _
            have gz : G w4 w9 := grow_own (hGr.t (((G.rf _).a _).t (hG5.a _))) (own_G HO.out (((G.rf _).a _).t (hG5.a _))) (Nat.le_refl _) hg9
            have HN := Lib.hid hown9
            clear hown9 hg9 c0 c1 c2 c3
            go_wp2
            go_roundw
            case rel => exact ⟨q + 1, by omega, by go_num, by rw [HS2.out]; exact HN.out, gz⟩
            case measure => simp [intOf]; omega
        · obtain rfl : q = N := by omega
          have hqi : ¬ ((q : Nat) : Int) < q := by omega
          have HF := Lib.hid (HPP.out wo _ (own_weaken HO.out gw4.size) (gw4.t hGr))
          go_wp2
          exact HF.out
    · go_simp
      refine hK8.out _ _ (hSk _ gd4) (fun hS => ?_)
      try simp only [Act.put, List.setIfInBounds_toArray, List.set_cons_zero, List.set_cons_succ]
      refine wpAnyY_oneW (i := 7) (by kernel_rfl) rfl (by kernel_rfl) (by kernel_rfl) (fun K7 hK7 => ?_)
      go_simp
      refine hK7.out _ _ ?_
      try simp only [Act.put, List.setIfInBounds_toArray, List.set_cons_zero, List.set_cons_succ]
      refine wpAnyY_done (by kernel_rfl) ?_ _
      clear hS hSk hG4 hK6 hK7 hK8
      have gw4 := g0.t gd4
      clear gd4 g0 b0 lH lb hgw HST HIS h8
      go_wp2_with fail
      obtain ⟨i0, hi0, hz0, hz1, hz2⟩ := info_parts info27b
      go_loopw [9, 32] (fun v i wr => ∃ q : Nat, q ≤ N ∧ i = .int .i64 q ∧ wr.ownsRow w4.heap.size 30 2 v q ((List.range q).flatMap fun i => [.int .i64 (m + lo i), .int .i64 (m + hh i)]) ∧ G w4 wr) (fun _ i _ => N - (intOf i).toNat)
      case atStart => exact ⟨0, Nat.zero_le _, rfl, World.ownsRow_nil _ _ _ _, G.rf _⟩
      case round =>
        obtain ⟨q, hq, rfl, ho, hGr⟩ := hrel
        obtain ⟨wo, rfl⟩ : ∃ wo, wo = wr := ⟨_, rfl⟩
        have HO := Lib.hid ho
        clear ho
        by_cases hlt : q < N
        · have hqi : (q : Int) < N := by omega
          have hb := HBD.out q hlt
          have HSV := Lib.hid (flat2_succ (fun i => .int .i64 (m + lo i)) (fun i => .int .i64 (m + hh i)) q)
          have hf := fun r hr => flat4_get (fun i => .int .i64 (x i)) (fun i => .int .i64 (y i)) (fun i => .int .i64 (lo i)) (fun i => .int .i64 (hh i)) N q hlt r hr
          have c0 : wo.cell? ⟨gS, q * 4, none⟩ = some (.int .i64 (x q)) := ((bcellB hGr).1 gS _ hgS).trans (take_cell hbS htS (k := q * 4) (by omega) (hf 0 (by omega)))
          have c1 : wo.cell? ⟨gS, q * 4 + 1, none⟩ = some (.int .i64 (y q)) := ((bcellB hGr).1 gS _ hgS).trans (take_cell hbS htS (k := q * 4 + 1) (by omega) (hf 1 (by omega)))
          have c2 : wo.cell? ⟨gS, q * 4 + 2, none⟩ = some (.int .i64 (lo q)) := ((bcellB hGr).1 gS _ hgS).trans (take_cell hbS htS (k := q * 4 + 2) (by omega) (hf 2 (by omega)))
          have c3 : wo.cell? ⟨gS, q * 4 + 3, none⟩ = some (.int .i64 (hh q)) := ((bcellB hGr).1 gS _ hgS).trans (take_cell hbS htS (k := q * 4 + 3) (by omega) (hf 3 (by omega)))
          clear hf
          have HP := Lib.hid (fun W : World => passed_any (x q) (y q) (lo q) (hh q) m W (by omega) (by omega) (by omega))
          clear hb
          generalize x q = X at *
          generalize y q = Y at *
          obtain ⟨LO, hLO⟩ : ∃ LO, LO = lo q := ⟨_, rfl⟩
          obtain ⟨HI, hHI⟩ : ∃ HI, HI = hh q := ⟨_, rfl⟩
          rw [← hLO, ← hHI] at HP
          rw [← hLO] at c2
          rw [← hHI] at c3
          have HS2 : Hid ((List.range (q + 1)).flatMap (fun i => [.int .i64 (m + lo i), .int .i64 (m + hh i)]) = ((List.range q).flatMap fun i => [.int .i64 (m + lo i), .int .i64 (m + hh i)]) ++ [Value.int .i64 (m + LO), Value.int .i64 (m + HI)]) := by rw [hLO, hHI]; exact HSV.out
          clear HSV hLO hHI
          have lS := Nat.lt_of_lt_of_le hgS hGr.size
          go_wp2_with (first | (go_at_call 45; refine (HP.out _).mono ?_; rintro e w5 ⟨rfl, hG5⟩) | (at_builtin; refine wpList_append_own _ rfl _ _ 45 rfl w4.heap.size 30 i0 _ 2 16 Tryz.underlying45 hi0 hz0 hz1 hz2 rfl (by decide) _ q ((List.range q).flatMap fun i => [.int .i64 (m + lo i), .int .i64 (m + hh i)]) rfl ?hown ⟨_, 0, none⟩ 1 1 [.int .i64 (m + LO), .int .i64 (m + HI)] rfl rfl (cells_two (Blk.new _ _ _)) (by simp [Value.oneCell']) (by unfold maxLen; omega) (by omega) ?hbase ?hrest))
          case hown => exact own_G HO.out (((G.rf _).a _).t (hG5.a _))
          case hbase => exact (hGr.t (((G.rf _).a _).t (hG5.a _))).size
          case hrest =>
            intro v9 w9 hown9 hg9 _
            have gz : G w4 w9 := grow_own (hGr.t (((G.rf _).a _).t (hG5.a _))) (own_G HO.out (((G.rf _).a _).t (hG5.a _))) (Nat.le_refl _) hg9
            have HN := Lib.hid hown9
            clear hown9 hg9 c0 c1 c2 c3
            go_wp2
            go_roundw
            case rel => exact ⟨q + 1, by omega, by go_num, by rw [HS2.out]; exact HN.out, gz⟩
            case measure => simp [intOf]; omega
        · obtain rfl : q = N := by omega
          have hqi : ¬ ((q : Nat) : Int) < q := by omega
          have HF := Lib.hid (HPP.out wo _ (own_weaken HO.out gw4.size) (gw4.t hGr))
          go_wp2
          exact HF.out
  · go_simp
    refine hK8.out _ _ hS (fun hS => ?_)
    try simp only [Act.put, List.setIfInBounds_toArray, List.set_cons_zero, List.set_cons_succ]
    refine wpAnyY_oneSW (i := 6) (by kernel_rfl) rfl (by kernel_rfl) (fun K6 hK6 => ?_)
    go_simp
    refine (HST.out _ g0.d).mono ?_
    rintro e w4 ⟨v, rfl, hown, hG4⟩
    obtain ⟨gS, capS, curS, ev, hbS, hgS, htS⟩ := own_some hown (by omega)
    subst ev
    clear hown
    have gd4 := (G.rf w3).d.t hG4
    refine hK6.out _ _ (hSk _ gd4) (fun hS => ?_)
    try simp only [Act.put, List.setIfInBounds_toArray, List.set_cons_zero, List.set_cons_succ]
    refine wpAnyY_oneW (i := 7) (by kernel_rfl) rfl (by kernel_rfl) (by kernel_rfl) (fun K7 hK7 => ?_)
    go_simp
    refine hK7.out _ _ ?_
    try simp only [Act.put, List.setIfInBounds_toArray, List.set_cons_zero, List.set_cons_succ]
    refine wpAnyY_done (by kernel_rfl) ?_ _
    clear hS hSk hG4 hK6 hK7 hK8
    have gw4 := g0.t gd4
    clear gd4 g0 b0 lH lb hgw HST HIS h8
    go_wp2_with fail
    obtain ⟨i0, hi0, hz0, hz1, hz2⟩ := info_parts info27b
    go_loopw [9, 32] (fun v i wr => ∃ q : Nat, q ≤ N ∧ i = .int .i64 q ∧ wr.ownsRow w4.heap.size 30 2 v q ((List.range q).flatMap fun i => [.int .i64 (m + lo i), .int .i64 (m + hh i)]) ∧ G w4 wr) (fun _ i _ => N - (intOf i).toNat)
    case atStart => exact ⟨0, Nat.zero_le _, rfl, World.ownsRow_nil _ _ _ _, G.rf _⟩
    case round =>
      obtain ⟨q, hq, rfl, ho, hGr⟩ := hrel
      obtain ⟨wo, rfl⟩ : ∃ wo, wo = wr := ⟨_, rfl⟩
      have HO := Lib.hid ho
      clear ho
      by_cases hlt : q < N
      · have hqi : (q : Int) < N := by omega
        have hb := HBD.out q hlt
        have HSV := Lib.hid (flat2_succ (fun i => .int .i64 (m + lo i)) (fun i => .int .i64 (m + hh i)) q)
        have hf := fun r hr => flat4_get (fun i => .int .i64 (x i)) (fun i => .int .i64 (y i)) (fun i => .int .i64 (lo i)) (fun i => .int .i64 (hh i)) N q hlt r hr
        have c0 : wo.cell? ⟨gS, q * 4, none⟩ = some (.int .i64 (x q)) := ((bcellB hGr).1 gS _ hgS).trans (take_cell hbS htS (k := q * 4) (by omega) (hf 0 (by omega)))
        have c1 : wo.cell? ⟨gS, q * 4 + 1, none⟩ = some (.int .i64 (y q)) := ((bcellB hGr).1 gS _ hgS).trans (take_cell hbS htS (k := q * 4 + 1) (by omega) (hf 1 (by omega)))
        have c2 : wo.cell? ⟨gS, q * 4 + 2, none⟩ = some (.int .i64 (lo q)) := ((bcellB hGr).1 gS _ hgS).trans (take_cell hbS htS (k := q * 4 + 2) (by omega) (hf 2 (by omega)))
        have c3 : wo.cell? ⟨gS, q * 4 + 3, none⟩ = some (.int .i64 (hh q)) := ((bcellB hGr).1 gS _ hgS).trans (take_cell hbS htS (k := q * 4 + 3) (by omega) (hf 3 (by omega)))
        clear hf
        have HP := Lib.hid (fun W : World => passed_any (x q) (y q) (lo q) (hh q) m W (by omega) (by omega) (by omega))
        clear hb
        generalize x q = X at *
        generalize y q = Y at *
        obtain ⟨LO, hLO⟩ : ∃ LO, LO = lo q := ⟨_, rfl⟩
        obtain ⟨HI, hHI⟩ : ∃ HI, HI = hh q := ⟨_, rfl⟩
        rw [← hLO, ← hHI] at HP
        rw [← hLO] at c2
        rw [← hHI] at c3
        have HS2 : Hid ((List.range (q + 1)).flatMap (fun i => [.int .i64 (m + lo i), .int .i64 (m + hh i)]) = ((List.range q).flatMap fun i => [.int .i64 (m + lo i), .int .i64 (m + hh i)]) ++ [Value.int .i64 (m + LO), Value.int .i64 (m + HI)]) := by rw [hLO, hHI]; exact HSV.out
        clear HSV hLO hHI
        have lS := Nat.lt_of_lt_of_le hgS hGr.size
        go_wp2_with (first | (go_at_call 45; refine (HP.out _).mono ?_; rintro e w5 ⟨rfl, hG5⟩) | (at_builtin; refine wpList_append_own _ rfl _ _ 45 rfl w4.heap.size 30 i0 _ 2 16 Tryz.underlying45 hi0 hz0 hz1 hz2 rfl (by decide) _ q ((List.range q).flatMap fun i => [.int .i64 (m + lo i), .int .i64 (m + hh i)]) rfl ?hown ⟨_, 0, none⟩ 1 1 [.int .i64 (m + LO), .int .i64 (m + HI)] rfl rfl (cells_two (Blk.new _ _ _)) (by simp [Value.oneCell']) (by unfold maxLen; omega) (by omega) ?hbase ?hrest))
        case hown => exact own_G HO.out (((G.rf _).a _).t (hG5.a _))
        case hbase => exact (hGr.t (((G.rf _).a _).t (hG5.a _))).size
        case hrest =>
          intro v9 w9 hown9 hg9 _
          have gz : G w4 w9 := grow_own (hGr.t (((G.rf _).a _).t (hG5.a _))) (own_G HO.out (((G.rf _).a _).t (hG5.a _))) (Nat.le_refl _) hg9
          have HN := Lib.hid hown9
          clear hown9 hg9 c0 c1 c2 c3
          go_wp2
          go_roundw
          case rel => exact ⟨q + 1, by omega, by go_num, by rw [HS2.out]; exact HN.out, gz⟩
          case measure => simp [intOf]; omega
      · obtain rfl : q = N := by omega
        have hqi : ¬ ((q : Nat) : Int) < q := by omega
        have HF := Lib.hid (HPP.out wo _ (own_weaken HO.out gw4.size) (gw4.t hGr))
        go_wp2
        exact HF.out
end
end Go.Proofs.YtcekdljjmfkacaaGreat
