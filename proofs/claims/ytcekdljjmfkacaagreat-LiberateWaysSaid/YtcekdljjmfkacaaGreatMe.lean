import Derived.Test.YtcekdljjmfkacaaGreatMa
import Derived.Test.YtcekdljjmfkacaaGreatLx
set_option linter.unusedSimpArgs false
set_option linter.unusedVariables false
namespace Go.Proofs.YtcekdljjmfkacaaGreat
open Go.RowKit

theorem btw_le {f t k n M : Nat} (hf : f ≤ M) (ht : t ≤ M) (hk : k ≤ n) (hn : 1 ≤ n) : btw f t k n ≤ M := by
  unfold btw
  have h1 : f * (n - k) ≤ M * (n - k) := Nat.mul_le_mul_right _ hf
  have h2 : t * k ≤ M * k := Nat.mul_le_mul_right _ ht
  have h3 : M * (n - k) + M * k = M * n := by rw [← Nat.mul_add]; congr 1; omega
  have h4 : 2 * (f * (n - k) + t * k) + n < (M + 1) * (2 * n) := by
    have : (M + 1) * (2 * n) = 2 * (M * n) + 2 * n := by rw [Nat.add_mul, Nat.one_mul, ← Nat.mul_assoc, Nat.mul_comm M 2, Nat.mul_assoc]
    omega
  have := (Nat.div_lt_iff_lt_mul (by omega : 0 < 2 * n)).2 h4
  omega
/-- the places of a way are places of the map -/
theorem pbK_mem {fx fy tx ty n k : Nat} {cols rows : Nat} (hn : k ≤ n) (h1 : fx < cols) (h2 : fy < rows) (h3 : tx < cols) (h4 : ty < rows) : ∀ p ∈ pbK fx fy tx ty n k, p.1 < cols ∧ p.2 < rows := by
  intro p hp
  unfold pbK at hp
  rcases List.mem_cons.1 hp with rfl | hp
  · exact ⟨h1, h2⟩
  · obtain ⟨j, hj, rfl⟩ := List.mem_map.1 hp
    have hjk : j < k := by simpa using hj
    have a := btw_le (f := fx) (t := tx) (k := j + 1) (n := n) (M := cols - 1) (by omega) (by omega) (by omega) (by omega)
    have b := btw_le (f := fy) (t := ty) (k := j + 1) (n := n) (M := rows - 1) (by omega) (by omega) (by omega) (by omega)
    exact ⟨by simp only; omega, by simp only; omega⟩
/-- the step from the i-th place of a way to the next one -/
def lenS (north : Int) (east : List Int) (P : List (Nat × Nat)) (i : Nat) : Nat :=
  rnd 0 (sqI north east (P.getD i (0, 0)).1 (P.getD i (0, 0)).2 (P.getD (min (i + 1) (P.length - 1)) (0, 0)).1 (P.getD (min (i + 1) (P.length - 1)) (0, 0)).2).toNat
def farL (north : Int) (east : List Int) (P : List (Nat × Nat)) (k : Nat) : Nat := ((List.range k).map (lenS north east P)).sum
theorem farL_succ (north : Int) (east : List Int) (P : List (Nat × Nat)) (k : Nat) : farL north east P (k + 1) = farL north east P k + lenS north east P k := by
  unfold farL
  rw [List.range_succ, List.map_append, List.sum_append]
  simp
/-- when birds are at the i-th place, first and last -/
def loT (north : Int) (east : List Int) (P : List (Nat × Nat)) (sh i : Nat) : Nat := farL north east P i / sh
def hiT (north : Int) (east : List Int) (P : List (Nat × Nat)) (sl i : Nat) : Nat := (farL north east P i + lenS north east P i + sl - 1) / sl
def stV (north : Int) (east : List Int) (P : List (Nat × Nat)) (sl sh k : Nat) : List Value := (List.range k).flatMap fun i => [.int .i64 ((P.getD i (0, 0)).1 : Nat), .int .i64 ((P.getD i (0, 0)).2 : Nat), .int .i64 (loT north east P sh i : Nat), .int .i64 (hiT north east P sl i : Nat)]
theorem stV_succ (north : Int) (east : List Int) (P : List (Nat × Nat)) (sl sh k : Nat) : stV north east P sl sh (k + 1) = stV north east P sl sh k ++ [.int .i64 ((P.getD k (0, 0)).1 : Nat), .int .i64 ((P.getD k (0, 0)).2 : Nat), .int .i64 (loT north east P sh k : Nat), .int .i64 (hiT north east P sl k : Nat)] := by
  unfold stV
  rw [List.range_succ, List.flatMap_append]
  simp
theorem info77 : (Tryz.prog.info? 84).map (fun i => (i.zero, i.size, i.bytes)) = some (some (.agg #[.int .i64 0, .int .i64 0, .int .i64 0, .int .i64 0]), 4, 32) := by kernel_rfl
theorem rnd0_le (n : Nat) (h : n ≤ 2592000000000000) : rnd 0 n ≤ 100000000 := by
  have := rt_le n 80000000 (by omega) (by omega)
  unfold rnd
  simp
  omega
end Go.Proofs.YtcekdljjmfkacaaGreat
set_option linter.unusedSimpArgs false
set_option linter.unusedVariables false
namespace Go.Proofs.YtcekdljjmfkacaaGreat
open Go.RowKit
attribute [local go_sem] Oper.semAt_some

theorem res25 (tmps : Array Value) (w : World) (g : Nat) (x y : Int) (h : tmps.getD 4 undef = .pointer (some ⟨g, 0, none⟩)) (c0 : w.cell? ⟨g, 0, none⟩ = some (.int .i64 x)) (c1 : w.cell? ⟨g, 1, none⟩ = some (.int .i64 y)) :
    (results Tryz.f45 tmps).run Tryz.prog w = .ok (.agg #[.int .i64 x, .int .i64 y]) w := by
  have hr : Tryz.f45.results = #[.cell 4 30] := rfl
  have h' : tmps[4]?.getD undef = .pointer (some ⟨g, 0, none⟩) := by simpa using h
  simp only [results, hr]
  go_simp
theorem passed_any (x y lo hi m : Int) (w : World) (h1 : -1000000000000 ≤ lo ∧ lo ≤ 1000000000000) (h2 : -1000000000000 ≤ hi ∧ hi ≤ 1000000000000) (h3 : -1000000000000 ≤ m ∧ m ≤ 1000000000000) :
    Calls Tryz.prog 45 #[.agg #[.int .i64 x, .int .i64 y, .int .i64 lo, .int .i64 hi], .int .i64 m] w fun e w' => e = .returned (.agg #[.int .i64 (m + lo), .int .i64 (m + hi)]) ∧ G w w' := by
  have x1 : IntKind.i64.wrap (m + lo) = m + lo := IntWalk.i64_in _ (by omega)
  have x2 : IntKind.i64.wrap (m + hi) = m + hi := IntWalk.i64_in _ (by omega)
  obtain ⟨g0, b0, b1⟩ := w2_spec w #[.int .i64 x, .int .i64 y, .int .i64 lo, .int .i64 hi] #[.int .i64 0, .int .i64 0] 84 30
  go_enter Tryz.func45, Tryz.ntmps45
  go_wp2
  have b2 : Blk ((w.alloc (.cells #[.int .i64 x, .int .i64 y, .int .i64 lo, .int .i64 hi] 84)).alloc (.cells #[.int .i64 (m + lo), .int .i64 (m + hi)] 30)) (w.heap.size + 1) 30 #[.int .i64 (m + lo), .int .i64 (m + hi)] := Blk.new1 w _ _ _
  exact bodyPost_ret (res25 _ _ (w.heap.size + 1) _ _ rfl (b2.cell 0) (b2.cell 1)) rfl ⟨rfl, ((G.rf _).a _).a _⟩
end Go.Proofs.YtcekdljjmfkacaaGreat
set_option linter.unusedSimpArgs false
set_option linter.unusedVariables false
namespace Go.Proofs.YtcekdljjmfkacaaGreat
open Go.RowKit
attribute [local go_sem] Oper.semAt_some
theorem load46 (w : World) (g t : Nat) {a0 a1 a3 a5 a6 a7 a9 a10 a12 a13 a14 a15 a16 : Int} {ea sa ha fa : Option Addr} {el ec sl sc hl hc fl fc : Nat} (op : Oper) (ev : Operand → Value) (ho : op.op = .load 35 (.tmp t)) (hv : ev (.tmp t) = .pointer (some ⟨g, 0, none⟩)) (hB : Blk w g 35 #[.int .i64 a0, .int .i64 a1, .slice ea el ec, .int .i64 a3, .slice sa sl sc, .int .i64 a5, .int .i64 a6, .int .i64 a7, .slice ha hl hc, .int .i64 a9, .int .i64 a10, .slice fa fl fc, .int .i64 a12, .int .i64 a13, .int .i64 a14, .int .i64 a15, .int .i64 a16]) :
    (execOp ev op).run Tryz.prog w = .ok (.value (.agg #[.int .i64 a0, .int .i64 a1, .slice ea el ec, .int .i64 a3, .slice sa sl sc, .int .i64 a5, .int .i64 a6, .int .i64 a7, .slice ha hl hc, .int .i64 a9, .int .i64 a10, .slice fa fl fc, .int .i64 a12, .int .i64 a13, .int .i64 a14, .int .i64 a15, .int .i64 a16])) w := by
  have c0 : w.cell? ⟨g, 0, none⟩ = some (.int .i64 a0) := hB.cell 0
  have c1 : w.cell? ⟨g, 1, none⟩ = some (.int .i64 a1) := hB.cell 1
  have c2 : w.cell? ⟨g, 2, none⟩ = some (.slice ea el ec) := hB.cell 2
  have c3 : w.cell? ⟨g, 3, none⟩ = some (.int .i64 a3) := hB.cell 3
  have c4 : w.cell? ⟨g, 4, none⟩ = some (.slice sa sl sc) := hB.cell 4
  have c5 : w.cell? ⟨g, 5, none⟩ = some (.int .i64 a5) := hB.cell 5
  have c6 : w.cell? ⟨g, 6, none⟩ = some (.int .i64 a6) := hB.cell 6
  have c7 : w.cell? ⟨g, 7, none⟩ = some (.int .i64 a7) := hB.cell 7
  have c8 : w.cell? ⟨g, 8, none⟩ = some (.slice ha hl hc) := hB.cell 8
  have c9 : w.cell? ⟨g, 9, none⟩ = some (.int .i64 a9) := hB.cell 9
  have c10 : w.cell? ⟨g, 10, none⟩ = some (.int .i64 a10) := hB.cell 10
  have c11 : w.cell? ⟨g, 11, none⟩ = some (.slice fa fl fc) := hB.cell 11
  have c12 : w.cell? ⟨g, 12, none⟩ = some (.int .i64 a12) := hB.cell 12
  have c13 : w.cell? ⟨g, 13, none⟩ = some (.int .i64 a13) := hB.cell 13
  have c14 : w.cell? ⟨g, 14, none⟩ = some (.int .i64 a14) := hB.cell 14
  have c15 : w.cell? ⟨g, 15, none⟩ = some (.int .i64 a15) := hB.cell 15
  have c16 : w.cell? ⟨g, 16, none⟩ = some (.int .i64 a16) := hB.cell 16
  clear hB
  unfold execOp
  simp only [ho, hv]
  go_simp
end Go.Proofs.YtcekdljjmfkacaaGreat
set_option linter.unusedSimpArgs false
set_option linter.unusedVariables false
namespace Go.Proofs.YtcekdljjmfkacaaGreat
open Go.RowKit
attribute [local go_sem] Oper.semAt_some

theorem wrap_div2 (a b : Nat) (ha : a ≤ 9000000000000000000) : IntKind.i64.wrap ((a : Int) / b) = ((a / b : Nat) : Int) := by
  have h : a / b ≤ a := Nat.div_le_self _ _
  have e : (a : Int) / b = ((a / b : Nat) : Int) := by simp
  rw [e]
  generalize a / b = q at *
  exact IntWalk.i64_in _ (by omega)
theorem cells_four {W : World} {g : Nat} {t : TypeId} {a b c d : Value} (h : Blk W g t #[a, b, c, d]) : ∀ j u, [a, b, c, d][j]? = some u → W.cell? ((⟨g, 0, none⟩ : Addr).add j) = some u := by
  intro j u hj
  rw [add0, h.cell j]
  simpa using hj
theorem plB {cols rows x y : Nat} (h1 : x < cols) (h2 : y < rows) : isPlaceB cols rows x y = true := by
  simp [isPlaceB, isInB]
  omega
theorem inB {cols x : Nat} (h : x < cols) : isInB x 0 ((cols : Int) - 1) = true := by
  simp [isInB]
  omega
def StPost (w : World) (north : Int) (east : List Int) (P : List (Nat × Nat)) (sl sh : Nat) (e : Ending) (w' : World) : Prop := ∃ v, e = .returned v ∧ w'.ownsRow w.heap.size 84 4 v P.length (stV north east P sl sh P.length) ∧ G w w'
section
variable (north wrong lw lg lh hours dark : Int) (cols lofts bx bY hx hy sl sh : Nat) (east : List Int) (svs : List Sv) (n k : Nat) (ea sa ha fa : Option Addr) (ec sc hc fc : Nat) (w : World)
set_option maxRecDepth 100000 in
set_option maxHeartbeats 8000000 in
theorem stopsTo_ok (he : IntsAt w ea east) (hs : SvsAt w sa svs) (hk : checkE north cols east lofts svs wrong = 0) (hb1 : bx < cols) (hb2 : bY < east.length) (hh1 : hx < cols) (hh2 : hy < east.length) (hsl : 1 ≤ sl ∧ sl ≤ sh) (hsh : sh ≤ 3000000) :
    Calls Tryz.prog 44 #[.agg #[.int .i64 north, .int .i64 cols, .slice ea east.length ec, .int .i64 lofts, .slice sa svs.length sc, .int .i64 wrong, .int .i64 bx, .int .i64 bY, .slice ha n hc, .int .i64 (sl : Nat), .int .i64 (sh : Nat), .slice fa k fc, .int .i64 lw, .int .i64 lg, .int .i64 lh, .int .i64 hours, .int .i64 dark], .agg #[.int .i64 hx, .int .i64 hy]] w (StPost w north east (pbK bx bY hx hy (stepsN bx bY hx hy) (stepsN bx bY hx hy)) sl sh) := by
  have hv := checkE_ok hk
  have hvb := vm_bounds hv
  have hl2 := (checkE_zero hk).2.1
  have HB := Lib.hid (fun (W : World) => lPlacesBetween_any bx bY hx hy W (by omega) (by omega) (by omega) (by omega))
  have hst99 : stepsN bx bY hx hy ≤ 99 := by unfold stepsN dst; omega
  have hPm := pbK_mem (fx := bx) (fy := bY) (tx := hx) (ty := hy) (n := stepsN bx bY hx hy) (k := stepsN bx bY hx hy) (cols := cols) (rows := east.length) (Nat.le_refl _) hb1 hb2 hh1 hh2
  have hPl := pbK_len bx bY hx hy (stepsN bx bY hx hy) (stepsN bx bY hx hy)
  obtain ⟨P, hP⟩ : ∃ P, P = pbK bx bY hx hy (stepsN bx bY hx hy) (stepsN bx bY hx hy) := ⟨_, rfl⟩
  unfold PbPost at HB
  rw [← hP] at HB hPm hPl ⊢
  have hN1 : 1 ≤ P.length := by omega
  have hN100 : P.length ≤ 100 := by omega
  have hgm : ∀ i, i < P.length → (P.getD i (0, 0)).1 < cols ∧ (P.getD i (0, 0)).2 < east.length := fun i hi => hPm _ (by
    rw [show P.getD i (0, 0) = P[i] by simp [hi]]
    exact List.getElem_mem hi)
  have hLn := fun (W : World) (hW : G w W) (i j : Nat) (hi : i < P.length) (hj : j < P.length) => Length_ok (north := north) (cols := (cols : Int)) (lofts := (lofts : Int)) (wrong := wrong) (ax := ((P.getD i (0, 0)).1 : Nat)) (bx := ((P.getD j (0, 0)).1 : Nat)) (east := east) (svs := svs) (ea := ea) (sa := sa) (ec := ec) (sc := sc) (w := W) (rule := 0) (p := (P.getD i (0, 0)).2) (q := (P.getD j (0, 0)).2) (he.below hW) (hs.below hW) (by omega) (by omega) hk (by omega) (plB (hgm i hi).1 (hgm i hi).2) (plB (hgm j hj).1 (hgm j hj).2)
  have hsq : ∀ i, i < P.length → lenS north east P i ≤ 100000000 := fun i hi => by
    have h1 := hgm i hi
    have h2 := hgm (min (i + 1) (P.length - 1)) (by omega)
    have := sq_bd (ax := (P.getD i (0, 0)).1) (bx := (P.getD (min (i + 1) (P.length - 1)) (0, 0)).1) hv h1.2 h2.2 (inB h1.1) (inB h2.1)
    exact rnd0_le _ (by omega)
  have hfar : ∀ i, i ≤ P.length → farL north east P i ≤ i * 100000000 := by
    intro i
    induction i with
    | zero => intro _; simp [farL]
    | succ i ih =>
      intro hi
      have := ih (by omega)
      have := hsq i (by omega)
      rw [farL_succ]
      omega
  have HLN := Lib.hid hLn
  have HSQ := Lib.hid hsq
  have HFAR := Lib.hid hfar
  have HPP : Hid (∀ w' v, w'.ownsRow w.heap.size 84 4 v P.length (stV north east P sl sh P.length) → G w w' → StPost w north east P sl sh (.returned v) w') := fun w' v a b => ⟨v, rfl, a, b⟩
  generalize StPost w north east P sl sh = PP at *
  clear hLn hsq hfar hPm hPl hP hst99 hgm hv hvb hl2 hk he hs hb1 hb2 hh1 hh2
  obtain ⟨g0, b0, b1⟩ := w2_spec w #[.int .i64 north, .int .i64 cols, .slice ea east.length ec, .int .i64 lofts, .slice sa svs.length sc, .int .i64 wrong, .int .i64 bx, .int .i64 bY, .slice ha n hc, .int .i64 (sl : Nat), .int .i64 (sh : Nat), .slice fa k fc, .int .i64 lw, .int .i64 lg, .int .i64 lh, .int .i64 hours, .int .i64 dark] #[.int .i64 hx, .int .i64 hy] 35 27
  go_enter Tryz.func44, Tryz.ntmps44
  go_wp2_with (go_at_call 40; refine (HB.out _).mono ?_; rintro e wa ⟨vA, rfl, hownA, hG1⟩; obtain ⟨gA, capA, eA, hgA, hpt⟩ := pts_own rfl hownA (by omega); subst eA)
  have hwz := g0.size
  have hwa : w.heap.size ≤ wa.heap.size := Nat.le_trans hwz hG1.size
  replace b0 := b0.keep hG1
  replace b1 := b1.keep hG1
  replace g0 := g0.t hG1
  have HPT := Lib.hid hpt
  clear hpt hownA hG1 HB
  obtain ⟨i0, hi0, hz0, hz1, hz2⟩ := info_parts info77
  go_loopw [6, 7, 19] (fun v fr i wr => ∃ q : Nat, q ≤ P.length ∧ i = .int .i64 q ∧ fr = .int .i64 (farL north east P q : Nat) ∧ wr.ownsRow wa.heap.size 84 4 v q (stV north east P sl sh q) ∧ G wa wr) (fun _ _ i _ => P.length - (intOf i).toNat)
  case atStart => exact ⟨0, Nat.zero_le _, rfl, rfl, World.ownsRow_nil _ _ _ _, G.rf _⟩
  case round =>
    obtain ⟨q, hq, rfl, rfl, ho, hGr⟩ := hrel
    obtain ⟨wo, rfl⟩ : ∃ wo, wo = wr := ⟨_, rfl⟩
    have HO := Lib.hid ho
    clear ho
    by_cases hlt : q < P.length
    · have hqi : (q : Int) < P.length := by omega
      obtain ⟨j, hj, hjl⟩ : ∃ j, j = min (q + 1) (P.length - 1) ∧ j < P.length := ⟨_, rfl, by omega⟩
      have hS := HSQ.out q hlt
      have hF := HFAR.out q hq
      have hfs := farL_succ north east P q
      have hsv := stV_succ north east P sl sh q
      have hln : lenS north east P q = rnd 0 (sqI north east (P.getD q (0, 0)).1 (P.getD q (0, 0)).2 (P.getD j (0, 0)).1 (P.getD j (0, 0)).2).toNat := by unfold lenS; rw [← hj]
      have hlo : loT north east P sh q = farL north east P q / sh := rfl
      have hhi : hiT north east P sl q = (farL north east P q + lenS north east P q + sl - 1) / sl := rfl
      have HL := Lib.hid (fun (W : World) (hW : G w W) => HLN.out W hW q j hlt hjl)
      simp only [← hln] at HL
      obtain ⟨c0, c1⟩ := (HPT.out).keep hgA hGr q hlt
      obtain ⟨d0, d1⟩ := (HPT.out).keep hgA hGr j hjl
      generalize P.getD q (0, 0) = p at *
      generalize P.getD j (0, 0) = p2 at *
      obtain ⟨px, py⟩ := p
      obtain ⟨qx, qy⟩ := p2
      simp only at c0 c1 d0 d1 hsv HL
      rw [hlo, hhi] at hsv
      generalize lenS north east P q = st at *
      generalize farL north east P q = fr at *
      have HSV := Lib.hid hsv
      have HFS := Lib.hid hfs
      have HJ := Lib.hid hj
      clear hlo hhi hsv hfs hln
      have gw := g0.t hGr
      have k0 := b0.keep hGr
      have lA := Nat.lt_of_lt_of_le hgA hGr.size
      have xj : min ((q : Int) + 1) ((P.length : Int) - 1) = (j : Nat) := by omega
      have x1 : IntKind.i64.wrap ((q : Int) + 1) = (q : Int) + 1 := IntWalk.i64_in _ (by omega)
      have x2 : IntKind.i64.wrap ((P.length : Int) - 1) = (P.length : Int) - 1 := IntWalk.i64_in _ (by omega)
      have hji : (j : Int) < P.length := by omega
      clear hj
      have m0 := k0.cell 0
      have m1 := k0.cell 1
      have m2 := k0.cell 2
      have m3 := k0.cell 3
      have m4 := k0.cell 4
      have m5 := k0.cell 5
      have lM := k0.lt
      go_wp2_with (go_at_call 78; refine (HL.out _ ((gw.a _).a _)).mono ?_; rintro e w3 ⟨rfl, hG3⟩)
      clear m0 m1 m2 m3 m4 m5 lM c0 c1 d0 d1
      have gA2 : G wo ((wo.alloc (.cells #[.int .i64 (px : Nat), .int .i64 (py : Nat)] 27)).alloc (.cells #[.int .i64 (qx : Nat), .int .i64 (qy : Nat)] 27)) := ((G.rf _).a _).a _
      have g3 : G wo w3 := gA2.t hG3
      have p3 : Blk w3 wo.heap.size 27 #[.int .i64 (px : Nat), .int .i64 (py : Nat)] := ((Blk.new wo 27 _).alloc (.cells #[.int .i64 (qx : Nat), .int .i64 (qy : Nat)] 27)).keep hG3
      have k3 := k0.keep g3
      obtain ⟨np, hnp⟩ : ∃ np, np = wo.heap.size := ⟨_, rfl⟩
      have gw3 := gw.t g3
      rw [← hnp] at p3
      have hS3 := hS
      have xq : IntKind.i64.wrap ((fr : Int) / sh) = ((fr / sh : Nat) : Int) := wrap_div2 _ _ (by omega)
      have hsh1 : ¬ sh = 0 := by omega
      have xa : IntKind.i64.wrap ((fr : Int) + st) = ((fr + st : Nat) : Int) := by rw [IntWalk.i64_in _ (by omega)]; rfl
      have hsh0 : ((sh : Int) == 0) = false := by simp; omega
      have HRU := Lib.hid (fun (W : World) => lRoundedUp_any (fr + st) sl W (by omega) (by omega))
      have hSk : ∀ W', G w3 W' → (W'.cell? ⟨np, 0, none⟩ = some (.int .i64 (px : Nat)) ∧ W'.cell? ⟨np, 1, none⟩ = some (.int .i64 (py : Nat))) ∧ W'.cell? ⟨w.heap.size, 9, none⟩ = some (.int .i64 (sl : Nat)) ∧ W'.cell? ⟨w.heap.size, 10, none⟩ = some (.int .i64 (sh : Nat)) := fun W' hW => ⟨⟨(p3.keep hW).cell 0, (p3.keep hW).cell 1⟩, (k3.keep hW).cell 9, (k3.keep hW).cell 10⟩
      rw [← hnp]
      clear hnp
      go_wp2
      refine wp_region_Y (S := fun W' => (W'.cell? ⟨np, 0, none⟩ = some (.int .i64 (px : Nat)) ∧ W'.cell? ⟨np, 1, none⟩ = some (.int .i64 (py : Nat))) ∧ W'.cell? ⟨w.heap.size, 9, none⟩ = some (.int .i64 (sl : Nat)) ∧ W'.cell? ⟨w.heap.size, 10, none⟩ = some (.int .i64 (sh : Nat))) 17 19 rfl (by kernel_rfl) (hSk _ (G.rf _).d) (fun hS => ?_)
      refine wpAnyY_take (i := 0) (v := ?_) rfl (by kernel_rfl) (by kernel_rfl) (by kernel_rfl) (by kernel_rfl) (fun _ _ _ h => h) (Or.inl ⟨by kernel_rfl, ?_⟩) hS ?_
      rotate_left
      · intro w' hSw; go_simp; with_reducible rfl
      try simp only [Act.put, List.setIfInBounds_toArray, List.set_cons_zero, List.set_cons_succ]
      refine wpAnyY_take (i := 1) (v := ?_) rfl (by kernel_rfl) (by kernel_rfl) (by kernel_rfl) (by kernel_rfl) (fun _ _ _ h => h) (Or.inl ⟨by kernel_rfl, ?_⟩) hS ?_
      rotate_left
      · intro w' hSw; obtain ⟨⟨y0, y1⟩, y2, y3⟩ := hSw; go_simp; with_reducible rfl
      try simp only [Act.put, List.setIfInBounds_toArray, List.set_cons_zero, List.set_cons_succ]
      refine wpAnyY_take (i := 2) (v := ?_) rfl (by kernel_rfl) (by kernel_rfl) (by kernel_rfl) (by kernel_rfl) (fun _ _ _ h => h) (Or.inl ⟨by kernel_rfl, ?_⟩) hS ?_
      rotate_left
      · intro w' hSw; go_simp; with_reducible rfl
      try simp only [Act.put, List.setIfInBounds_toArray, List.set_cons_zero, List.set_cons_succ]
      refine wpAnyY_take (i := 3) (v := ?_) rfl (by kernel_rfl) (by kernel_rfl) (by kernel_rfl) (by kernel_rfl) (fun _ _ _ h => h) (Or.inl ⟨by kernel_rfl, ?_⟩) hS ?_
      rotate_left
      · intro w' hSw; go_simp; with_reducible rfl
      try simp only [Act.put, List.setIfInBounds_toArray, List.set_cons_zero, List.set_cons_succ]
      refine wpAnyY_take (i := 4) (v := ?_) rfl (by kernel_rfl) (by kernel_rfl) (by kernel_rfl) (by kernel_rfl) (fun _ _ _ h => h) (Or.inl ⟨by kernel_rfl, ?_⟩) hS ?_
      rotate_left
      · intro w' hSw; go_simp; with_reducible rfl
      try simp only [Act.put, List.setIfInBounds_toArray, List.set_cons_zero, List.set_cons_succ]
      refine wpAnyY_take (i := 5) (v := ?_) rfl (by kernel_rfl) (by kernel_rfl) (by kernel_rfl) (by kernel_rfl) (fun _ _ _ h => h) (Or.inl ⟨by kernel_rfl, ?_⟩) hS ?_
      rotate_left
      · intro w' hSw; obtain ⟨⟨y0, y1⟩, y2, y3⟩ := hSw; go_simp; with_reducible rfl
      try simp only [Act.put, List.setIfInBounds_toArray, List.set_cons_zero, List.set_cons_succ]
      refine wpAnyY_take (i := 6) (v := ?_) rfl (by kernel_rfl) (by kernel_rfl) (by kernel_rfl) (by kernel_rfl) (fun _ _ _ h => h) (Or.inl ⟨by kernel_rfl, ?_⟩) hS ?_
      rotate_left
      · intro w' hSw; go_simp; with_reducible rfl
      try simp only [Act.put, List.setIfInBounds_toArray, List.set_cons_zero, List.set_cons_succ]
      refine wpAnyY_take (i := 7) (v := ?_) rfl (by kernel_rfl) (by kernel_rfl) (by kernel_rfl) (by kernel_rfl) (fun _ _ _ h => h) (Or.inl ⟨by kernel_rfl, ?_⟩) hS ?_
      rotate_left
      · intro w' hSw; go_simp; with_reducible rfl
      try simp only [Act.put, List.setIfInBounds_toArray, List.set_cons_zero, List.set_cons_succ]
      refine wpAnyY_take (i := 8) (v := ?_) rfl (by kernel_rfl) (by kernel_rfl) (by kernel_rfl) (by kernel_rfl) (fun _ _ _ h => h) (Or.inl ⟨by kernel_rfl, ?_⟩) hS ?_
      rotate_left
      · intro w' hSw; go_simp; with_reducible rfl
      try simp only [Act.put, List.setIfInBounds_toArray, List.set_cons_zero, List.set_cons_succ]
      refine wpAnyY_take (i := 9) (v := ?_) rfl (by kernel_rfl) (by kernel_rfl) (by kernel_rfl) (by kernel_rfl) (fun _ _ _ h => h) (Or.inl ⟨by kernel_rfl, ?_⟩) hS ?_
      rotate_left
      · intro w' hSw; go_simp; with_reducible rfl
      try simp only [Act.put, List.setIfInBounds_toArray, List.set_cons_zero, List.set_cons_succ]
      refine wpAnyY_take (i := 10) (v := ?_) rfl (by kernel_rfl) (by kernel_rfl) (by kernel_rfl) (by kernel_rfl) (fun _ _ _ h => h) (Or.inl ⟨by kernel_rfl, ?_⟩) hS ?_
      rotate_left
      · intro w' hSw; go_simp; with_reducible rfl
      try simp only [Act.put, List.setIfInBounds_toArray, List.set_cons_zero, List.set_cons_succ]
      refine wpAnyY_take (i := 11) (v := ?_) rfl (by kernel_rfl) (by kernel_rfl) (by kernel_rfl) (by kernel_rfl) (fun _ _ _ h => h) (Or.inl ⟨by kernel_rfl, ?_⟩) hS ?_
      rotate_left
      · intro w' hSw; go_simp; with_reducible rfl
      try simp only [Act.put, List.setIfInBounds_toArray, List.set_cons_zero, List.set_cons_succ]
      refine wpAnyY_take (i := 12) (v := ?_) rfl (by kernel_rfl) (by kernel_rfl) (by kernel_rfl) (by kernel_rfl) (fun _ _ _ h => h) (Or.inl ⟨by kernel_rfl, ?_⟩) hS ?_
      rotate_left
      · intro w' hSw; obtain ⟨⟨y0, y1⟩, y2, y3⟩ := hSw; go_simp; with_reducible rfl
      try simp only [Act.put, List.setIfInBounds_toArray, List.set_cons_zero, List.set_cons_succ]
      refine wpAnyY_oneSW (i := 13) (by kernel_rfl) rfl (by kernel_rfl) (fun K13 hK13 => ?_)
      go_simp
      refine (HRU.out _).mono ?_
      rintro e w4 ⟨rfl, hG4⟩
      have g4 : G w3 w4 := (G.rf _).d.t hG4
      refine hK13.out _ _ (hSk _ g4) (fun hS => ?_)
      try simp only [Act.put, List.setIfInBounds_toArray, List.set_cons_zero, List.set_cons_succ]
      refine wpAnyY_take (i := 14) (v := ?_) rfl (by kernel_rfl) (by kernel_rfl) (by kernel_rfl) (by kernel_rfl) (fun _ _ _ h => h) (Or.inl ⟨by kernel_rfl, ?_⟩) hS ?_
      rotate_left
      · intro w' hSw; go_simp; with_reducible rfl
      try simp only [Act.put, List.setIfInBounds_toArray, List.set_cons_zero, List.set_cons_succ]
      refine wpAnyY_take (i := 15) (v := ?_) rfl (by kernel_rfl) (by kernel_rfl) (by kernel_rfl) (by kernel_rfl) (fun _ _ _ h => h) (Or.inl ⟨by kernel_rfl, ?_⟩) hS ?_
      rotate_left
      · intro w' hSw; go_simp; with_reducible rfl
      try simp only [Act.put, List.setIfInBounds_toArray, List.set_cons_zero, List.set_cons_succ]
      refine wpAnyY_oneSW (i := 16) (by kernel_rfl) rfl (by kernel_rfl) (fun K16 hK16 => ?_)
      go_simp
      refine hK16.out _ _ (hSk _ (g4.a _)) (fun hS => ?_)
      try simp only [Act.put, List.setIfInBounds_toArray, List.set_cons_zero, List.set_cons_succ]
      have g5 : G w3 (w4.alloc (.cells #[.int .i64 (px : Nat), .int .i64 (py : Nat), .int .i64 (fr / sh : Nat), .int .i64 ((fr + st + sl - 1) / sl : Nat)] 84)) := g4.a _
      refine wpAnyY_oneW (i := 17) (by kernel_rfl) rfl (by kernel_rfl) (by kernel_rfl) (fun K17 hK17 => ?_)
      refine wp_append_own _ _ _ 81 rfl wa.heap.size 84 i0 _ 4 32 Tryz.underlying81 hi0 hz0 hz1 hz2 rfl (by decide) _ q _ rfl (own_G HO.out (g3.t g5)) ⟨w4.heap.size, 0, none⟩ 1 1 [.int .i64 (px : Nat), .int .i64 (py : Nat), .int .i64 (fr / sh : Nat), .int .i64 ((fr + st + sl - 1) / sl : Nat)] rfl rfl (cells_four (Blk.new _ _ _)) (by simp [Value.oneCell']) (by unfold maxLen; omega) (by omega) (hGr.t (g3.t g5)).size ?_
      intro v9 w9 hown9 hg9 _
      have gz : G wa w9 := grow_own (hGr.t (g3.t g5)) (own_G HO.out (g3.t g5)) (Nat.le_refl _) hg9
      have HN := Lib.hid hown9
      clear hown9 hg9 hS
      refine hK17.out _ _ ?_
      try simp only [Act.put, List.setIfInBounds_toArray, List.set_cons_zero, List.set_cons_succ]
      refine wpAnyY_oneW (i := 18) (by kernel_rfl) rfl (by kernel_rfl) (by kernel_rfl) (fun K18 hK18 => ?_)
      go_simp
      refine hK18.out _ _ ?_
      try simp only [Act.put, List.setIfInBounds_toArray, List.set_cons_zero, List.set_cons_succ]
      refine wpAnyY_done (by kernel_rfl) ?_ _
      clear hK13 hK16 hK17 hK18 hSk
      go_wp2
      go_roundw
      case rel => exact ⟨q + 1, by omega, by go_num, by rw [HFS.out]; rfl, by rw [HSV.out]; exact HN.out, gz⟩
      case measure => simp [intOf]; omega
    · obtain rfl : q = P.length := by omega
      have hqi : ¬ ((P.length : Nat) : Int) < P.length := by omega
      have HF := Lib.hid (HPP.out wo _ (own_weaken HO.out hwa) (g0.t hGr))
      go_wp2
      exact HF.out
end
end Go.Proofs.YtcekdljjmfkacaaGreat
