import Derived.Test.YtnkmcoljijmgpaaGreatAl
set_option linter.unusedSimpArgs false
set_option linter.unusedVariables false
namespace Go.Proofs.YtnkmcoljijmgpaaGreat
open Go.RowKit Go.Shelf Go.Sort
attribute [local go_sem] Oper.semAt_some
theorem clear60 (w : World) (g o n c : Nat) {cur : Array Value} (hB : Blk w g 60 cur) (hin : o + n * 5 ≤ cur.size) : ∃ vs, ∀ ty, (Builtin.clear_ #[22] ty #[.slice (some ⟨g, o, none⟩) n c]).run Tryz.prog w = .ok (.tuple #[]) (w.setCells g o vs) := by
  cases n with
  | zero => exact ⟨[], fun ty => by simp [Builtin.clear_, run_underlying Tryz.underlying22, World.setCells]⟩
  | succ m =>
    refine ⟨(Builtin.zeroCells (Value.cells (.agg #[.int .i64 0, .int .i64 0, .int .i64 0, .int .i64 0, .slice none 0 0])) (m + 1)).toList, fun ty => ?_⟩
    have hl : (Builtin.zeroCells (Value.cells (.agg #[.int .i64 0, .int .i64 0, .int .i64 0, .int .i64 0, .slice none 0 0])) (m + 1)).toList.length = (m + 1) * 5 := by simp [Builtin.zeroCells, Value.cells]
    have h1 : ∀ v ∈ (Builtin.zeroCells (Value.cells (.agg #[.int .i64 0, .int .i64 0, .int .i64 0, .int .i64 0, .slice none 0 0])) (m + 1)).toList, v.oneCell' = true := by
      intro v hv
      simp only [Builtin.zeroCells, Array.toList_map, List.mem_map] at hv
      obtain ⟨i, hi, rfl⟩ := hv
      show (#[Value.int .i64 0, Value.int .i64 0, Value.int .i64 0, Value.int .i64 0, Value.slice none 0 0][i % 5]!).oneCell' = true
      have h5 : i % 5 = 0 ∨ i % 5 = 1 ∨ i % 5 = 2 ∨ i % 5 = 3 ∨ i % 5 = 4 := by omega
      rcases h5 with h5 | h5 | h5 | h5 | h5 <;> rw [h5] <;> rfl
    have hst := run_storeCells_cells (P := Tryz.prog) g o _ 0 w (fun j hj => by rw [Nat.add_zero]; exact blk_has hB (by omega)) (fun j hj => hB.frozen _) h1
    rw [Nat.add_zero] at hst
    have hz := Tryz.zeroValue60 w
    simp [Builtin.clear_, run_underlying Tryz.underlying22, hz, hst]
def DelPost (w0 : World) (B : Nat) (f : List Rc) (e : Ending) (w' : World) : Prop := ∃ v', e = .returned v' ∧ w'.ownsRow B 60 5 v' f.length (rcV f) ∧ G w0 w'
set_option maxRecDepth 100000 in
set_option maxHeartbeats 8000000 in
/-- slices.DeleteFunc at a row of one's own -/
theorem delete_any (C : FuncId) (eg : ∀ args w, (callFunc C args).run Tryz.prog w = .ok (.enter C args) w) (lb : Array Value) (p : Rc → Bool) (l : List Rc) (B : Nat) (v : Value) (w0 W : World) (hB : w0.heap.size ≤ B) (hG0 : G w0 W) (h : W.ownsRow B 60 5 v l.length (rcV l)) (hl : l.length ≤ 1000)
    (hc : ∀ W', G w0 W' → ∀ i, i < l.length → Calls Tryz.prog C (#[.agg (l.getD i default).v] ++ lb) W' fun e w' => e = .returned (.bool (p (l.getD i default))) ∧ G W' w') :
    Calls Tryz.prog 105 #[v, .func (.func C) #[] lb] W (DelPost w0 B (l.filter fun x => !p x)) := by
  obtain ⟨a0, c0, hv0, hrow⟩ := own_row h
  have hi := IdxRc_ex C eg lb W a0 c0 l (fun i => p (l.getD i default)) hl hrow (fun W' hW i hi => hc W' (hG0.t hW) i hi)
  rw [← hv0] at hi
  have HI := Lib.hid hi
  clear hi
  have HPK : Hid (∀ w' v', w'.ownsRow B 60 5 v' (keep p l l.length).length (rcV (keep p l l.length)) → G w0 w' → DelPost w0 B (l.filter fun x => !p x) (.returned v') w') := fun w' v' a b => ⟨v', rfl, by rw [keep_full] at a; exact a, b⟩
  generalize DelPost w0 B (l.filter fun x => !p x) = PP at *
  have HC := Lib.hid hc
  have HW := Lib.hid h
  clear hc hrow hv0 h
  go_enter Tryz.func105, Tryz.ntmps105
  go_upto_region 2 with (go_at_call 118; refine (HI.out).mono ?_; rintro e w1 ⟨r, rfl, hr, hG1⟩)
  have HO := Lib.hid (own_G HW.out hG1)
  replace hG0 := hG0.t hG1
  clear hG1
  rcases hr with ⟨rfl, hn⟩ | ⟨k, rfl, hk, hpk, hn⟩
  · have hf := keep_all p l l.length hn (Nat.le_refl _)
    rw [List.take_length] at hf
    have HF := Lib.hid (HPK.out w1 v (by rw [hf]; exact HO.out) hG0)
    clear hn hf
    go_wp2_with fail
    exact HF.out
  · have hne : ((k : Int) == -1) = false := by simp
    rcases HO.out.2 with ⟨_, h0⟩ | ⟨g, cap, cur0, rfl, hbg, hg, h1, h2, h3, h4⟩
    · omega
    have hst := DelAt.start (p := p) (W := w1) (g := g) (cap := cap) (cur := cur0) hg h3 h4 hk hpk hn
    obtain ⟨hkl, hst⟩ := hst
    have HST := Lib.hid hst
    clear hst hn h4 h3 hg hpk HO HW HI
    have hgB : w0.heap.size ≤ g := Nat.le_trans hB hbg
    go_upto_region 4 with fail
    have hk1 : (k : Int) + 1 ≤ l.length := by omega
    go_wp2_with fail
    go_loopw [5, 6] (fun vi vj wr => ∃ (j : Nat) (cur : Array Value), j ≤ l.length ∧ vj = .int .i64 j ∧ vi = .int .i64 (keep p l j).length ∧ Hid (DelAt wr g cap p l j cur) ∧ G w0 wr) (fun _ vj _ => l.length - (intOf vj).toNat)
    case atStart => exact ⟨k + 1, cur0, hk, by go_num, by rw [hkl], HST.out, hG0⟩
    case round =>
      clear HST hG0 hkl hk hk1 hne
      obtain ⟨j, cur, hj, rfl, rfl, HD, hG⟩ := hrel
      obtain ⟨wo, rfl⟩ : ∃ wo, wo = wr := ⟨_, rfl⟩
      have hkj := keep_len p l j
      obtain ⟨q, hq⟩ : ∃ q, q = (keep p l j).length := ⟨_, rfl⟩
      rw [← hq] at hkj ⊢
      by_cases hlt : j < l.length
      · have hji : (j : Int) < l.length := by omega
        have hqi : (q : Int) < l.length := by omega
        have hql : q < l.length := by omega
        have lg := HD.out.blk.lt
        have hcl : ∀ r, r < 5 → wo.cell? ⟨g, j * 5 + r, none⟩ = (rcE (l.getD j default))[r]? := fun r hr => (HD.out.blk.cell _).trans (HD.out.rest j (Nat.le_refl _) hlt r hr)
        have HC2 := Lib.hid (fun W' hW => HC.out W' hW j hlt)
        have HSK := Lib.hid (fun (W : World) (hD : DelAt W g cap p l j cur) (hp : p (l.getD j default) = true) => And.intro (show (keep p l (j + 1)).length = q by rw [keep_succ p l hlt, if_pos hp, hq]) (hD.skip hlt hp))
        have HPU := Lib.hid (fun (W : World) (hD : DelAt W g cap p l j cur) (hp : p (l.getD j default) = false) => And.intro (show (keep p l (j + 1)).length = q + 1 by rw [keep_succ p l hlt, if_neg (by rw [hp]; simp), List.length_append, hq]; rfl) (hD.put hlt h1 hp))
        rw [← hq] at HPU
        obtain ⟨y, hy⟩ : ∃ y, y = l.getD j default := ⟨_, rfl⟩
        rw [← hy] at hcl HC2 HSK HPU
        clear hy hq
        obtain ⟨zbird, zowner, zrank, zday, zpa, zpc, zpools⟩ := y
        unfold Rc.v at HC2
        have q0 : wo.cell? ⟨g, j * 5, none⟩ = some (.int .i64 zbird) := hcl 0 (by omega)
        have q1 : wo.cell? ⟨g, j * 5 + 1, none⟩ = some (.int .i64 zowner) := hcl 1 (by omega)
        have q2 : wo.cell? ⟨g, j * 5 + 2, none⟩ = some (.int .i64 zrank) := hcl 2 (by omega)
        have q3 : wo.cell? ⟨g, j * 5 + 3, none⟩ = some (.int .i64 zday) := hcl 3 (by omega)
        have q4 : wo.cell? ⟨g, j * 5 + 4, none⟩ = some (.slice zpa zpools.length zpc) := hcl 4 (by omega)
        clear hcl
        go_upto_region 8 with fail
        have bx : Blk (wo.alloc (.cells #[.int .i64 zbird, .int .i64 zowner, .int .i64 zrank, .int .i64 zday, .slice zpa zpools.length zpc] 60)) wo.heap.size 60 #[.int .i64 zbird, .int .i64 zowner, .int .i64 zrank, .int .i64 zday, .slice zpa zpools.length zpc] := Blk.new _ _ _
        have HD2 := Lib.hid (HD.out.keepG ((G.rf wo).a (.cells #[.int .i64 zbird, .int .i64 zowner, .int .i64 zrank, .int .i64 zday, .slice zpa zpools.length zpc] 60)))
        have gw := hG.a (.cells #[.int .i64 zbird, .int .i64 zowner, .int .i64 zrank, .int .i64 zday, .slice zpa zpools.length zpc] 60)
        clear q0 q1 q2 q3 q4 lg HD hG
        change Code.wp _ _ _ _ (wo.alloc (.cells #[.int .i64 zbird, .int .i64 zowner, .int .i64 zrank, .int .i64 zday, .slice zpa zpools.length zpc] 60))
        obtain ⟨gx, hgx⟩ : ∃ gx, gx = wo.heap.size := ⟨_, rfl⟩
        rw [← hgx] at bx ⊢
        clear hgx
        generalize wo.alloc (.cells #[.int .i64 zbird, .int .i64 zowner, .int .i64 zrank, .int .i64 zday, .slice zpa zpools.length zpc] 60) = w2 at *
        have n0 := bx.cell 0
        have n1 := bx.cell 1
        have n2 := bx.cell 2
        have n3 := bx.cell 3
        have n4 := bx.cell 4
        have ln := bx.lt
        have HC3 := Lib.hid (HC2.out w2 gw)
        cases hv : p ⟨zbird, zowner, zrank, zday, zpa, zpc, zpools⟩
        · rw [hv] at HC3
          have HV := Lib.hid hv
          clear hv HC2 HSK
          go_upto_region 9 with (go_at_fn C; refine (HC3.out).mono ?_; rintro e w3 ⟨rfl, hG3⟩; clear n0 n1 n2 n3 n4 ln)
          have HD3 := Lib.hid (HD2.out.keepG hG3)
          replace bx := bx.keep hG3
          replace gw := gw.t hG3
          have n0 := bx.cell 0
          have n1 := bx.cell 1
          have n2 := bx.cell 2
          have n3 := bx.cell 3
          have n4 := bx.cell 4
          have ln := bx.lt
          have hsz := HD3.out.sz
          obtain ⟨u0, c0⟩ := Option.isSome_iff_exists.1 (blk_has HD3.out.blk (i := q * 5) (by omega))
          obtain ⟨u1, c1⟩ := Option.isSome_iff_exists.1 (blk_has HD3.out.blk (i := q * 5 + 1) (by omega))
          obtain ⟨u2, c2⟩ := Option.isSome_iff_exists.1 (blk_has HD3.out.blk (i := q * 5 + 2) (by omega))
          obtain ⟨u3, c3⟩ := Option.isSome_iff_exists.1 (blk_has HD3.out.blk (i := q * 5 + 3) (by omega))
          obtain ⟨u4, c4⟩ := Option.isSome_iff_exists.1 (blk_has HD3.out.blk (i := q * 5 + 4) (by omega))
          have z0 := HD3.out.blk.frozen (q * 5)
          have z1 := HD3.out.blk.frozen (q * 5 + 1)
          have z2 := HD3.out.blk.frozen (q * 5 + 2)
          have z3 := HD3.out.blk.frozen (q * 5 + 3)
          have z4 := HD3.out.blk.frozen (q * 5 + 4)
          have lg := HD3.out.blk.lt
          clear bx
          go_wp2_with fail
          have hpu := HPU.out w3 HD3.out HV.out
          go_roundw
          case rel => exact ⟨j + 1, _, by omega, by go_num, by rw [hpu.1]; go_num, hpu.2, G_setCells hgB (rcE ⟨zbird, zowner, zrank, zday, zpa, zpc, zpools⟩) (q * 5) w3 gw⟩
          case measure => simp [intOf] <;> omega
        · rw [hv] at HC3
          have HV := Lib.hid hv
          clear hv HC2 HPU
          go_wp2_with (go_at_fn C; refine (HC3.out).mono ?_; rintro e w3 ⟨rfl, hG3⟩)
          have hsk := HSK.out w3 (HD2.out.keepG hG3) HV.out
          go_roundw
          case rel => exact ⟨j + 1, cur, by omega, by go_num, by rw [hsk.1], hsk.2, gw.t hG3⟩
          case measure => simp [intOf] <;> omega
      · obtain rfl : j = l.length := by omega
        have hji : ¬ ((l.length : Nat) : Int) < l.length := by omega
        have hql : (q : Int) ≤ l.length := by omega
        have hsz := HD.out.sz
        obtain ⟨vs, hcl⟩ := clear60 wo g (q * 5) (l.length - q) (cap - q) HD.out.blk (by omega)
        have HFN := Lib.hid (HD.out.fin (c := 0) hbg h1 h2 vs (W' := wo.setCells g (q * 5) vs) (by rw [hq]))
        rw [← hq] at HFN
        have HGN := Lib.hid (G_setCells hgB vs (q * 5) wo hG)
        have hqc : q ≤ cap := by omega
        have HF := Lib.hid (fun (h : (wo.setCells g (q * 5) vs).ownsRow B 60 5 (.slice (some ⟨g, 0, none⟩) q cap) q (rcV (keep p l l.length))) => HPK.out _ _ (by rw [← hq]; exact h) HGN.out)
        have HPE : Hid (l.length - q = 0 → PP (.returned (.slice (some ⟨g, 0, none⟩) q cap)) wo) := fun _ => by
          have h9 := HD.out.fin (c := 0) hbg h1 h2 [] (W' := wo) rfl
          rw [← hq] at h9
          exact HPK.out _ _ (by rw [← hq]; exact h9) hG
        clear HC HPK hq
        have HF0 := Lib.hid (HF.out HFN.out)
        by_cases hqe : q = cap
        · have h0 : l.length - q = 0 := by omega
          have hv0 : vs = [] ∨ True := .inr trivial
          have hcl0 : ∀ ty, (Builtin.clear_ #[22] ty #[.slice (some ⟨g, 0, none⟩) (l.length - q) 0]).run Tryz.prog wo = .ok (.tuple #[]) wo := fun ty => by
            rw [h0]
            simp [Builtin.clear_, run_underlying Tryz.underlying22]
          have hcl1 : ∀ ty, (Builtin.clear_ #[22] ty #[.slice (some ⟨g, 0, none⟩) 0 0]).run Tryz.prog wo = .ok (.tuple #[]) wo := fun ty => by
            simp [Builtin.clear_, run_underlying Tryz.underlying22]
          have HF2 := Lib.hid (HPE.out h0)
          clear hcl hv0 h0
          subst hqe
          go_wp2_with (simp only [hcl0, hcl1])
          exact HF2.out
        · go_wp2_with (simp only [hcl])
          exact HF0.out
end Go.Proofs.YtnkmcoljijmgpaaGreat
