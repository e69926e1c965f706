import Derived.Test.YtpjfdfddcnocpaaSa
set_option linter.unusedSimpArgs false
set_option linter.unusedVariables false
namespace Go.Proofs.Ytpjfdfddcnocpaa
open Go.RowKit
attribute [local go_sem] Oper.semAt_some

theorem isBest_any (x y m : Nat) (w : World) : Calls Try.prog 100 #[.agg #[.int .i64 x, .int .i64 y, .int .i64 m]] w fun e w' => e = .returned (.bool (m == 0)) ∧ G w w' := by
  by_cases h : m = 0
  · have hb : ((m : Int) == 0) = true := by simp [h]
    have hv : (m == 0) = true := by simp [h]
    rw [hv]
    clear h hv
    go_enter Try.func100, Try.ntmps100
    go_wp2
    go_ret
    exact ⟨rfl, (G.rf _).a _⟩
  · have hb : ((m : Int) == 0) = false := by simp [h]
    have hv : (m == 0) = false := by simp [h]
    rw [hv]
    clear h hv
    go_enter Try.func100, Try.ntmps100
    go_wp2
    go_ret
    exact ⟨rfl, (G.rf _).a _⟩
set_option maxHeartbeats 2000000 in
theorem IndexFunc_any (W : World) (g cap n : Nat) (l : List Sp) (hg : g < W.heap.size) (hl : l.length ≤ 1000)
    (hc : ∀ i, i < l.length → W.cell? ⟨g, i * 3, none⟩ = some (.int .i64 (l.getD i default).x) ∧ W.cell? ⟨g, i * 3 + 1, none⟩ = some (.int .i64 (l.getD i default).y) ∧ W.cell? ⟨g, i * 3 + 2, none⟩ = some (.int .i64 (l.getD i default).more))
    (hn : n < l.length) (h0 : (l.getD n default).more = 0) (hlt : ∀ j, j < n → (l.getD j default).more ≠ 0) :
    Calls Try.prog 99 #[.slice (some ⟨g, 0, none⟩) l.length cap, .func (.func 100) #[] #[]] W fun e w' => e = .returned (.int .i64 n) ∧ G W w' := by
  have eg : ∀ args w, (callFunc 100 args).run Try.prog w = .ok (.enter 100 args) w := enters_of Try.func100 (by kernel_rfl) rfl
  have HC := Lib.hid hc
  have HL := Lib.hid hlt
  have H0 := Lib.hid h0
  clear hc hlt h0
  go_enter Try.func99, Try.ntmps99
  go_wp2
  go_loopw [8] (fun i wr => ∃ k : Nat, k ≤ n ∧ i = .int .i64 k ∧ G W wr) (fun i _ => n - (intOf i).toNat)
  case atStart => exact ⟨0, Nat.zero_le _, rfl, G.rf _⟩
  case round =>
    obtain ⟨k, hk, rfl, hG⟩ := hrel
    have hki : (k : Int) < l.length := by omega
    obtain ⟨c0, c1, c2⟩ := HC.out k (by omega)
    replace c0 := ((bcellB hG).1 g _ hg).trans c0
    replace c1 := ((bcellB hG).1 g _ hg).trans c1
    replace c2 := ((bcellB hG).1 g _ hg).trans c2
    have lg := Nat.lt_of_lt_of_le hg hG.size
    by_cases hkn : k = n
    · subst hkn
      have hm := H0.out
      generalize l.getD k default = s at *
      obtain ⟨sx, sy, sm⟩ := s
      simp only at c0 c1 c2 hm
      subst hm
      go_wp2_with (go_at_fn 100; refine (isBest_any _ _ _ _).mono ?_; rintro e w1 ⟨rfl, hG1⟩)
      go_ret
      exact ⟨rfl, hG.t hG1⟩
    · have hm := HL.out k (by omega)
      generalize l.getD k default = s at *
      obtain ⟨sx, sy, sm⟩ := s
      simp only at c0 c1 c2 hm
      have hmb : (sm == 0) = false := by simp [hm]
      go_wp2_with (go_at_fn 100; refine (isBest_any _ _ _ _).mono ?_; rw [hmb]; rintro e w1 ⟨rfl, hG1⟩)
      go_roundw
      case rel => exact ⟨k + 1, by omega, by go_num, hG.t hG1⟩
      case measure => simp [intOf]; omega
theorem res77 (tmps : Array Value) (w : World) (g : Nat) (x y : Int) (h : tmps.getD 4 undef = .pointer (some ⟨g, 0, none⟩)) (c0 : w.cell? ⟨g, 0, none⟩ = some (.int .i64 x)) (c1 : w.cell? ⟨g, 1, none⟩ = some (.int .i64 y)) :
    (results Try.f77 tmps).run Try.prog w = .ok (.agg #[.int .i64 x, .int .i64 y]) w := by
  have hr : Try.f77.results = #[.cell 4 27] := rfl
  have h' : tmps[4]?.getD undef = .pointer (some ⟨g, 0, none⟩) := by simpa using h
  simp only [results, hr]
  go_simp
section
variable (O : Nat) (north wrong : Int) (cols lofts : Nat) (E S : Value) (fs : Nat) (rows : Nat → List Sp) (w : World)
set_option maxHeartbeats 2000000 in
theorem best_any (hO : Opened w O north wrong cols lofts E S fs rows) (k n : Nat) (hk : k < lofts) (hl8 : lofts ≤ 8) (hl : (rows k).length ≤ 1000)
    (hn : n < (rows k).length) (h0 : ((rows k).getD n default).more = 0) (hlt : ∀ j, j < n → ((rows k).getD j default).more ≠ 0) :
    Calls Try.prog 77 #[.pointer (some ⟨O, 0, none⟩), .int .i64 k] w fun e w' => e = .returned (.agg #[.int .i64 ((rows k).getD n default).x, .int .i64 ((rows k).getD n default).y]) ∧ G w w' := by
  obtain ⟨slv, hB, hS⟩ := hO
  obtain ⟨g, cap, hsv, ⟨cur, hb⟩, hc⟩ := hS k hk
  have hk8 : k < 8 := by omega
  have hk8' : (k : Int) < 8 := by omega
  have cS : w.cell? ⟨O, 7 + k, none⟩ = some (.slice (some ⟨g, 0, none⟩) (rows k).length cap) := (hB.cell _).trans ((oc_get hk8).trans (by rw [hsv]))
  have lO := hB.lt
  have lg := hb.lt
  have HI := Lib.hid (fun (W : World) (hW : G w W) => IndexFunc_any W g cap n (rows k) (Nat.lt_of_lt_of_le lg hW.size) hl (fun i hi => by
    obtain ⟨c0, c1, c2⟩ := hc i hi
    exact ⟨((bcellB hW).1 g _ lg).trans c0, ((bcellB hW).1 g _ lg).trans c1, ((bcellB hW).1 g _ lg).trans c2⟩) hn h0 hlt)
  obtain ⟨c0, c1, _⟩ := hc n hn
  clear hc hlt h0 hB hS hsv hb
  generalize (rows k).getD n default = s at *
  obtain ⟨sx, sy, sm⟩ := s
  simp only at c0 c1 ⊢
  generalize (rows k).length = ln at *
  have hni : (n : Int) < ln := by omega
  have g0 : G w (w.alloc (.cells #[.int .i64 0, .int .i64 0] 27)) := (G.rf _).a _
  have b0 := Blk.new w 27 #[.int .i64 0, .int .i64 0]
  have cS1 := ((bcellB g0).1 O _ lO).trans cS
  have lO1 := Nat.lt_of_lt_of_le lO g0.size
  go_enter Try.func77, Try.ntmps77
  go_wp2_with (go_at_call 99; refine (HI.out _ g0).mono ?_; rintro e w1 ⟨rfl, hG1⟩; clear cS1 lO1; have g1 := g0.t hG1; have cS1 := ((bcellB g1).1 O _ lO).trans cS; have d0 := ((bcellB g1).1 g _ lg).trans c0; have d1 := ((bcellB g1).1 g _ lg).trans c1; have lO1 := Nat.lt_of_lt_of_le lO g1.size; have lg1 := Nat.lt_of_lt_of_le lg g1.size; have b1 := b0.keep hG1; have p0 := b1.cell 0; have p1 := b1.cell 1; have z0 := b1.frozen 0; have z1 := b1.frozen 1; have l1 := b1.lt)
  have e1 := (b1.set_ 0 (.int .i64 (sx : Nat))).set_ 1 (.int .i64 (sy : Nat))
  refine bodyPost_ret (res77 _ _ w.heap.size _ _ rfl (e1.cell 0) (e1.cell 1)) rfl ?_
  exact ⟨rfl, (g1.s (by simp) _).s (by simp) _⟩
/-- the places that Show returns -/
def bestN (l : List Sp) : Nat := l.findIdx fun s => s.more == 0
theorem bestN_spec {l : List Sp} (h : ∃ s ∈ l, s.more = 0) : bestN l < l.length ∧ (l.getD (bestN l) default).more = 0 ∧ ∀ j, j < bestN l → (l.getD j default).more ≠ 0 := by
  obtain ⟨s, hs, h0⟩ := h
  have h1 : bestN l < l.length := List.findIdx_lt_length_of_exists ⟨s, hs, by simp [h0]⟩
  refine ⟨h1, ?_, fun j hj => ?_⟩
  · have e : l.getD (bestN l) default = l[bestN l]'h1 := by simp [h1]
    have t : ((l[bestN l]'h1).more == 0) = true := List.findIdx_getElem (w := h1)
    rw [e]
    exact beq_iff_eq.1 t
  · have := List.not_of_lt_findIdx hj
    have hjl : j < l.length := by omega
    simpa [hjl] using this
end
end Go.Proofs.Ytpjfdfddcnocpaa
