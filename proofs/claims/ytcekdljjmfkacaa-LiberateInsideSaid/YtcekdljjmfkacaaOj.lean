import Derived.Test.YtcekdljjmfkacaaOh
set_option linter.unusedSimpArgs false
set_option linter.unusedVariables false
namespace Go.Proofs.Ytcekdljjmfkacaa
open Go.RowKit Go.Shelf
attribute [local go_sem] Oper.semAt_some wide_fn wide_dep wideR_fn wideR_dep
theorem resMin29 (tmps : Array Value) (w : World) (g : Nat) (x y z : Int) (h : tmps.getD 4 undef = .pointer (some ⟨g, 0, none⟩)) (h5 : tmps.getD 5 undef = .int .i64 z) (c0 : w.cell? ⟨g, 0, none⟩ = some (.int .i64 x)) (c1 : w.cell? ⟨g, 1, none⟩ = some (.int .i64 y)) :
    (results Try.f29 tmps).run Try.prog w = .ok (.tuple #[.agg #[.int .i64 x, .int .i64 y], .int .i64 z]) w := by
  have hr : Try.f29.results = #[.cell 4 30, .tmp 5] := rfl
  have h' : tmps[4]?.getD undef = .pointer (some ⟨g, 0, none⟩) := by simpa using h
  have h5' : tmps[5]?.getD undef = .int .i64 z := by simpa using h5
  simp only [results, hr]
  go_simp
/-- what has been found among the first q minutes -/
def FoundAt (T : List Nat) (b : Bool) (lo hi : Int) : Prop := (b = false ∧ T = [] ∧ lo = 0 ∧ hi = 0) ∨ (b = true ∧ ∃ x l, T = x :: l ∧ lo = (x : Nat) ∧ hi = ((x :: l).getLast (by simp) : Nat))
theorem FoundAt.snoc {T : List Nat} {lo hi : Int} {b : Bool} (h : FoundAt T b lo hi) (q : Nat) : FoundAt (T ++ [q]) true (if b = true then lo else (q : Nat)) (q : Nat) := by
  rcases h with ⟨rfl, rfl, rfl, rfl⟩ | ⟨rfl, x, l, rfl, rfl, rfl⟩
  · exact .inr ⟨rfl, q, [], rfl, rfl, rfl⟩
  · refine .inr ⟨rfl, x, l ++ [q], rfl, rfl, ?_⟩
    have e : ∀ (L : List Nat) (h : L ++ [q] ≠ []), (L ++ [q]).getLast h = q := fun L h => by simp
    exact congrArg (fun k : Nat => (k : Int)) (e (x :: l) (by simp)).symm
section
variable (a : Option Addr) (cap n : Nat) (c : Nat → Nat → Int) (wrong : Int) (w : World)
set_option maxRecDepth 100000 in
set_option maxHeartbeats 4000000 in
theorem refMinute_any (ha : RowAt w a n 2 c) (hn : n ≤ 9223372036854775807) : Calls Try.prog 29 #[.slice a n cap, .int .i64 wrong] w fun e w' => e = .returned (minR n c wrong) ∧ G w w' := by
  have HA := Lib.hid (fun (W : World) (hW : G w W) => areWatches_any a cap n c wrong W (ha.below hW) hn)
  have g0 : G w (w.alloc (.cells #[.int .i64 0, .int .i64 0] 30)) := (G.rf _).a _
  have b0 := Blk.new w 30 #[.int .i64 0, .int .i64 0]
  cases hok : watOk n c wrong
  · have HR : Hid (minR n c wrong = .tuple #[.agg #[.int .i64 0, .int .i64 0], .int .i64 62]) := by unfold minR Hid; rw [watOk_eq, hok]; rfl
    rw [hok] at HA
    generalize minR n c wrong = RR at *
    clear hok ha
    go_enter Try.func29, Try.ntmps29
    go_wp2_with (go_at_call 26; refine (HA.out _ g0).mono ?_; rintro e w1 ⟨rfl, hG1⟩; replace b0 := b0.keep hG1; have f0 := b0.cell 0; have f1 := b0.cell 1; have z0 := b0.frozen 0; have z1 := b0.frozen 1; have l0 := b0.lt)
    have hb2 : Blk ((w1.setCell ⟨w.heap.size, 0, none⟩ (.int .i64 0)).setCell ⟨w.heap.size, 1, none⟩ (.int .i64 0)) w.heap.size 30 #[.int .i64 0, .int .i64 0] := (b0.set_ 0 _).set_ 1 _
    exact bodyPost_ret (resMin29 _ _ w.heap.size 0 0 62 rfl rfl (hb2.cell 0) (hb2.cell 1)) rfl ⟨by rw [HR.out], ((g0.t hG1).s (p := ⟨w.heap.size, 0, none⟩) (Nat.le_refl _) _).s (p := ⟨w.heap.size, 1, none⟩) (Nat.le_refl _) _⟩
  · have hn8 : n ≤ 8 := by
      have h := hok
      rw [← watOk_eq] at h
      unfold watchB isInB at h
      simp at h
      omega
    have HR : Hid (minR n c wrong = match minL n c wrong 10000 with
      | [] => .tuple #[.agg #[.int .i64 0, .int .i64 0], .int .i64 3]
      | x :: l => .tuple #[.agg #[.int .i64 (x : Nat), .int .i64 ((x :: l).getLast (by simp) : Nat)], .int .i64 0]) := by
      unfold minR Hid
      rw [watOk_eq, hok, if_neg (by simp)]
      cases minL n c wrong 10000 <;> rfl
    rw [hok] at HA
    have HC := Lib.hid (fun (W : World) (hW : G w W) (m : Nat) => against_any a cap n c m W (ha.below hW) (by omega))
    generalize minR n c wrong = RR at *
    clear hok ha
    go_enter Try.func29, Try.ntmps29
    go_wp2_with (go_at_call 26; refine (HA.out _ g0).mono ?_; rintro e w1 ⟨rfl, hG1⟩; replace b0 := b0.keep hG1)
    have b6 : Blk (w1.alloc (.cells #[.int .i64 0, .int .i64 0] 30)) w1.heap.size 30 #[.int .i64 0, .int .i64 0] := Blk.new w1 30 _
    have g6 : G w (w1.alloc (.cells #[.int .i64 0, .int .i64 0] 30)) := (g0.t hG1).a _
    replace b0 := b0.keep ((G.rf w1).a (.cells #[.int .i64 0, .int .i64 0] 30))
    generalize w1.alloc (.cells #[.int .i64 0, .int .i64 0] 30) = w2 at *
    obtain ⟨n6, hn6⟩ : ∃ n6, n6 = w1.heap.size := ⟨_, rfl⟩
    have o6 : w.heap.size < n6 := by have h1 := (g0.t hG1).size; have h2 := (g0.t hG1).size; rw [hn6]; have := g0.size; have h3 := hG1.size; simp at h3; omega
    rw [← hn6] at b6 ⊢
    clear hn6 g0 HA
    obtain ⟨n4, hn4⟩ : ∃ n4, n4 = w.heap.size := ⟨_, rfl⟩
    have o4 : w.heap.size ≤ n4 := by omega
    have o46 : n4 ≠ n6 := by omega
    rw [← hn4] at b0 ⊢
    clear hn4
    go_loopw [7, 8] (fun fb i wr => ∃ (q : Nat) (b : Bool) (lo hi : Int), q ≤ 10000 ∧ i = .int .i64 q ∧ fb = .bool b ∧ FoundAt (minL n c wrong q) b lo hi ∧ Blk wr n6 30 #[.int .i64 lo, .int .i64 hi] ∧ Blk wr n4 30 #[.int .i64 0, .int .i64 0] ∧ G w wr) (fun _ i _ => 10000 - (intOf i).toNat)
    case atStart => exact ⟨0, false, 0, 0, Nat.zero_le _, rfl, rfl, .inl ⟨rfl, rfl, rfl, rfl⟩, b6, b0, g6⟩
    case round =>
      clear b6 b0 g6
      obtain ⟨q, b, lo, hi, hq, rfl, rfl, hf, b6, b0, hG⟩ := hrel
      obtain ⟨wo, rfl⟩ : ∃ wo, wo = wr := ⟨_, rfl⟩
      by_cases hlt : q < 10000
      · have hki : (q : Int) ≤ 9999 := by omega
        have HC2 := Lib.hid (HC.out wo hG q)
        have hy := minL_yes (n := n) (c := c) (wrong := wrong) (q := q)
        have hno := minL_no (n := n) (c := c) (wrong := wrong) (q := q)
        by_cases hle : ((agN c q n : Nat) : Int) ≤ wrong
        · have hs := hf.snoc q
          rw [← hy hle] at hs
          have HS := Lib.hid hs
          clear hy hno hs hf HC
          generalize agN c q n = ag at *
          cases b
          · go_wp2_with (go_at_call 28; refine (HC2.out).mono ?_; rintro e w5 ⟨rfl, hG5⟩; replace b6 := b6.keep hG5; replace b0 := b0.keep hG5; have f0 := b6.cell 0; have f1 := b6.cell 1; have z0 := b6.frozen 0; have z1 := b6.frozen 1; have l0 := b6.lt)
            have bz := (b6.set_ 0 (.int .i64 (q : Nat))).set_ 1 (.int .i64 (q : Nat))
            have b0z := (b0.far (p := ⟨n6, 0, none⟩) (by simpa using o46) (.int .i64 (q : Nat))).far (p := ⟨n6, 1, none⟩) (by simpa using o46) (.int .i64 (q : Nat))
            have gz := ((hG.t hG5).s (p := ⟨n6, 0, none⟩) (by show w.heap.size ≤ n6; omega) (.int .i64 (q : Nat))).s (p := ⟨n6, 1, none⟩) (by show w.heap.size ≤ n6; omega) (.int .i64 (q : Nat))
            go_roundw
            case rel => exact ⟨q + 1, true, _, _, by omega, by go_num, rfl, HS.out, bz, b0z, gz⟩
            case measure => simp [intOf]; omega
          · go_wp2_with (go_at_call 28; refine (HC2.out).mono ?_; rintro e w5 ⟨rfl, hG5⟩; replace b6 := b6.keep hG5; replace b0 := b0.keep hG5; have f1 := b6.cell 1; have z1 := b6.frozen 1; have l0 := b6.lt)
            have bz := b6.set_ 1 (.int .i64 (q : Nat))
            have b0z := b0.far (p := ⟨n6, 1, none⟩) (by simpa using o46) (.int .i64 (q : Nat))
            have gz := (hG.t hG5).s (p := ⟨n6, 1, none⟩) (by show w.heap.size ≤ n6; omega) (.int .i64 (q : Nat))
            go_roundw
            case rel => exact ⟨q + 1, true, _, _, by omega, by go_num, rfl, HS.out, bz, b0z, gz⟩
            case measure => simp [intOf]; omega
        · have hs := hf
          rw [← hno hle] at hs
          have HS := Lib.hid hs
          clear hy hno hs hf HC
          generalize agN c q n = ag at *
          go_wp2_with (go_at_call 28; refine (HC2.out).mono ?_; rintro e w5 ⟨rfl, hG5⟩)
          go_roundw
          case rel => exact ⟨q + 1, b, lo, hi, by omega, by go_num, rfl, HS.out, b6.keep hG5, b0.keep hG5, hG.t hG5⟩
          case measure => simp [intOf]; omega
      · obtain rfl : q = 10000 := by omega
        have hki : ¬ ((10000 : Nat) : Int) ≤ 9999 := by omega
        have f0 := b0.cell 0
        have f1 := b0.cell 1
        have z0 := b0.frozen 0
        have z1 := b0.frozen 1
        have l0 := b0.lt
        clear HC
        rcases hf with ⟨rfl, hT, rfl, rfl⟩ | ⟨rfl, x, l, hT, rfl, rfl⟩
        · have hr2 := HR.out
          rw [hT] at hr2
          have HR2 := Lib.hid hr2
          clear hr2 hT HR
          go_wp2_with fail
          have hb2 : Blk ((wo.setCell ⟨n4, 0, none⟩ (.int .i64 0)).setCell ⟨n4, 1, none⟩ (.int .i64 0)) n4 30 #[.int .i64 0, .int .i64 0] := (b0.set_ 0 _).set_ 1 _
          exact bodyPost_ret (resMin29 _ _ n4 0 0 3 rfl rfl (hb2.cell 0) (hb2.cell 1)) rfl ⟨by rw [HR2.out], (hG.s (p := ⟨n4, 0, none⟩) o4 _).s (p := ⟨n4, 1, none⟩) o4 _⟩
        · have hr2 := HR.out
          rw [hT] at hr2
          have HR2 := Lib.hid hr2
          obtain ⟨lst, hlst⟩ : ∃ lst, lst = (x :: l).getLast (by simp) := ⟨_, rfl⟩
          have HR3 : Hid (RR = .tuple #[.agg #[.int .i64 (x : Nat), .int .i64 (lst : Nat)], .int .i64 0]) := by rw [hlst]; exact HR2.out
          rw [← hlst] at b6
          clear hr2 hT HR HR2 hlst
          have e0 := b6.cell 0
          have e1 := b6.cell 1
          have l6 := b6.lt
          go_wp2_with fail
          have hb2 : Blk ((wo.setCell ⟨n4, 0, none⟩ (.int .i64 (x : Nat))).setCell ⟨n4, 1, none⟩ (.int .i64 (lst : Nat))) n4 30 #[.int .i64 (x : Nat), .int .i64 (lst : Nat)] := (b0.set_ 0 _).set_ 1 _
          exact bodyPost_ret (resMin29 _ _ n4 _ _ 0 rfl rfl (hb2.cell 0) (hb2.cell 1)) rfl ⟨by rw [HR3.out], (hG.s (p := ⟨n4, 0, none⟩) o4 _).s (p := ⟨n4, 1, none⟩) o4 _⟩
end
end Go.Proofs.Ytcekdljjmfkacaa
