import Derived.Test.YtcekdljjmfkacaaGreatZe
import Derived.Test.YtcekdljjmfkacaaGreatOs
import Derived.Test.YtcekdljjmfkacaaGreatMb
set_option linter.unusedSimpArgs false
set_option linter.unusedVariables false
namespace Go.Proofs.YtcekdljjmfkacaaGreat
open Go.RowKit Go.Shelf
attribute [local go_sem] Oper.semAt_some wide_fn wide_dep wideR_fn wideR_dep
/-- a sky that can be -/
def skyB (s : Sk) : Bool := spanB s.wl s.wh 0 999 && (spanB s.sl s.sh 0 999 && spanB s.hl s.hh 0 999)
theorem rSky_any (s : Sk) (w : World) : Calls Tryz.prog 37 #[.agg s.v] w fun e w' => e = .returned (.bool (skyB s)) ∧ G w w' := rIsSky_any s.wl s.wh s.sl s.sh s.hl s.hh w
def lInB (lw lg lh : Int) (s : Sk) : Bool := decide (s.wh ≤ lw) && (decide (lg ≤ s.sl) && decide (s.hh ≤ lh))
def lOutB (lw lg lh : Int) (s : Sk) : Bool := decide (lw < s.wl) || (decide (s.sh < lg) || decide (lh < s.hl))
set_option maxHeartbeats 2000000 in
theorem rInside_any (lw lg lh : Int) (s : Sk) (w : World) : Calls Tryz.prog 86 #[.agg #[.int .i64 lw, .int .i64 lg, .int .i64 lh], .agg s.v] w fun e w' => e = .returned (.bool (lInB lw lg lh s)) ∧ G w w' := by
  obtain ⟨x0, x1, x2, x3, x4, x5⟩ := s
  change Calls Tryz.prog 86 #[.agg #[.int .i64 lw, .int .i64 lg, .int .i64 lh], .agg #[.int .i64 x0, .int .i64 x1, .int .i64 x2, .int .i64 x3, .int .i64 x4, .int .i64 x5]] w _
  by_cases h1 : x1 ≤ lw
  · by_cases h2 : lg ≤ x2
    · go_enter Tryz.func86, Tryz.ntmps86
      go_wp2
      go_ret
      exact ⟨by unfold lInB; rw [decide_eq_true (show x1 ≤ lw by omega), decide_eq_true (show lg ≤ x2 by omega)] <;> simp, ((G.rf _).a _).a _⟩
    · go_enter Tryz.func86, Tryz.ntmps86
      go_wp2
      go_ret
      exact ⟨by unfold lInB; rw [decide_eq_true (show x1 ≤ lw by omega), decide_eq_false (show ¬ lg ≤ x2 by omega)] <;> simp, ((G.rf _).a _).a _⟩
  · go_enter Tryz.func86, Tryz.ntmps86
    go_wp2
    go_ret
    exact ⟨by unfold lInB; rw [decide_eq_false (show ¬ x1 ≤ lw by omega)] <;> simp, ((G.rf _).a _).a _⟩
set_option maxHeartbeats 2000000 in
theorem rOutside_any (lw lg lh : Int) (s : Sk) (w : World) : Calls Tryz.prog 87 #[.agg #[.int .i64 lw, .int .i64 lg, .int .i64 lh], .agg s.v] w fun e w' => e = .returned (.bool (lOutB lw lg lh s)) ∧ G w w' := by
  obtain ⟨x0, x1, x2, x3, x4, x5⟩ := s
  change Calls Tryz.prog 87 #[.agg #[.int .i64 lw, .int .i64 lg, .int .i64 lh], .agg #[.int .i64 x0, .int .i64 x1, .int .i64 x2, .int .i64 x3, .int .i64 x4, .int .i64 x5]] w _
  by_cases h1 : ¬ lw < x0
  · by_cases h2 : ¬ x3 < lg
    · go_enter Tryz.func87, Tryz.ntmps87
      go_wp2
      go_ret
      exact ⟨by unfold lOutB; rw [decide_eq_false (show ¬ lw < x0 by omega), decide_eq_false (show ¬ x3 < lg by omega)] <;> simp, ((G.rf _).a _).a _⟩
    · go_enter Tryz.func87, Tryz.ntmps87
      go_wp2
      go_ret
      exact ⟨by unfold lOutB; rw [decide_eq_false (show ¬ lw < x0 by omega), decide_eq_true (show x3 < lg by omega)] <;> simp, ((G.rf _).a _).a _⟩
  · go_enter Tryz.func87, Tryz.ntmps87
    go_wp2
    go_ret
    exact ⟨by unfold lOutB; rw [decide_eq_true (show lw < x0 by omega)] <;> simp, ((G.rf _).a _).a _⟩
/-- no spot that the loops have met has a sky that cannot be -/
def SkyTo (f : Nat → Nat → Int) (k cols el T Y X : Nat) : Prop := ∀ t y x : Nat, y < el → x < cols → (t < T ∨ (t = T ∧ (y < Y ∨ (y = Y ∧ x < X)))) → skyB (known f x y t k) = true
def CdPost (w0 : World) (f : Nat → Nat → Int) (k cols el hours : Nat) (e : Ending) (w' : World) : Prop :=
  (e = .returned (.bool true) ∧ ¬ SkyTo f k cols el hours 0 0 ∧ G w0 w') ∨ (e = .returned (.bool false) ∧ SkyTo f k cols el hours 0 0 ∧ G w0 w')
section
variable (REL : Array Value) (f : Nat → Nat → Int) (k cols el hours fc ec : Nat) (ea fa : Option Addr) (w : World)
set_option maxRecDepth 100000 in
set_option maxHeartbeats 8000000 in
theorem rContra_any (hIS : IsRel REL) (h1 : REL[1]? = some (.int .i64 (cols : Nat))) (h2 : REL[2]? = some (.slice ea el ec)) (h11 : REL[11]? = some (.slice fa k fc)) (h15 : REL[15]? = some (.int .i64 (hours : Nat)))
    (hR : RowAt w fa k 12 f) (hk : k ≤ 1000) (b1 : cols ≤ 1000) (b2 : el ≤ 1000) (b3 : hours ≤ 1000) :
    Calls Tryz.prog 82 #[.agg REL] w (CdPost w f k cols el hours) := by
  have HKn := Lib.hid (fun (W : World) (hW : G w W) (x y t : Int) => rKnown_any REL f x y t k fc fa W h11 (hR.below hW) hk)
  have HS := Lib.hid (fun (s : Sk) (W : World) => rSky_any s W)
  have HYes : Hid (∀ w', SkyTo f k cols el hours 0 0 → G w w' → CdPost w f k cols el hours (.returned (.bool false)) w') := fun w' a b => .inr ⟨rfl, a, b⟩
  have HNo : Hid (∀ w', ¬ SkyTo f k cols el hours 0 0 → G w w' → CdPost w f k cols el hours (.returned (.bool true)) w') := fun w' a b => .inl ⟨rfl, a, b⟩
  generalize CdPost w f k cols el hours = PP at *
  have H1 := Lib.hid h1
  have H2 := Lib.hid h2
  have H15 := Lib.hid h15
  have HI := Lib.hid hIS
  have g0 : G w (w.alloc (.cells REL 35)) := (G.rf _).a _
  have b0 : Blk (w.alloc (.cells REL 35)) w.heap.size 35 REL := Blk.new _ _ _
  clear hR h11 h1 h2 h15 hIS
  go_enter Tryz.func82, Tryz.ntmps82
  go_upto_region 1 with fail
  change Code.wp _ _ _ _ (w.alloc (.cells REL 35))
  generalize w.alloc (.cells REL 35) = w1 at *
  go_wp2_with fail
  go_loopw [3] (fun i wr => ∃ T : Nat, T ≤ hours ∧ i = .int .i64 T ∧ Hid (SkyTo f k cols el T 0 0) ∧ Blk wr w.heap.size 35 REL ∧ G w wr) (fun i _ => hours - (intOf i).toNat)
  case atStart => exact ⟨0, Nat.zero_le _, rfl, (fun t y x _ _ h => by omega), b0, g0⟩
  case round =>
    obtain ⟨T, hT, rfl, hgd, hB, hGr⟩ := hrel
    obtain ⟨wy, rfl⟩ : ∃ wy, wy = wr := ⟨_, rfl⟩
    clear b0 g0
    have c15 : wy.cell? ⟨w.heap.size, 15, none⟩ = some (.int .i64 (hours : Nat)) := (hB.cell 15).trans H15.out
    have lF := hB.lt
    by_cases hlt : T < hours
    · have hYi : (T : Int) < hours := by omega
      go_wp2_with fail
      clear c15 lF
      go_loopw [4] (fun i wr => ∃ Y : Nat, Y ≤ el ∧ i = .int .i64 Y ∧ Hid (SkyTo f k cols el T Y 0) ∧ Blk wr w.heap.size 35 REL ∧ G w wr) (fun i _ => el - (intOf i).toNat)
      case atStart => exact ⟨0, Nat.zero_le _, rfl, hgd, hB, hGr⟩
      case round =>
        obtain ⟨Y, hY, rfl, hgx, hBx, hGx⟩ := hrel
        obtain ⟨wx, rfl⟩ : ∃ wx, wx = wr := ⟨_, rfl⟩
        clear hgd hB hGr
        have c2 : wx.cell? ⟨w.heap.size, 2, none⟩ = some (.slice ea el ec) := (hBx.cell 2).trans H2.out
        have lF := hBx.lt
        by_cases hltx : Y < el
        · have hXi : (Y : Int) < el := by omega
          go_wp2_with fail
          clear c2 lF
          go_loopw [5] (fun i wr => ∃ X : Nat, X ≤ cols ∧ i = .int .i64 X ∧ Hid (SkyTo f k cols el T Y X) ∧ Blk wr w.heap.size 35 REL ∧ G w wr) (fun i _ => cols - (intOf i).toNat)
          case atStart => exact ⟨0, Nat.zero_le _, rfl, hgx, hBx, hGx⟩
          case round =>
            obtain ⟨X, hX, rfl, hgh, hBh, hGh⟩ := hrel
            obtain ⟨wh, rfl⟩ : ∃ wh, wh = wr := ⟨_, rfl⟩
            clear hgx hBx hGx
            have c1 : wh.cell? ⟨w.heap.size, 1, none⟩ = some (.int .i64 (cols : Nat)) := (hBh.cell 1).trans H1.out
            have lF := hBh.lt
            by_cases hlth : X < cols
            · have hHi : (X : Int) < cols := by omega
              obtain ⟨sk, hsk⟩ : ∃ sk, sk = known f X Y T k := ⟨_, rfl⟩
              have HSK := Lib.hid hsk
              have hE := fun W : World => HS.out sk W
              clear hsk
              go_upto_region 10 with fail
              clear c1 lF
              refine wp_region_lit ?_
              refine wpList_load35 w.heap.size 1 HI.out rfl rfl rfl hBh ?_
              try simp only [Act.put, List.getElem_toArray, List.getElem_cons_zero, List.getElem_cons_succ, List.setIfInBounds_toArray, List.set_cons_zero, List.set_cons_succ]
              refine wpList_plain rfl fun K hK => ?_
              go_simp
              refine hK _ _ ?_
              clear hK
              try simp only [Act.put, List.getElem_toArray, List.getElem_cons_zero, List.getElem_cons_succ, List.setIfInBounds_toArray, List.set_cons_zero, List.set_cons_succ]
              refine wpList_plain rfl fun K hK => ?_
              go_simp
              refine hK _ _ ?_
              clear hK
              try simp only [Act.put, List.getElem_toArray, List.getElem_cons_zero, List.getElem_cons_succ, List.setIfInBounds_toArray, List.set_cons_zero, List.set_cons_succ]
              refine wpList_plain rfl fun K hK => ?_
              go_simp
              refine hK _ _ ?_
              clear hK
              try simp only [Act.put, List.getElem_toArray, List.getElem_cons_zero, List.getElem_cons_succ, List.setIfInBounds_toArray, List.set_cons_zero, List.set_cons_succ]
              refine wpList_plain rfl fun K hK => ?_
              go_simp
              refine hK _ _ ?_
              clear hK
              try simp only [Act.put, List.getElem_toArray, List.getElem_cons_zero, List.getElem_cons_succ, List.setIfInBounds_toArray, List.set_cons_zero, List.set_cons_succ]
              refine wpList_plain rfl fun K hK => ?_
              go_simp
              refine (HKn.out _ hGh X Y T).mono ?_
              rw [← HSK.out]
              rintro e w2 ⟨rfl, hG2⟩
              refine hK _ _ ?_
              clear hK
              try simp only [Act.put, List.getElem_toArray, List.getElem_cons_zero, List.getElem_cons_succ, List.setIfInBounds_toArray, List.set_cons_zero, List.set_cons_succ]
              cases hs : skyB sk
              · rw [hs] at hE
                have hbad : ¬ SkyTo f k cols el hours 0 0 := fun hg => by
                  have := hg T Y X hltx hlth (.inl hlt)
                  rw [← HSK.out, hs] at this
                  cases this
                have HBAD := Lib.hid hbad
                have HE2 := Lib.hid hE
                clear hs hE hbad
                refine wpList_plain rfl fun K hK => ?_
                go_simp
                refine (HE2.out _).mono ?_
                rintro e w5 ⟨rfl, hG5⟩
                refine hK _ _ ?_
                clear hK
                try simp only [Act.put, List.getElem_toArray, List.getElem_cons_zero, List.getElem_cons_succ, List.setIfInBounds_toArray, List.set_cons_zero, List.set_cons_succ]
                have HF := Lib.hid (HNo.out w5 HBAD.out ((hGh.t hG2).t hG5))
                go_wp2
                exact HF.out
              · rw [hs] at hE
                have hgood : SkyTo f k cols el T Y (X + 1) := fun t y x a b c => by
                  by_cases e : t = T ∧ y = Y ∧ x = X
                  · obtain ⟨rfl, rfl, rfl⟩ := e
                    rw [← HSK.out]
                    exact hs
                  · exact hgh.out t y x a b (by omega)
                have HG := Lib.hid hgood
                have HE2 := Lib.hid hE
                clear hs hE hgood
                refine wpList_plain rfl fun K hK => ?_
                go_simp
                refine (HE2.out _).mono ?_
                rintro e w5 ⟨rfl, hG5⟩
                refine hK _ _ ?_
                clear hK
                try simp only [Act.put, List.getElem_toArray, List.getElem_cons_zero, List.getElem_cons_succ, List.setIfInBounds_toArray, List.set_cons_zero, List.set_cons_succ]
                replace hBh := (hBh.keep hG2).keep hG5
                replace hGh := (hGh.t hG2).t hG5
                clear hG2 hG5
                go_wp2_with fail
                go_roundw
                case rel => exact ⟨X + 1, by omega, by go_num, HG.out, hBh, hGh⟩
                case measure => simp [intOf]; omega
            · obtain rfl : X = cols := by omega
              have hHi : ¬ ((X : Nat) : Int) < X := by omega
              go_wp2_with fail
              go_roundw
              case rel => exact ⟨Y + 1, by omega, by go_num, fun t y x a b c => hgh.out t y x a b (by omega), hBh, hGh⟩
              case measure => simp [intOf]; omega
        · obtain rfl : Y = el := by omega
          have hXi : ¬ ((Y : Nat) : Int) < Y := by omega
          go_wp2_with fail
          go_roundw
          case rel => exact ⟨T + 1, by omega, by go_num, fun t y x a b c => hgx.out t y x a b (by omega), hBx, hGx⟩
          case measure => simp [intOf]; omega
    · obtain rfl : T = hours := by omega
      have hYi : ¬ ((T : Nat) : Int) < T := by omega
      have HF := Lib.hid (HYes.out wy hgd.out hGr)
      go_wp2
      exact HF.out
end
end Go.Proofs.YtcekdljjmfkacaaGreat
set_option linter.unusedSimpArgs false
set_option linter.unusedVariables false
namespace Go.Proofs.YtcekdljjmfkacaaGreat
open Go.RowKit
attribute [local go_sem] Oper.semAt_some
set_option maxRecDepth 100000 in
set_option maxHeartbeats 4000000 in
theorem IdxPt_any (C : FuncId) (eg : ∀ args w, (callFunc C args).run Tryz.prog w = .ok (.enter C args) w) (lb : Array Value) (W : World) (a : Option Addr) (cap n : Nat) (c : Nat → Nat → Int) (p : Nat → Bool) (hn : n ≤ 1000)
    (ha : n = 0 ∨ ∃ g off, a = some ⟨g, off, none⟩ ∧ g < W.heap.size ∧ ∀ i, i < n → ∀ r, r < 2 → W.cell? ⟨g, off + i * 2 + r, none⟩ = some (.int .i64 (c i r)))
    (hc : ∀ W', G W W' → ∀ i, i < n → Calls Tryz.prog C (#[.agg #[.int .i64 (c i 0), .int .i64 (c i 1)]] ++ lb) W' fun e w' => e = .returned (.bool (p i)) ∧ G W' w') :
    Calls Tryz.prog 98 #[.slice a n cap, .func (.func C) #[] lb] W fun e w' => ∃ r : Int, e = .returned (.int .i64 r) ∧ decide (0 ≤ r) = anyU p n ∧ G W w' := by
  have HC := Lib.hid hc
  clear hc
  go_enter Tryz.func98, Tryz.ntmps98
  go_wp2
  go_loopw [8] (fun i wr => ∃ k : Nat, k ≤ n ∧ i = .int .i64 k ∧ Hid (∀ j, j < k → p j = false) ∧ G W wr) (fun i _ => n - (intOf i).toNat)
  case atStart => exact ⟨0, Nat.zero_le _, rfl, fun j hj => by omega, G.rf _⟩
  case round =>
    obtain ⟨k, hk, rfl, hno, hG⟩ := hrel
    by_cases hlt : k < n
    · have hki : (k : Int) < n := by omega
      rcases ha with h | ⟨g, off, rfl, hg, hcell⟩
      · omega
      have lg := Nat.lt_of_lt_of_le hg hG.size
      have hcl := fun r hr => ((bcellB hG).1 g _ hg).trans (hcell k hlt r hr)
      have q0 := hcl 0 (by omega)
      rw [Nat.add_zero] at q0
      have q1 := hcl 1 (by omega)
      have HC2 := Lib.hid (HC.out wr hG k hlt)
      clear hcl hcell HC
      cases hp : p k
      · rw [hp] at HC2
        have HP := Lib.hid hp
        clear hp
        go_wp2_with (go_at_fn C; refine (HC2.out).mono ?_; rintro e w1 ⟨rfl, hG1⟩)
        go_roundw
        case rel => exact ⟨k + 1, by omega, by go_num, fun j hj => by
          rcases Nat.lt_or_ge j k with h | h
          · exact hno.out j h
          · obtain rfl : j = k := by omega
            exact HP.out, hG.t hG1⟩
        case measure => simp [intOf]; omega
      · rw [hp] at HC2
        have HP := Lib.hid (anyU_yes hlt hp)
        clear hp
        go_wp2_with (go_at_fn C; refine (HC2.out).mono ?_; rintro e w1 ⟨rfl, hG1⟩)
        go_ret
        exact ⟨k, rfl, by rw [HP.out]; simp, hG.t hG1⟩
    · have hki : ¬ (k : Int) < n := by omega
      obtain rfl : k = n := by omega
      have HP := Lib.hid (anyU_no hno.out)
      go_wp2
      go_ret
      exact ⟨-1, rfl, by rw [HP.out]; rfl, hG⟩
theorem CtPt_any (C : FuncId) (eg : ∀ args w, (callFunc C args).run Tryz.prog w = .ok (.enter C args) w) (lb : Array Value) (W : World) (a : Option Addr) (cap n : Nat) (c : Nat → Nat → Int) (p : Nat → Bool) (hn : n ≤ 1000)
    (ha : n = 0 ∨ ∃ g off, a = some ⟨g, off, none⟩ ∧ g < W.heap.size ∧ ∀ i, i < n → ∀ r, r < 2 → W.cell? ⟨g, off + i * 2 + r, none⟩ = some (.int .i64 (c i r)))
    (hc : ∀ W', G W W' → ∀ i, i < n → Calls Tryz.prog C (#[.agg #[.int .i64 (c i 0), .int .i64 (c i 1)]] ++ lb) W' fun e w' => e = .returned (.bool (p i)) ∧ G W' w') :
    Calls Tryz.prog 67 #[.slice a n cap, .func (.func C) #[] lb] W fun e w' => e = .returned (.bool (anyU p n)) ∧ G W w' := by
  have HI := Lib.hid (IdxPt_any C eg lb W a cap n c p hn ha hc)
  clear ha hc
  go_enter Tryz.func67, Tryz.ntmps67
  go_wp2_with (go_at_call 98; refine (HI.out).mono ?_; rintro e w1 ⟨r, rfl, hr, hG1⟩; have HR := Lib.hid hr; clear hr)
  go_ret
  exact ⟨by rw [← HR.out]; first | rfl | simp, hG1⟩
set_option maxRecDepth 100000 in
set_option maxHeartbeats 4000000 in
theorem IdxFr_any (C : FuncId) (eg : ∀ args w, (callFunc C args).run Tryz.prog w = .ok (.enter C args) w) (lb : Array Value) (W : World) (a : Option Addr) (cap n : Nat) (c : Nat → Nat → Int) (p : Nat → Bool) (hn : n ≤ 1000)
    (ha : n = 0 ∨ ∃ g off, a = some ⟨g, off, none⟩ ∧ g < W.heap.size ∧ ∀ i, i < n → ∀ r, r < 12 → W.cell? ⟨g, off + i * 12 + r, none⟩ = some (.int .i64 (c i r)))
    (hc : ∀ W', G W W' → ∀ i, i < n → Calls Tryz.prog C (#[.agg #[.int .i64 (c i 0), .int .i64 (c i 1), .int .i64 (c i 2), .int .i64 (c i 3), .int .i64 (c i 4), .int .i64 (c i 5), .int .i64 (c i 6), .int .i64 (c i 7), .int .i64 (c i 8), .int .i64 (c i 9), .int .i64 (c i 10), .int .i64 (c i 11)]] ++ lb) W' fun e w' => e = .returned (.bool (p i)) ∧ G W' w') :
    Calls Tryz.prog 71 #[.slice a n cap, .func (.func C) #[] lb] W fun e w' => ∃ r : Int, e = .returned (.int .i64 r) ∧ decide (0 ≤ r) = anyU p n ∧ G W w' := by
  have HC := Lib.hid hc
  clear hc
  go_enter Tryz.func71, Tryz.ntmps71
  go_wp2
  go_loopw [8] (fun i wr => ∃ k : Nat, k ≤ n ∧ i = .int .i64 k ∧ Hid (∀ j, j < k → p j = false) ∧ G W wr) (fun i _ => n - (intOf i).toNat)
  case atStart => exact ⟨0, Nat.zero_le _, rfl, fun j hj => by omega, G.rf _⟩
  case round =>
    obtain ⟨k, hk, rfl, hno, hG⟩ := hrel
    by_cases hlt : k < n
    · have hki : (k : Int) < n := by omega
      rcases ha with h | ⟨g, off, rfl, hg, hcell⟩
      · omega
      have lg := Nat.lt_of_lt_of_le hg hG.size
      have hcl := fun r hr => ((bcellB hG).1 g _ hg).trans (hcell k hlt r hr)
      have q0 := hcl 0 (by omega)
      rw [Nat.add_zero] at q0
      have q1 := hcl 1 (by omega)
      have q2 := hcl 2 (by omega)
      have q3 := hcl 3 (by omega)
      have q4 := hcl 4 (by omega)
      have q5 := hcl 5 (by omega)
      have q6 := hcl 6 (by omega)
      have q7 := hcl 7 (by omega)
      have q8 := hcl 8 (by omega)
      have q9 := hcl 9 (by omega)
      have q10 := hcl 10 (by omega)
      have q11 := hcl 11 (by omega)
      have HC2 := Lib.hid (HC.out wr hG k hlt)
      clear hcl hcell HC
      cases hp : p k
      · rw [hp] at HC2
        have HP := Lib.hid hp
        clear hp
        go_wp2_with (go_at_fn C; refine (HC2.out).mono ?_; rintro e w1 ⟨rfl, hG1⟩)
        go_roundw
        case rel => exact ⟨k + 1, by omega, by go_num, fun j hj => by
          rcases Nat.lt_or_ge j k with h | h
          · exact hno.out j h
          · obtain rfl : j = k := by omega
            exact HP.out, hG.t hG1⟩
        case measure => simp [intOf]; omega
      · rw [hp] at HC2
        have HP := Lib.hid (anyU_yes hlt hp)
        clear hp
        go_wp2_with (go_at_fn C; refine (HC2.out).mono ?_; rintro e w1 ⟨rfl, hG1⟩)
        go_ret
        exact ⟨k, rfl, by rw [HP.out]; simp, hG.t hG1⟩
    · have hki : ¬ (k : Int) < n := by omega
      obtain rfl : k = n := by omega
      have HP := Lib.hid (anyU_no hno.out)
      go_wp2
      go_ret
      exact ⟨-1, rfl, by rw [HP.out]; rfl, hG⟩
theorem CtFr_any (C : FuncId) (eg : ∀ args w, (callFunc C args).run Tryz.prog w = .ok (.enter C args) w) (lb : Array Value) (W : World) (a : Option Addr) (cap n : Nat) (c : Nat → Nat → Int) (p : Nat → Bool) (hn : n ≤ 1000)
    (ha : n = 0 ∨ ∃ g off, a = some ⟨g, off, none⟩ ∧ g < W.heap.size ∧ ∀ i, i < n → ∀ r, r < 12 → W.cell? ⟨g, off + i * 12 + r, none⟩ = some (.int .i64 (c i r)))
    (hc : ∀ W', G W W' → ∀ i, i < n → Calls Tryz.prog C (#[.agg #[.int .i64 (c i 0), .int .i64 (c i 1), .int .i64 (c i 2), .int .i64 (c i 3), .int .i64 (c i 4), .int .i64 (c i 5), .int .i64 (c i 6), .int .i64 (c i 7), .int .i64 (c i 8), .int .i64 (c i 9), .int .i64 (c i 10), .int .i64 (c i 11)]] ++ lb) W' fun e w' => e = .returned (.bool (p i)) ∧ G W' w') :
    Calls Tryz.prog 32 #[.slice a n cap, .func (.func C) #[] lb] W fun e w' => e = .returned (.bool (anyU p n)) ∧ G W w' := by
  have HI := Lib.hid (IdxFr_any C eg lb W a cap n c p hn ha hc)
  clear ha hc
  go_enter Tryz.func32, Tryz.ntmps32
  go_wp2_with (go_at_call 71; refine (HI.out).mono ?_; rintro e w1 ⟨r, rfl, hr, hG1⟩; have HR := Lib.hid hr; clear hr)
  go_ret
  exact ⟨by rw [← HR.out]; first | rfl | simp, hG1⟩
section
variable (north cols lofts wrong bx bY sl sh lw lg lh hours dark : Int) (ea : Option Addr) (el ec : Nat) (sv hv fv : Value)
/-- the closure that tells whether a home is no place -/
theorem clos68_all (B : Nat) (x y : Int) (W : World) (hB : Blk W B 35 #[.int .i64 north, .int .i64 cols, .slice ea el ec, .int .i64 lofts, sv, .int .i64 wrong, .int .i64 bx, .int .i64 bY, hv, .int .i64 sl, .int .i64 sh, fv, .int .i64 lw, .int .i64 lg, .int .i64 lh, .int .i64 hours, .int .i64 dark]) (hc : 0 ≤ cols ∧ cols ≤ 9223372036854775807) (hel : el ≤ 9223372036854775807) :
    Calls Tryz.prog 68 #[.agg #[.int .i64 x, .int .i64 y], .pointer (some ⟨B, 0, none⟩)] W fun e w' => e = .returned (.bool (!isPlaceB cols el x y)) ∧ G W w' := by
  have hP := fun (W : World) => lPlace_any north cols lofts wrong x y ea el ec sv W hc hel
  have HP := Lib.hid hP
  clear hP
  have g0 : G W (W.alloc (.cells #[.int .i64 x, .int .i64 y] 27)) := (G.rf _).a _
  have b1 := hB.keep g0
  have p1 := Blk.new W 27 #[.int .i64 x, .int .i64 y]
  have f0 := p1.cell 0
  have f1 := p1.cell 1
  have l1 := p1.lt
  have m0 := b1.cell 0; have m1 := b1.cell 1; have m2 := b1.cell 2; have m3 := b1.cell 3; have m4 := b1.cell 4; have m5 := b1.cell 5; have lM := b1.lt
  go_enter Tryz.func68, Tryz.ntmps68
  go_wp2_with (go_at_call 49; refine (HP.out _).mono ?_; rintro e w1 ⟨rfl, hG1⟩)
  go_ret
  exact ⟨rfl, g0.t hG1⟩
/-- the closure that tells whether a weather is no span -/
theorem clos73_all (x y : Int) (W : World) : Calls Tryz.prog 73 #[.agg #[.int .i64 x, .int .i64 y]] W fun e w' => e = .returned (.bool (!spanB x y 0 999)) ∧ G W w' := by
  have HS := Lib.hid (fun (W : World) => lSpan_any x y 0 999 W)
  have p1 := Blk.new W 30 #[.int .i64 x, .int .i64 y]
  have f0 := p1.cell 0
  have f1 := p1.cell 1
  have l1 := p1.lt
  have g0 : G W (W.alloc (.cells #[.int .i64 x, .int .i64 y] 30)) := (G.rf _).a _
  go_enter Tryz.func73, Tryz.ntmps73
  go_wp2_with (go_at_call 69; refine (HS.out _).mono ?_; rintro e w1 ⟨rfl, hG1⟩)
  go_ret
  exact ⟨rfl, g0.t hG1⟩
end
end Go.Proofs.YtcekdljjmfkacaaGreat
