import Derived.Test.YtcekdljjmfkacaaNf
set_option linter.unusedSimpArgs false
set_option linter.unusedVariables false
namespace Go.Proofs.Ytcekdljjmfkacaa
open Go.RowKit
attribute [local go_sem] Oper.semAt_some
/-- a spot that the loops have met when they stand at row Y, column X, hour H -/
def doneB (cols el hours : Nat) (Y X H : Nat) (x y h : Int) : Bool := decide (0 ≤ x ∧ x < cols ∧ 0 ≤ y ∧ y < el ∧ 0 ≤ h ∧ h < hours ∧ (y < Y ∨ (y = Y ∧ (x < X ∨ (x = X ∧ h < H)))))
def SD (f : Nat → Nat → Int) (k cols el hours : Nat) (Y X H : Nat) : Int → Int → Int → Option Sk := fun x y h => if doneB cols el hours Y X H x y h = true then some (known f x y h k) else none
section
variable {f : Nat → Nat → Int} {k cols el hours : Nat}
theorem SD_zero : SD f k cols el hours 0 0 0 = fun _ _ _ => none := by
  funext x y h
  unfold SD doneB
  rw [if_neg]
  simp only [decide_eq_true_eq]
  omega
theorem SD_step {Y X H : Nat} (h1 : Y < el) (h2 : X < cols) (h3 : H < hours) : SD f k cols el hours Y X (H + 1) = fun x' y' t' => if x' = (X : Int) ∧ y' = (Y : Int) ∧ t' = (H : Int) then some (known f X Y H k) else SD f k cols el hours Y X H x' y' t' := by
  funext x y h
  unfold SD doneB
  simp only [decide_eq_true_eq]
  by_cases e : x = (X : Int) ∧ y = (Y : Int) ∧ h = (H : Int)
  · obtain ⟨rfl, rfl, rfl⟩ := e
    rw [if_pos (by omega), if_pos ⟨rfl, rfl, rfl⟩]
  · rw [if_neg e]
    congr 1
    simp only [eq_iff_iff]
    omega
theorem SD_hour {Y X : Nat} : SD f k cols el hours Y X hours = SD f k cols el hours Y (X + 1) 0 := by
  funext x y h
  unfold SD doneB
  simp only [decide_eq_true_eq]
  congr 1
  simp only [eq_iff_iff]
  omega
theorem SD_col {Y : Nat} : SD f k cols el hours Y cols 0 = SD f k cols el hours (Y + 1) 0 0 := by
  funext x y h
  unfold SD doneB
  simp only [decide_eq_true_eq]
  congr 1
  simp only [eq_iff_iff]
  omega
end
/-- no weather met so far is empty -/
def GoodTo (f : Nat → Nat → Int) (k cols el hours Y X H : Nat) : Prop := ∀ x y h s, SD f k cols el hours Y X H x y h = some s → skNone s = false
theorem wp_mapStore {o : Oper} {a : Act} {W : World} {K : Act → World → Prop} {Q : Exit → Act → World → Prop} (tm tk tv : Nat) {m n : Nat} {S : Int → Int → Int → Option Sk} {x y t : Int} {s : Sk} (ho : o.op = Op.mapUpdate 110 (.tmp tm) (.tmp tk) (.tmp tv))
    (hm : a.eval (.tmp tm) = .map (some m)) (hk : a.eval (.tmp tk) = spotV x y t) (hv : a.eval (.tmp tv) = .agg s.v) (hW : WMap W m n S) (hx : i64b x) (hy : i64b y) (ht : i64b t) (hn : n < maxLen)
    (h : ∀ W', WMap W' m (n + 1) (fun x' y' t' => if x' = x ∧ y' = y ∧ t' = t then some s else S x' y' t') → W.grownBy W' (some m) → K (a.put o.dst undef) W') : Oper.wp Try.prog o a W K Q := by
  obtain ⟨W', hrun, h1, h2⟩ := hW.store hx hy ht hn s
  unfold Oper.wp
  simp [execOp, ho, hm, hk, hv, hrun, Result.andThen]
  exact h W' h1 h2
def TwPost (w0 : World) (f : Nat → Nat → Int) (k cols el hours F m : Nat) (FC : Array Value) (e : Ending) (w' : World) : Prop :=
  (e = .returned (.bool true) ∧ GoodTo f k cols el hours el 0 0 ∧ G w0 w' ∧ Blk w' F 112 FC ∧ ∃ cnt, WMap w' m cnt (SD f k cols el hours el 0 0)) ∨ (e = .returned (.bool false) ∧ ¬ GoodTo f k cols el hours el 0 0 ∧ G w0 w')
theorem grow_map {w0 W W' : World} {m : Nat} (hG : G w0 W) (hg : W.grownBy W' (some m)) (hm : w0.heap.size ≤ m) : G w0 W' :=
  (Fr.grown (G.fr (R := fun _ => False) hG) hg (fun g e => .inr (by cases e; exact hm))).toG (fun _ _ h => h)
theorem WMap.ne {W : World} {m n F : Nat} {t : TypeId} {cs : Array Value} {S : Int → Int → Int → Option Sk} (h : WMap W m n S) (hb : Blk W F t cs) : F ≠ m := fun e => by
  subst e
  obtain ⟨D, h1, _⟩ := h
  obtain ⟨es, clock, hm, _⟩ := h1
  unfold Blk at hb
  rw [hb] at hm
  cases hm
section
variable (f : Nat → Nat → Int) (k cols el hours fc ec F m : Nat) (ea fa : Option Addr) (FC : Array Value) (w0 w : World)
set_option maxRecDepth 100000 in
set_option maxHeartbeats 8000000 in
theorem tellWeather_any (hF : Blk w F 112 FC) (h1 : FC[1]? = some (.int .i64 (cols : Nat))) (h2 : FC[2]? = some (.slice ea el ec)) (h11 : FC[11]? = some (.slice fa k fc)) (h15 : FC[15]? = some (.int .i64 (hours : Nat))) (h18 : FC[18]? = some (.map (some m)))
    (hR : RowAt w0 fa k 12 f) (hk12 : k ≤ 12) (hG : G w0 w) (hFn : w0.heap.size ≤ F) (hmn : w0.heap.size ≤ m) (hW : WMap w m 0 (fun _ _ _ => none)) (b1 : cols ≤ 10) (b2 : el ≤ 10) (b3 : hours ≤ 12) :
    Calls Try.prog 72 #[.pointer (some ⟨F, 0, none⟩)] w (TwPost w0 f k cols el hours F m FC) := by
  have HT := Lib.hid (fun (W : World) (hW : G w0 W) (hB : Blk W F 112 FC) (x y h : Int) => told_any f x y h k fc fa F FC W hB h11 (hR.below hW) hk12)
  have HE := Lib.hid (fun (s : Sk) (W : World) => isEmpty_any s W)
  have HYes : Hid (∀ w', GoodTo f k cols el hours el 0 0 → G w0 w' → Blk w' F 112 FC → (∃ cnt, WMap w' m cnt (SD f k cols el hours el 0 0)) → TwPost w0 f k cols el hours F m FC (.returned (.bool true)) w') := fun w' a b c d => .inl ⟨rfl, a, b, c, d⟩
  have HNo : Hid (∀ w', ¬ GoodTo f k cols el hours el 0 0 → G w0 w' → TwPost w0 f k cols el hours F m FC (.returned (.bool false)) w') := fun w' a b => .inr ⟨rfl, a, b⟩
  generalize TwPost w0 f k cols el hours F m FC = PP at *
  have H1 := Lib.hid h1
  have H2 := Lib.hid h2
  have H15 := Lib.hid h15
  have H18 := Lib.hid h18
  clear hR h11 h1 h2 h15 h18
  have c2 : w.cell? ⟨F, 2, none⟩ = some (.slice ea el ec) := (hF.cell 2).trans H2.out
  have lF := hF.lt
  go_enter Try.func72, Try.ntmps72
  go_wp2_with fail
  go_loopw [15] (fun i wr => ∃ Y : Nat, Y ≤ el ∧ i = .int .i64 Y ∧ Hid (GoodTo f k cols el hours Y 0 0) ∧ Hid (∃ cnt, cnt ≤ Y * 200 ∧ WMap wr m cnt (SD f k cols el hours Y 0 0)) ∧ Blk wr F 112 FC ∧ G w0 wr) (fun i _ => el - (intOf i).toNat)
  case atStart => exact ⟨0, Nat.zero_le _, rfl, (fun x y h s hs => by rw [SD_zero] at hs; cases hs), ⟨0, by omega, by rw [SD_zero]; exact hW⟩, hF, hG⟩
  case round =>
    obtain ⟨Y, hY, rfl, hgd, hmp, hB, hGr⟩ := hrel
    obtain ⟨wy, rfl⟩ : ∃ wy, wy = wr := ⟨_, rfl⟩
    clear c2 lF hF hG hW
    by_cases hlt : Y < el
    · have hYi : (Y : Int) < el := by omega
      have c1 : wy.cell? ⟨F, 1, none⟩ = some (.int .i64 (cols : Nat)) := (hB.cell 1).trans H1.out
      have lF := hB.lt
      go_wp2_with fail
      clear c1 lF
      go_loopw [24] (fun i wr => ∃ X : Nat, X ≤ cols ∧ i = .int .i64 X ∧ Hid (GoodTo f k cols el hours Y X 0) ∧ Hid (∃ cnt, cnt ≤ Y * 200 + X * 15 ∧ WMap wr m cnt (SD f k cols el hours Y X 0)) ∧ Blk wr F 112 FC ∧ G w0 wr) (fun i _ => cols - (intOf i).toNat)
      case atStart => exact ⟨0, Nat.zero_le _, rfl, hgd, by simpa using hmp, hB, hGr⟩
      case round =>
        obtain ⟨X, hX, rfl, hgx, hmx, hBx, hGx⟩ := hrel
        obtain ⟨wx, rfl⟩ : ∃ wx, wx = wr := ⟨_, rfl⟩
        clear hgd hmp hB hGr
        by_cases hltx : X < cols
        · have hXi : (X : Int) < cols := by omega
          have c15 : wx.cell? ⟨F, 15, none⟩ = some (.int .i64 (hours : Nat)) := (hBx.cell 15).trans H15.out
          have lF := hBx.lt
          go_wp2_with fail
          clear c15 lF
          go_loopw [32] (fun i wr => ∃ H : Nat, H ≤ hours ∧ i = .int .i64 H ∧ Hid (GoodTo f k cols el hours Y X H) ∧ Hid (∃ cnt, cnt ≤ Y * 200 + X * 15 + H ∧ WMap wr m cnt (SD f k cols el hours Y X H)) ∧ Blk wr F 112 FC ∧ G w0 wr) (fun i _ => hours - (intOf i).toNat)
          case atStart => exact ⟨0, Nat.zero_le _, rfl, hgx, by simpa using hmx, hBx, hGx⟩
          case round =>
            obtain ⟨H, hH, rfl, hgh, hmh, hBh, hGh⟩ := hrel
            obtain ⟨wh, rfl⟩ : ∃ wh, wh = wr := ⟨_, rfl⟩
            clear hgx hmx hBx hGx
            by_cases hlth : H < hours
            · have hHi : (H : Int) < hours := by omega
              have HCN := Lib.hid (hmh.out)
              obtain ⟨sk, hsk⟩ : ∃ sk, sk = known f X Y H k := ⟨_, rfl⟩
              have HSK := Lib.hid hsk
              have hst := SD_step (f := f) (k := k) (cols := cols) (el := el) (hours := hours) hlt hltx hlth
              rw [← hsk] at hst
              have HST := Lib.hid hst
              clear hst hsk
              go_upto_region 11 with fail
              have bsp := Blk.new wh 105 #[.int .i64 (X : Nat), .int .i64 (Y : Nat), .int .i64 (H : Nat)]
              have hGa : G wh (wh.alloc (.cells #[.int .i64 (X : Nat), .int .i64 (Y : Nat), .int .i64 (H : Nat)] 105)) := (G.rf _).a _
              generalize wh.alloc (.cells #[.int .i64 (X : Nat), .int .i64 (Y : Nat), .int .i64 (H : Nat)] 105) = w1 at *
              obtain ⟨nS, hnS⟩ : ∃ n, n = wh.heap.size := ⟨_, rfl⟩
              rw [← hnS] at bsp ⊢
              clear hnS
              have t0 := bsp.cell 0
              have t1 := bsp.cell 1
              have t2 := bsp.cell 2
              have lsp := bsp.lt
              refine wp_region_lit ?_
              refine wpList_plain rfl fun K hK => ?_
              go_simp
              refine hK _ _ ?_
              clear hK
              try simp only [Act.put, List.getElem_toArray, List.getElem_cons_zero, List.getElem_cons_succ, List.setIfInBounds_toArray, List.set_cons_zero, List.set_cons_succ]
              refine wpList_plain rfl fun K hK => ?_
              go_simp
              refine hK _ _ ?_
              clear hK
              try simp only [Act.put, List.getElem_toArray, List.getElem_cons_zero, List.getElem_cons_succ, List.setIfInBounds_toArray, List.set_cons_zero, List.set_cons_succ]
              refine wpList_plain rfl fun K hK => ?_
              go_simp
              refine (HT.out _ (hGh.t hGa) (hBh.keep hGa) X Y H).mono ?_
              rw [← HSK.out]
              rintro e w2 ⟨rfl, hG2⟩
              refine hK _ _ ?_
              clear hK t0 t1 t2 lsp
              try simp only [Act.put, List.getElem_toArray, List.getElem_cons_zero, List.getElem_cons_succ, List.setIfInBounds_toArray, List.set_cons_zero, List.set_cons_succ]
              refine wpList_plain rfl fun K hK => ?_
              go_simp
              refine hK _ _ ?_
              clear hK
              try simp only [Act.put, List.getElem_toArray, List.getElem_cons_zero, List.getElem_cons_succ, List.setIfInBounds_toArray, List.set_cons_zero, List.set_cons_succ]
              refine wpList_store102 w2.heap.size 7 42 (x := sk0) rfl rfl rfl rfl (Blk.new w2 102 _) fun W3 hB3 hF3 hG3 => ?_
              try simp only [Act.put, List.getElem_toArray, List.getElem_cons_zero, List.getElem_cons_succ, List.setIfInBounds_toArray, List.set_cons_zero, List.set_cons_succ]
              have hG4 : G w1 W3 := hG3 w1 hG2.size (hG2.a _)
              replace bsp := bsp.keep hG4
              have hGw : G wh W3 := hGa.t hG4
              obtain ⟨nK, hnK⟩ : ∃ n, n = w2.heap.size := ⟨_, rfl⟩
              rw [← hnK] at hB3 ⊢
              clear hF3 hG3 hnK hG2 hG4 hGa
              have hE := fun W : World => HE.out sk W
              cases hs : skNone sk
              · rw [hs] at hE
                have HS2 := Lib.hid hs
                have HE2 := Lib.hid hE
                clear hs hE
                go_upto_region 12 with fail
                refine wp_region_lit ?_
                refine wpList_load102 nK 7 rfl rfl rfl hB3 ?_
                try simp only [Act.put, List.getElem_toArray, List.getElem_cons_zero, List.getElem_cons_succ, List.setIfInBounds_toArray, List.set_cons_zero, List.set_cons_succ]
                go_wp2_with fail
                refine (HE2.out _).mono ?_
                rintro e w5 ⟨rfl, hG5⟩
                replace bsp := bsp.keep hG5
                replace hB3 := hB3.keep hG5
                replace hGw := hGw.t hG5
                clear hG5
                have hBF := hBh.keep hGw
                obtain ⟨cnt, hcnt, hmap⟩ := HCN.out
                replace hmap := hmap.keep hGw
                go_wp2_with fail
                have hSk : ∀ W', G w5 W' → Blk W' nS 105 #[.int .i64 (X : Nat), .int .i64 (Y : Nat), .int .i64 (H : Nat)] ∧ Blk W' nK 102 sk.v ∧ W'.cell? ⟨F, 18, none⟩ = some (.map (some m)) := fun W' hW => ⟨bsp.keep hW, hB3.keep hW, ((hBF.keep hW).cell 18).trans H18.out⟩
                refine wp_region_Y (S := fun W' => Blk W' nS 105 #[.int .i64 (X : Nat), .int .i64 (Y : Nat), .int .i64 (H : Nat)] ∧ Blk W' nK 102 sk.v ∧ W'.cell? ⟨F, 18, none⟩ = some (.map (some m))) 6 7 rfl (by kernel_rfl) (hSk _ (G.rf _).d) (fun hS => ?_)
                refine wpAnyY_take (i := 0) (v := ?_) rfl (by kernel_rfl) (by kernel_rfl) (by kernel_rfl) (by kernel_rfl) (fun _ _ _ h => h) (Or.inl ⟨by kernel_rfl, ?_⟩) hS ?_
                rotate_left
                · intro w' hSw; go_simp; with_reducible rfl
                try simp only [Act.put, List.getElem_toArray, List.getElem_cons_zero, List.getElem_cons_succ, List.setIfInBounds_toArray, List.set_cons_zero, List.set_cons_succ]
                refine wpAnyY_take (i := 1) (v := ?_) rfl (by kernel_rfl) (by kernel_rfl) (by kernel_rfl) (by kernel_rfl) (fun _ _ _ h => h) (Or.inl ⟨by kernel_rfl, ?_⟩) hS ?_
                rotate_left
                · intro w' hSw; go_simp; with_reducible rfl
                try simp only [Act.put, List.getElem_toArray, List.getElem_cons_zero, List.getElem_cons_succ, List.setIfInBounds_toArray, List.set_cons_zero, List.set_cons_succ]
                refine wpAnyY_take (i := 2) (v := ?_) rfl (by kernel_rfl) (by kernel_rfl) (by kernel_rfl) (by kernel_rfl) (fun _ _ _ h => h) (Or.inl ⟨by kernel_rfl, ?_⟩) hS ?_
                rotate_left
                · intro w' hSw; go_simp; with_reducible rfl
                try simp only [Act.put, List.getElem_toArray, List.getElem_cons_zero, List.getElem_cons_succ, List.setIfInBounds_toArray, List.set_cons_zero, List.set_cons_succ]
                refine wpAnyY_take (i := 3) (v := ?_) rfl (by kernel_rfl) (by kernel_rfl) (by kernel_rfl) (by kernel_rfl) (fun _ _ _ h => h) (Or.inl ⟨by kernel_rfl, ?_⟩) hS ?_
                rotate_left
                · intro w' hSw; have y18 := hSw.2.2; go_simp; with_reducible rfl
                try simp only [Act.put, List.getElem_toArray, List.getElem_cons_zero, List.getElem_cons_succ, List.setIfInBounds_toArray, List.set_cons_zero, List.set_cons_succ]
                refine wpAnyY_take (i := 4) (v := ?_) rfl (by kernel_rfl) (by kernel_rfl) (by kernel_rfl) (by kernel_rfl) (fun _ _ _ h => h) (Or.inl ⟨by kernel_rfl, ?_⟩) hS ?_
                rotate_left
                · intro w' hSw; have e0 := hSw.1.cell 0; have e1 := hSw.1.cell 1; have e2 := hSw.1.cell 2; go_simp; with_reducible rfl
                try simp only [Act.put, List.getElem_toArray, List.getElem_cons_zero, List.getElem_cons_succ, List.setIfInBounds_toArray, List.set_cons_zero, List.set_cons_succ]
                refine wpAnyY_take (i := 5) (v := .agg sk.v) rfl (by kernel_rfl) (by kernel_rfl) (by kernel_rfl) (by kernel_rfl) (fun _ _ _ h => h) (Or.inl ⟨by kernel_rfl, ?_⟩) hS ?_
                · intro w' hSw; exact load102 w' nK 7 _ _ rfl (by kernel_rfl) hSw.2.1
                try simp only [Act.put, List.getElem_toArray, List.getElem_cons_zero, List.getElem_cons_succ, List.setIfInBounds_toArray, List.set_cons_zero, List.set_cons_succ]
                refine wpAnyY_oneW (i := 6) (by kernel_rfl) rfl (by kernel_rfl) (by kernel_rfl) (fun K6 hK6 => ?_)
                have hmd : WMap w5.drew m cnt (SD f k cols el hours Y X H) := hmap.keep (G.rf w5).d
                refine wp_mapStore 48 49 50 (x := (X : Nat)) (y := (Y : Nat)) (t := (H : Nat)) (s := sk) rfl rfl rfl rfl hmd (by unfold i64b; omega) (by unfold i64b; omega) (by unfold i64b; omega) (by unfold maxLen; omega) fun W6 hm6 hg6 => ?_
                refine hK6.out _ _ ?_
                try simp only [Act.put, List.getElem_toArray, List.getElem_cons_zero, List.getElem_cons_succ, List.setIfInBounds_toArray, List.set_cons_zero, List.set_cons_succ]
                refine wpAnyY_done (by kernel_rfl) ?_ _
                have hne : F ≠ m := hmap.ne hBF
                have hB6 : Blk W6 F 112 FC := (hBF.keep (G.rf w5).d).grown hg6 (by intro e; cases e; exact hne rfl)
                have hG6 : G w0 W6 := grow_map ((hGh.t hGw).d) hg6 hmn
                have hgood : GoodTo f k cols el hours Y X (H + 1) := fun x y h s he => by
                  rw [HST.out] at he
                  dsimp only at he
                  by_cases e : x = (X : Int) ∧ y = (Y : Int) ∧ h = (H : Int)
                  · rw [if_pos e] at he
                    cases he
                    exact HS2.out
                  · rw [if_neg e] at he
                    exact hgh.out x y h s he
                have HG := Lib.hid hgood
                have HM : Hid (∃ c, c ≤ Y * 200 + X * 15 + (H + 1) ∧ WMap W6 m c (SD f k cols el hours Y X (H + 1))) := ⟨cnt + 1, by omega, by rw [HST.out]; exact hm6⟩
                clear hS hSk hK6 hmd hmap hBF hm6 hg6 bsp hB3 hgood hne
                go_wp2_with fail
                go_roundw
                case rel => exact ⟨H + 1, by omega, by go_num, HG.out, HM.out, hB6, hG6⟩
                case measure => simp [intOf]; omega
              · rw [hs] at hE
                have hbad : ¬ GoodTo f k cols el hours el 0 0 := fun hg => by
                  have := hg X Y H sk (by
                    unfold SD doneB
                    rw [if_pos (by simp only [decide_eq_true_eq]; omega), ← HSK.out])
                  rw [hs] at this
                  cases this
                have HBAD := Lib.hid hbad
                have HE2 := Lib.hid hE
                clear hs hE hbad
                go_upto_region 12 with fail
                refine wp_region_lit ?_
                refine wpList_load102 nK 7 rfl rfl rfl hB3 ?_
                try simp only [Act.put, List.getElem_toArray, List.getElem_cons_zero, List.getElem_cons_succ, List.setIfInBounds_toArray, List.set_cons_zero, List.set_cons_succ]
                go_wp2_with fail
                refine (HE2.out _).mono ?_
                rintro e w5 ⟨rfl, hG5⟩
                have HF := Lib.hid (HNo.out w5 HBAD.out ((hGh.t hGw).t hG5))
                go_wp2
                exact HF.out
            · obtain rfl : H = hours := by omega
              have hHi : ¬ ((H : Nat) : Int) < H := by omega
              go_wp2_with fail
              go_roundw
              case rel => exact ⟨X + 1, by omega, by go_num, by have := hgh.out; unfold GoodTo at *; rw [← SD_hour]; exact this, by
                obtain ⟨cnt, h1, h2⟩ := hmh.out
                exact ⟨cnt, by omega, by rw [← SD_hour]; exact h2⟩, hBh, hGh⟩
              case measure => simp [intOf]; omega
        · obtain rfl : X = cols := by omega
          have hXi : ¬ ((X : Nat) : Int) < X := by omega
          go_wp2_with fail
          go_roundw
          case rel => exact ⟨Y + 1, by omega, by go_num, by have := hgx.out; unfold GoodTo at *; rw [← SD_col]; exact this, by
            obtain ⟨cnt, h1, h2⟩ := hmx.out
            exact ⟨cnt, by omega, by rw [← SD_col]; exact h2⟩, hBx, hGx⟩
          case measure => simp [intOf]; omega
    · obtain rfl : Y = el := by omega
      have hYi : ¬ ((Y : Nat) : Int) < Y := by omega
      have HF := Lib.hid (HYes.out wy hgd.out hGr hB (by obtain ⟨cnt, _, h⟩ := hmp.out; exact ⟨cnt, h⟩))
      go_wp2
      exact HF.out
end
end Go.Proofs.Ytcekdljjmfkacaa
