import Derived.Test.YtpjfdfddcnocpaaHa
set_option linter.unusedSimpArgs false
set_option linter.unusedVariables false
namespace Go.Proofs.Ytpjfdfddcnocpaa
open Go.RowKit
attribute [local go_sem] Oper.semAt_some

/-- the numbers of the surveys that are blamed, among the first k -/
def blameK (bl : Sv → Bool) (svs : List Sv) (k : Nat) : List Nat := (List.range k).filter fun i => bl (svs.getD i default)
theorem blameK_succ (bl : Sv → Bool) (svs : List Sv) (k : Nat) : blameK bl svs (k + 1) = if bl (svs.getD k default) then blameK bl svs k ++ [k] else blameK bl svs k := by
  unfold blameK
  rw [List.range_succ, List.filter_append, List.filter_cons]
  split <;> simp
theorem blameK_len (bl : Sv → Bool) (svs : List Sv) (k : Nat) : (blameK bl svs k).length ≤ k := by
  have := List.length_filter_le (fun i => bl (svs.getD i default)) (List.range k)
  unfold blameK
  rw [List.length_range] at this
  exact this
theorem blameK_count (bl : Sv → Bool) (svs : List Sv) : (blameK bl svs svs.length).length = (svs.filter bl).length := by
  have key : ∀ k, k ≤ svs.length → (blameK bl svs k).length = ((svs.take k).filter bl).length := by
    intro k
    induction k with
    | zero => intro _; simp [blameK]
    | succ k ih =>
      intro h
      rw [blameK_succ, filter_take_succ bl svs k (by omega), ← ih (by omega)]
      split <;> simp
  have := key svs.length (Nat.le_refl _)
  rw [List.take_length] at this
  exact this
theorem own_G {X Y : World} {base : Nat} {e : TypeId} {size k : Nat} {v : Value} {xs : List Value} (h : X.ownsRow base e size v k xs) (hk : G X Y) : Y.ownsRow base e size v k xs :=
  ownsRow_kt h (G.kt (T := fun _ => False) (B := 0) hk) (fun h => h)
def natV (l : List Nat) : List Value := l.map fun n : Nat => Value.int .i64 (n : Int)
def BlamePost (w : World) (bl : List Nat) (e : Ending) (w' : World) : Prop := ∃ v, e = .returned (.tuple #[v, .int .i64 0]) ∧ w'.ownsRow w.heap.size 3 1 v bl.length (natV bl) ∧ G w w'

section
variable (north wrong : Int) (cols lofts : Nat) (east : List Int) (svs : List Sv) (ea sa : Option Addr) (ec sc : Nat) (w : World)
set_option maxRecDepth 100000 in
set_option maxHeartbeats 4000000 in
theorem Blame_ok (he : IntsAt w ea east) (hs : SvsAt w sa svs) (hk : checkE north cols east lofts svs wrong = 0) (hw : ¬ wrong < fewSum north cols east svs lofts) :
    Calls Try.prog 32 #[.agg #[.int .i64 north, .int .i64 cols, .slice ea east.length ec, .int .i64 lofts, .slice sa svs.length sc, .int .i64 wrong]] w
      (BlamePost w (blameK (blamed north east (spotsOf north cols east svs) (wrong - fewSum north cols east svs lofts)) svs svs.length)) := by
  obtain ⟨hv, hl2, hso⟩ := checkE_zero hk
  have hvb := vm_bounds hv
  have hQ := fun (W : World) (hW : G w W) => question_ok north wrong cols lofts east svs ea sa ec sc true [] none 0 W (he.below hW) (hs.below hW) (.inl rfl) (by simp) hk
  have HQ := Lib.hid hQ
  have hfew := Nat.le_trans (fewSum_le north cols east svs lofts hl2) (show lofts * 16 ≤ 128 by omega)
  have hrl : ∀ j, j < lofts → (spotsOf north cols east svs j).length ≤ 100 := fun j _ => spotsOf_len north cols east svs j (by omega) (by omega)
  have hcan := fun (W : World) (hW : G w W) (O l : Nat) (slv : Nat → Value) (s : Sv) (hsl : s.loft = l) (hll : l < lofts) (hs1 : svOk cols east.length lofts s = true) (hO : Blk W O 91 (oc north cols (.slice ea east.length ec) lofts (.slice sa svs.length sc) wrong (fewSum north cols east svs lofts) slv)) (hSp : ∀ j, j < lofts → SpotsAt W (slv j) (spotsOf north cols east svs j)) =>
    callsIn_wide.1 (canHold_in 4 (by omega) north wrong cols lofts l east svs ea sa ec sc O (fewSum north cols east svs lofts) slv (spotsOf north cols east svs) s hsl W (he.below hW) hv hs1 hfew hO hSp hrl (fun l _ s hs => spotsOf_mem hs) hll)
  have hbl : ∀ (s : Sv) (l : Nat), s.loft = l → heldF north east s l (truthsOf (spotsOf north cols east svs) [l] (wrong - fewSum north cols east svs lofts)) = !blamed north east (spotsOf north cols east svs) (wrong - fewSum north cols east svs lofts) s := fun s l h => by
    unfold heldF blamed
    rw [h, Int.toNat_natCast, Bool.not_not]
  have hcan2 : ∀ (W : World) (hW : G w W) (O l : Nat) (slv : Nat → Value) (s : Sv) (hsl : s.loft = l) (hll : l < lofts) (hs1 : svOk cols east.length lofts s = true) (hO : Blk W O 91 (oc north cols (.slice ea east.length ec) lofts (.slice sa svs.length sc) wrong (fewSum north cols east svs lofts) slv)) (hSp : ∀ j, j < lofts → SpotsAt W (slv j) (spotsOf north cols east svs j)),
      Calls Try.prog 65 #[.pointer (some ⟨O, 0, none⟩), .agg #[.int .i64 l, .int .i64 s.kind, .int .i64 s.xl, .int .i64 s.xh, .int .i64 s.yl, .int .i64 s.yh, .int .i64 s.ax, .int .i64 s.ay, .int .i64 s.dl, .int .i64 s.dh]] W fun e w' => e = .returned (.bool (!blamed north east (spotsOf north cols east svs) (wrong - fewSum north cols east svs lofts) s)) ∧ G W w' := fun W hW O l slv s hsl hll hs1 hO hSp => by
    rw [← hbl s l hsl]
    exact hcan W hW O l slv s hsl hll hs1 hO hSp
  have HCAN := Lib.hid hcan2
  have hsof : ∀ k, k < svs.length → svOk cols east.length lofts (svs.getD k default) = true := fun k hk => by
    have := (List.all_eq_true.1 hso) svs[k] (List.getElem_mem hk)
    simpa [hk] using this
  have HSO := Lib.hid hsof
  clear hcan hcan2 hbl hrl hfew hso hQ hv hk hsof
  generalize blamed north east (spotsOf north cols east svs) (wrong - fewSum north cols east svs lofts) = bl at *
  have hG1 : G w (w.alloc (.cells #[.int .i64 north, .int .i64 cols, .slice ea east.length ec, .int .i64 lofts, .slice sa svs.length sc, .int .i64 wrong] 25)) := (G.rf _).a _
  have B0 := Blk.new w 25 #[.int .i64 north, .int .i64 cols, .slice ea east.length ec, .int .i64 lofts, .slice sa svs.length sc, .int .i64 wrong]
  have HP : Hid (∀ w' v, w'.ownsRow w.heap.size 3 1 v (blameK bl svs svs.length).length (natV (blameK bl svs svs.length)) → G w w' → BlamePost w (blameK bl svs svs.length) (.returned (.tuple #[v, .int .i64 0])) w') := fun w' v h1 h2 => ⟨v, rfl, h1, h2⟩
  generalize BlamePost w (blameK bl svs svs.length) = PP at *
  go_enter Try.func32, Try.ntmps32
  go_wp2_with fail
  refine (HQ.out _ hG1).mono ?_
  rintro e w1 ⟨hGx, hp⟩
  rw [if_neg (by simp), if_neg (by omega)] at hp
  obtain ⟨O, hOl, rfl, ⟨slv, hO, hSp⟩⟩ := hp
  have b0 := B0.keep hGx
  have g1 := hG1.t hGx
  have m4 := b0.cell 4
  have l0 := b0.lt
  clear B0 hG1 hGx HQ
  go_wp2_with fail
  go_loopw [6, 20] (fun v i wr => ∃ k : Nat, k ≤ svs.length ∧ i = .int .i64 k ∧ wr.ownsRow w1.heap.size 3 1 v (blameK bl svs k).length (natV (blameK bl svs k)) ∧ G w1 wr) (fun _ i _ => svs.length - (intOf i).toNat)
  case atStart => exact ⟨0, Nat.zero_le _, rfl, World.ownsRow_nil _ _ _ _, G.rf _⟩
  case round =>
    obtain ⟨k, hk, rfl, hown, hGr⟩ := hrel
    have hbk := blameK_len bl svs k
    by_cases hlt : k < svs.length
    · rcases hs.below (g1.t hGr) with rfl | ⟨b, off, rfl, hbb, hcell⟩
      · simp at hlt
      have hcx := hcell k hlt
      have hsx := HSO.out k hlt
      have hsc := blameK_succ bl svs k
      generalize svs.getD k default = s at hcx hsx hsc
      have hlo : ∃ l : Nat, s.loft = l ∧ l < lofts := by
        unfold svOk validSurveyB isInB at hsx
        simp at hsx
        exact ⟨s.loft.toNat, by omega, by omega⟩
      obtain ⟨l, hsl, hll⟩ := hlo
      have HC := Lib.hid (fun (W : World) (hW : G wr W) => HCAN.out W ((g1.t hGr).t hW) O l slv s hsl hll hsx (hO.keep (hGr.t hW)) (fun j hj => (hSp j hj).of (fun g cur hb => hb.keep (hGr.t hW))))
      obtain ⟨x0, x1, x2, x3, x4, x5, x6, x7, x8, x9⟩ := hcx
      rw [hsl] at x0
      clear hcell hs hsx
      cases hb : bl s
      · rw [hb] at HC hsc
        rw [if_neg (by simp)] at hsc
        have HS := Lib.hid hsc
        clear hsc
        have HOWN := Lib.hid hown
        clear hown
        go_wp2_with (go_at_call 65; refine (HC.out _ ((G.rf _).a _)).mono ?_; rintro e w2 ⟨rfl, hG2⟩)
        go_roundw
        case rel => exact ⟨k + 1, by omega, by go_num, by rw [HS.out]; exact own_G HOWN.out (((G.rf _).a _).t hG2), (hGr.a _).t hG2⟩
        case measure => simp [intOf]; omega
      · rw [hb] at HC hsc
        rw [if_pos rfl] at hsc
        have HS := Lib.hid hsc
        clear hsc
        have HOWN := Lib.hid hown
        obtain ⟨i0, hi0, hz0, hz1, hz2⟩ := info_parts info3
        have l1 := hGr.size
        clear hown
        go_wp2_with (first | (go_at_call 65; refine (HC.out _ ((G.rf _).a _)).mono ?_; rintro e w2 ⟨rfl, hG2⟩; have hO2 := own_G HOWN.out (((G.rf _).a _).t hG2); have hGw := (hGr.a _).t hG2; have l2 := hGw.size) | (at_builtin; refine wpList_append_own _ rfl _ _ 22 rfl w1.heap.size 3 i0 (.int .i64 0) 1 8 Try.underlying22 hi0 hz0 hz1 hz2 rfl (by decide) _ _ _ rfl (hO2.alloc _) ⟨w2.heap.size, 0, none⟩ 1 1 [.int .i64 k] rfl rfl (cell_one_new _ _ _) (by simp [Value.oneCell']) (by unfold maxLen; omega) (by omega) (by simp; omega) ?_; intro v' w3 hown' hg3 hnil3; go_frame))
        have hfin : v' = v' ∧ w3.ownsRow w1.heap.size 3 1 v' (blameK bl svs (k + 1)).length (natV (blameK bl svs (k + 1))) ∧ G w1 w3 := by
          refine ⟨rfl, ?_, ?_⟩
          · rw [HS.out]
            simpa [natV] using hown'
          · refine (Fr.grown ((G.fr (R := fun _ => False) hGw).a _) hg3 (fun g e => .inr ?_)).toG (fun _ _ h => h)
            have := own_base hO2 e
            omega
        have HFin := Lib.hid hfin
        clear hfin hown' hg3 hnil3 hO2
        go_wp2
        go_roundw
        case rel => exact ⟨k + 1, by omega, by go_num, HFin.out.2.1, HFin.out.2.2⟩
        case measure => simp [intOf]; omega
    · obtain rfl : k = svs.length := by omega
      have HF := Lib.hid (HP.out wr _ (own_weaken hown (g1.size)) (g1.t hGr))
      clear hown
      go_wp2
      exact HF.out
end
end Go.Proofs.Ytpjfdfddcnocpaa
