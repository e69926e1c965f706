import Derived.Test.YtpjfdfddcnocpaaHb
set_option linter.unusedSimpArgs false
set_option linter.unusedVariables false
namespace Go.Proofs.Ytpjfdfddcnocpaa
open Go.RowKit
attribute [local go_sem] Oper.semAt_some

def ptsV (P : List (Nat × Nat)) : List Value := P.flatMap fun p => [Value.int .i64 p.1, Value.int .i64 p.2]
theorem ptsV_snoc (P : List (Nat × Nat)) (p : Nat × Nat) : ptsV (P ++ [p]) = ptsV P ++ [Value.int .i64 p.1, Value.int .i64 p.2] := by
  unfold ptsV
  rw [List.flatMap_append]
  rfl
theorem cell_two_new (w : World) (t : TypeId) (u v : Value) : ∀ j x, [u, v][j]? = some x → (w.alloc (.cells #[u, v] t)).cell? ((⟨w.heap.size, 0, none⟩ : Addr).add j) = some x :=
  World.news_of_block (cs := #[u, v]) (t := t) (fr := (0, 0)) (heap_alloc_new w _)
/-- a row of the call's own grows: what stays -/
theorem grow_own {wb WX w4 : World} {base : Nat} {e : TypeId} {size n : Nat} {v : Value} {xs : List Value} (hG : G wb WX) (h : WX.ownsRow base e size v n xs) (hb : wb.heap.size ≤ base) (hg : WX.grownBy w4 v.ownBlock) : G wb w4 :=
  (Fr.grown (G.fr (R := fun _ => False) hG) hg (fun g e => .inr (Nat.le_trans hb (own_base h e)))).toG (fun _ _ h => h)
section
variable (north wrong : Int) (cols : Nat) (lofts : Int) (rows : Nat) (ea : Option Addr) (ec : Nat) (s : Value) (w : World)
set_option maxHeartbeats 4000000 in
theorem rPlaces_all (hc : cols ≤ 10) (hr : rows ≤ 10) :
    Calls Try.prog 75 #[.agg #[.int .i64 north, .int .i64 cols, .slice ea rows ec, .int .i64 lofts, s, .int .i64 wrong]] w fun e w' => ∃ v, e = .returned v ∧ w'.ownsRow w.heap.size 27 2 v (allP cols rows).length (ptsV (allP cols rows)) ∧ G w w' := by
  have hG0 : G w (w.alloc (.cells #[.int .i64 north, .int .i64 cols, .slice ea rows ec, .int .i64 lofts, s, .int .i64 wrong] 25)) := (G.rf _).a _
  have k0 := Blk.new w 25 #[.int .i64 north, .int .i64 cols, .slice ea rows ec, .int .i64 lofts, s, .int .i64 wrong]
  obtain ⟨i0, hi0, hz0, hz1, hz2⟩ := info_parts info27
  have HP : Hid (∀ (w' : World) (v : Value), w'.ownsRow w.heap.size 27 2 v (allP cols rows).length (ptsV (allP cols rows)) → G w w' → (fun (e : Ending) (w' : World) => ∃ v, e = .returned v ∧ w'.ownsRow w.heap.size 27 2 v (allP cols rows).length (ptsV (allP cols rows)) ∧ G w w') (.returned v) w') := fun w' v h1 h2 => ⟨v, rfl, h1, h2⟩
  generalize (fun (e : Ending) (w' : World) => ∃ v, e = .returned v ∧ w'.ownsRow w.heap.size 27 2 v (allP cols rows).length (ptsV (allP cols rows)) ∧ G w w') = PP at *
  go_enter Try.func75, Try.ntmps75
  go_wp2_with fail
  obtain ⟨W0, hW0⟩ : ∃ W0, (w.alloc (.cells #[.int .i64 north, .int .i64 cols, .slice ea rows ec, .int .i64 lofts, s, .int .i64 wrong] 25)) = W0 := ⟨_, rfl⟩
  rw [hW0] at hG0 k0 ⊢
  clear hW0
  go_loopw [3, 4] (fun v i wr => ∃ k : Nat, k ≤ rows ∧ i = .int .i64 k ∧ wr.ownsRow w.heap.size 27 2 v (allP cols k).length (ptsV (allP cols k)) ∧ G w wr ∧ Blk wr w.heap.size 25 #[.int .i64 north, .int .i64 cols, .slice ea rows ec, .int .i64 lofts, s, .int .i64 wrong]) (fun _ i _ => rows - (intOf i).toNat)
  case atStart => exact ⟨0, Nat.zero_le _, rfl, World.ownsRow_nil _ _ _ _, hG0, k0⟩
  case round =>
    obtain ⟨k, hk, rfl, hown, hGr, j0⟩ := hrel
    have HO := Lib.hid hown
    clear hown
    have m2 := j0.cell 2
    have lM := j0.lt
    have hlen := allP_len cols k
    by_cases hlt : k < rows
    · have hki : (k : Int) < rows := by omega
      go_wp2
      go_loopw [3, 5] (fun v i wi => ∃ x : Nat, x ≤ cols ∧ i = .int .i64 x ∧ wi.ownsRow w.heap.size 27 2 v (allP cols k ++ rowP k x).length (ptsV (allP cols k ++ rowP k x)) ∧ G w wi ∧ Blk wi w.heap.size 25 #[.int .i64 north, .int .i64 cols, .slice ea rows ec, .int .i64 lofts, s, .int .i64 wrong]) (fun _ i _ => cols - (intOf i).toNat)
      case atStart => exact ⟨0, Nat.zero_le _, rfl, by simpa [rowP] using HO.out, hGr, j0⟩
      case round =>
        obtain ⟨x, hx, rfl, hown2, hGi, j1⟩ := hrel
        have HO2 := Lib.hid hown2
        clear hown2 m2 lM
        have m1 := j1.cell 1
        have lM := j1.lt
        have hl2 : (allP cols k ++ rowP k x).length ≤ 110 := by
          rw [List.length_append, hlen, rowP_len]
          have : k * cols ≤ 10 * 10 := Nat.mul_le_mul (by omega) hc
          omega
        by_cases hlt2 : x < cols
        · have hxi : (x : Int) < cols := by omega
          have hs : allP cols k ++ rowP k (x + 1) = (allP cols k ++ rowP k x) ++ [(x, k)] := by rw [rowP_succ, List.append_assoc]
          have HS := Lib.hid hs
          clear hs hlen
          generalize allP cols k ++ rowP k x = L at *
          go_wp2_with (at_builtin; refine wpList_append_own _ rfl _ _ 36 rfl w.heap.size 27 i0 _ 2 16 Try.underlying36 hi0 hz0 hz1 hz2 rfl (by decide) _ L.length (ptsV L) rfl ?hown ⟨_, 0, none⟩ 1 1 [.int .i64 x, .int .i64 k] rfl rfl ?hcell (by simp [Value.oneCell']) (by unfold maxLen; omega) (by omega) ?hbase ?hrest)
          case hown => exact own_G HO2.out ((G.rf _).a _)
          case hcell => exact cell_two_new _ _ _ _
          case hbase => exact (hGi.a _).size
          case hrest =>
            intro v' w4 hown' hg4 hnil4
            have hg5 := grow_own (hGi.a _) (own_G HO2.out ((G.rf _).a _)) (Nat.le_refl _) hg4
            have j4 := (j1.alloc (.cells #[.int .i64 x, .int .i64 k] 27)).grown hg4 (own_ne (own_G HO2.out ((G.rf _).a _)) (j1.alloc (.cells #[.int .i64 x, .int .i64 k] 27)) (by decide))
            have HN := Lib.hid hown'
            clear hown' hg4 hnil4
            go_wp2
            go_roundw
            case rel => exact ⟨x + 1, by omega, by go_num, by rw [HS.out, ptsV_snoc, List.length_append]; exact HN.out, hg5, j4⟩
            case measure => simp [intOf]; omega
        · have hxi : ¬ (x : Int) < cols := by omega
          obtain rfl : x = cols := by omega
          have hs : allP x (k + 1) = allP x k ++ rowP k x := allP_succ _ _
          have HS := Lib.hid hs
          clear hs hlen
          go_wp2
          go_roundw
          case rel => exact ⟨k + 1, by omega, by go_num, by rw [HS.out]; exact HO2.out, hGi, j1⟩
          case measure => simp [intOf]; omega
    · have hki : ¬ (k : Int) < rows := by omega
      obtain rfl : k = rows := by omega
      have HF := Lib.hid (HP.out wr _ HO.out hGr)
      clear hlen
      go_wp2
      first | exact HF.out | (go_ret; exact HF.out)
end
end Go.Proofs.Ytpjfdfddcnocpaa
