import Derived.Test.YtpjfdfddcnocpaaSb
set_option linter.unusedSimpArgs false
set_option linter.unusedVariables false
namespace Go.Proofs.Ytpjfdfddcnocpaa
open Go.RowKit
attribute [local go_sem] Oper.semAt_some

def minA (l : List Nat) : Nat := l.foldl min (l.getD 0 0)
theorem minA_le (l : List Nat) : minA l ≤ l.getD 0 0 := (foldl_min_le _ _).1
theorem minA_low (north : Int) (cols : Nat) (east : List Int) (svs : List Sv) (j : Nat) (hc : 1 ≤ cols) (hr : 1 ≤ east.length) : minA (costsL north cols east svs j) = lowC north east svs j (allP cols east.length) := by
  obtain ⟨h1, p, hp, h2⟩ := low_spec north cols east svs j hc hr
  have hne : 0 < (costsL north cols east svs j).length := by
    unfold costsL
    rw [List.length_map, allP_len]
    exact Nat.mul_pos (by omega) (by omega)
  have hm : minA (costsL north cols east svs j) ∈ costsL north cols east svs j := by
    rcases foldl_min_mem (costsL north cols east svs j) ((costsL north cols east svs j).getD 0 0) with h | h
    · unfold minA
      rw [h]
      simp [hne]
    · exact h
  obtain ⟨q, hq, e⟩ := List.mem_map.1 hm
  have h3 : minA (costsL north cols east svs j) ≤ cost north east svs j p := (foldl_min_le _ _).2 _ (List.mem_map.2 ⟨p, hp, rfl⟩)
  have h4 := h1 q hq
  omega
def sumM (cs : Nat → List Nat) (k : Nat) : Nat := ((List.range k).map fun j => minA (cs j)).sum
theorem sumM_few (north : Int) (cols lofts : Nat) (east : List Int) (svs : List Sv) (hc : 1 ≤ cols) (hr : 1 ≤ east.length) : sumM (costsL north cols east svs) lofts = fewSum north cols east svs lofts := by
  unfold sumM fewSum
  exact sumR_congr lofts fun j _ => minA_low north cols east svs j hc hr
def LeastPost (w : World) (cs : Nat → List Nat) (k : Nat) (e : Ending) (w' : World) : Prop := ∃ v, e = .returned (.tuple #[v, .int .i64 (sumM cs k : Nat)]) ∧ w'.ownsRow w.heap.size 3 1 v k (natV ((List.range k).map fun j => minA (cs j))) ∧ G w w'
set_option maxHeartbeats 4000000 in
theorem rLeast_any (w : World) (g cap k N : Nat) (cs : Nat → List Nat) (hg : g < w.heap.size) (hC : CostsAt w g k N cs) (hk8 : k ≤ 8) (hN0 : 0 < N) (hN1 : N ≤ 1000) (hcs : ∀ j, (cs j).length = N) (hb : ∀ j, ∀ x ∈ cs j, x ≤ 16) :
    Calls Try.prog 72 #[.slice (some ⟨g, 0, none⟩) k cap] w (LeastPost w cs k) := by
  have HP : Hid (∀ (w' : World) (v : Value), w'.ownsRow w.heap.size 3 1 v k (natV ((List.range k).map fun j => minA (cs j))) → G w w' → LeastPost w cs k (.returned (.tuple #[v, .int .i64 (sumM cs k : Nat)])) w') := fun w' v h1 h2 => ⟨v, rfl, h1, h2⟩
  generalize LeastPost w cs k = PP at *
  obtain ⟨i0, hi0, hz0, hz1, hz2⟩ := info_parts info3
  have HB := Lib.hid hb
  have HCS := Lib.hid hcs
  have HC := Lib.hid hC
  clear hb hcs hC
  go_enter Try.func72, Try.ntmps72
  go_wp2
  go_loopw [4, 5, 6] (fun v s i wr => ∃ j : Nat, j ≤ k ∧ i = .int .i64 j ∧ s = .int .i64 (sumM cs j : Nat) ∧ sumM cs j ≤ 16 * j ∧ wr.ownsRow w.heap.size 3 1 v j (natV ((List.range j).map fun j => minA (cs j))) ∧ G w wr) (fun _ _ i _ => k - (intOf i).toNat)
  case atStart => exact ⟨0, Nat.zero_le _, rfl, by simp [sumM], by simp [sumM], World.ownsRow_nil _ _ _ _, G.rf _⟩
  case round =>
    obtain ⟨j, hj, rfl, rfl, hsb, hown, hGr⟩ := hrel
    obtain ⟨wo, rfl⟩ : ∃ wo, wo = wr := ⟨_, rfl⟩
    have HO := Lib.hid hown
    clear hown
    by_cases hlt : j < k
    · have hji : (j : Int) < k := by omega
      obtain ⟨gi, ci, c1, hgi, hcell⟩ := (HC.out.keep hg hGr) j hlt
      have hgo := Nat.lt_of_lt_of_le hg hGr.size
      have hcl := HCS.out j
      have hN0i : (0 : Int) < N := by omega
      have hc0 := hcell 0 hN0
      have HCell := Lib.hid hcell
      clear hcell
      have hd16 : (cs j).getD 0 0 ≤ 16 := HB.out j _ (by simp [show 0 < (cs j).length by omega])
      obtain ⟨d0, hd0⟩ : ∃ d0, d0 = (cs j).getD 0 0 := ⟨_, rfl⟩
      rw [← hd0] at hc0 hd16
      have HD0 := Lib.hid hd0
      clear hd0
      go_wp2
      go_loopw [7, 8] (fun n i wi => ∃ x : Nat, x ≤ N ∧ i = .int .i64 x ∧ n = .int .i64 (((cs j).take x).foldl min d0 : Nat) ∧ wi = wo) (fun _ i _ => N - (intOf i).toNat)
      case atStart => exact ⟨0, Nat.zero_le _, rfl, by simp, by first | rfl | trivial⟩
      case round =>
        obtain ⟨x, hx, rfl, rfl, hw⟩ := hrel
        rw [hw]
        clear hw
        by_cases hlt2 : x < N
        · have hxi : (x : Int) < N := by omega
          have hcx := HCell.out x hlt2
          have hs : (((cs j).take (x + 1)).foldl min d0) = min (((cs j).take x).foldl min d0) ((cs j).getD x 0) := by
            rw [List.take_succ_eq_append_getElem (by omega), List.foldl_append]
            simp [show x < (cs j).length by omega]
          generalize ((cs j).take x).foldl min d0 = A at *
          generalize (cs j).getD x 0 = B at *
          have hmn : min (A : Int) (B : Int) = ((min A B : Nat) : Int) := by omega
          have HS := Lib.hid hs
          clear hs
          go_wp2
          go_roundw
          case rel => exact ⟨x + 1, by omega, by go_num, by first | (rw [HS.out]; done) | (rw [HS.out]; first | rfl | rw [← hmn] | go_num), by first | rfl | trivial⟩
          case measure => simp [intOf]; omega
        · have hxi : ¬ (x : Int) < N := by omega
          have hm : ((cs j).take x).foldl min d0 = minA (cs j) := by
            rw [List.take_of_length_le (by omega), HD0.out]; rfl
          rw [hm]
          have hms : sumM cs (j + 1) = sumM cs j + minA (cs j) := sumR_succ _ _
          have hrs : (List.range (j + 1)).map (fun j => minA (cs j)) = (List.range j).map (fun j => minA (cs j)) ++ [minA (cs j)] := by rw [List.range_succ, List.map_append]; rfl
          have hm16 : minA (cs j) ≤ 16 := Nat.le_trans (minA_le _) (by rw [← HD0.out]; exact hd16)
          generalize minA (cs j) = mm at *
          have HMS := Lib.hid hms
          have HRS := Lib.hid hrs
          have x1 : IntKind.i64.wrap ((sumM cs j : Int) + mm) = ((sumM cs j + mm : Nat) : Int) := by rw [IntWalk.i64_in _ (by omega)]; omega
          clear hms hrs hm
          go_wp2_with (at_builtin; refine wpList_append_own _ rfl _ _ 22 rfl w.heap.size 3 i0 (.int .i64 0) 1 8 Try.underlying22 hi0 hz0 hz1 hz2 rfl (by decide) _ j (natV ((List.range j).map fun j => minA (cs j))) rfl ?hown ⟨_, 0, none⟩ 1 1 [.int .i64 (mm : Nat)] rfl rfl (cell_one_new _ _ _) (by simp [Value.oneCell']) (by unfold maxLen; omega) (by omega) ?hbase ?hrest)
          case hown => exact own_G HO.out ((G.rf _).a _)
          case hbase => exact Nat.le_succ_of_le hGr.size
          case hrest =>
            intro v' w4 hown' hg4 hnil4
            have gX : G wo (wo.alloc (.cells #[.int .i64 (mm : Nat)] 3)) := (G.rf _).a _
            have y2 := grow_own (hGr.t gX) (own_G HO.out gX) (Nat.le_refl _) hg4
            have HN := Lib.hid hown'
            clear hown' hg4 hnil4 gX
            go_wp2
            go_roundw
            case rel => exact ⟨j + 1, by omega, by go_num, by rw [HMS.out]; first | rfl | go_num, by rw [HMS.out]; omega, by rw [HRS.out]; simpa [natV] using HN.out, y2⟩
            case measure => simp [intOf]; omega
    · have hji : ¬ (j : Int) < k := by omega
      obtain rfl : j = k := by omega
      have HF := Lib.hid (HP.out wo _ HO.out hGr)
      go_wp2
      exact HF.out
end Go.Proofs.Ytpjfdfddcnocpaa
