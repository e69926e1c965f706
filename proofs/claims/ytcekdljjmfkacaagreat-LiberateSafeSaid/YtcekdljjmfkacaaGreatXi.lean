import Derived.Test.YtcekdljjmfkacaaGreatXh
import Derived.Test.YtcekdljjmfkacaaGreatXd
import Derived.Test.YtcekdljjmfkacaaGreatXe
import Derived.Test.YtcekdljjmfkacaaGreatXf
set_option linter.unusedSimpArgs false
set_option linter.unusedVariables false
namespace Go.Proofs.YtcekdljjmfkacaaGreat
open Go.RowKit Go.Shelf
attribute [local go_sem] Oper.semAt_some wide_fn wide_dep wideR_fn wideR_dep
/-- the first of N minutes from a on at which one may fly, and no error, or no minute and the error that there is none -/
def firstR (fly : Nat → Bool) (a N : Nat) : Int × Int := match (List.range N).find? (fun j => fly (a + j)) with
  | some j => (((a + j : Nat) : Int), 0)
  | none => (0, 3)
theorem firstR_some {fly : Nat → Bool} {a N k : Nat} (hk : k < N) (h : fly (a + k) = true) (hn : ∀ j, j < k → fly (a + j) = false) : firstR fly a N = (((a + k : Nat) : Int), 0) := by
  have : (List.range N).find? (fun j => fly (a + j)) = some k := by
    rw [List.find?_range_eq_some]
    exact ⟨h, List.mem_range.2 hk, fun j hj => by rw [hn j hj]; rfl⟩
  unfold firstR
  rw [this]
theorem firstR_none {fly : Nat → Bool} {a N : Nat} (hn : ∀ j, j < N → fly (a + j) = false) : firstR fly a N = (0, 3) := by
  have : (List.range N).find? (fun j => fly (a + j)) = none := by
    rw [List.find?_range_eq_none]
    exact fun j hj => by rw [hn j hj]; rfl
  unfold firstR
  rw [this]
/-- an error of the release, or what First tells -/
def FiPost (w : World) (Z : Int) (p : Int × Int) (e : Ending) (w' : World) : Prop := e = .returned (.tuple #[.int .i64 (if Z = 0 then p.1 else 0), .int .i64 (if Z = 0 then p.2 else Z)]) ∧ G w w'
section
variable (a b N : Nat) (Z : Int) (b1 b2 : Bool) (REL : Array Value) (FcP : World → Nat → Prop) (fly : Nat → Bool) (w : World)
set_option maxRecDepth 100000 in
set_option maxHeartbeats 4000000 in
theorem First_walk (hIs : IsRel REL) (ha : a ≤ 1000000) (hb : b ≤ 1000000) (hN : N = b + 1 - a) (hI : ∀ W, Calls Tryz.prog 43 #[.int .i64 (a : Nat)] W fun e w' => e = .returned (.bool b1) ∧ G W w') (hM : ∀ W, Calls Tryz.prog 43 #[.int .i64 (b : Nat)] W fun e w' => e = .returned (.bool b2) ∧ G W w')
    (hQ : ∀ W, G w W → Calls Tryz.prog 48 #[.agg REL, .bool (b1 && b2)] W (QR W Z FcP)) (hkp : ∀ W W' F, FcP W F → G W W' → FcP W' F) (hF : ∀ W F mi, G w W → FcP W F → mi ≤ 1000000 → Calls Tryz.prog 60 #[.pointer (some ⟨F, 0, none⟩), .int .i64 (mi : Nat)] W fun e w' => e = .returned (.bool (fly mi)) ∧ G W w') :
    Calls Tryz.prog 25 #[.agg REL, .int .i64 (a : Nat), .int .i64 (b : Nat)] w (FiPost w Z (firstR fly a N)) := by
  have HOK : Hid (∀ w' x y, Z = 0 → firstR fly a N = (x, y) → G w w' → FiPost w Z (firstR fly a N) (.returned (.tuple #[.int .i64 x, .int .i64 y])) w') := fun w' x y h hf a => ⟨by rw [if_pos h, if_pos h, hf], a⟩
  have HER : Hid (∀ w', Z ≠ 0 → G w w' → FiPost w Z (firstR fly a N) (.returned (.tuple #[.int .i64 0, .int .i64 Z])) w') := fun w' h a => ⟨by rw [if_neg h, if_neg h], a⟩
  generalize FiPost w Z (firstR fly a N) = PP at *
  have HIS := Lib.hid hIs
  have HI := Lib.hid hI
  have HM := Lib.hid hM
  have HQ := Lib.hid hQ
  have HF := Lib.hid hF
  have HKP := Lib.hid hkp
  clear hI hM hQ hF hIs hkp
  have g0 : G w (w.alloc (.cells REL 35)) := (G.rf _).a _
  have b0 : Blk (w.alloc (.cells REL 35)) w.heap.size 35 REL := Blk.new w 35 REL
  go_enter Tryz.func25, Tryz.ntmps25
  go_upto_region 1 with fail
  change Code.wp _ _ _ _ (w.alloc (.cells REL 35))
  generalize w.alloc (.cells REL 35) = w1 at *
  refine wp_region_Y (S := fun W' => Blk W' w.heap.size 35 REL) 12 13 rfl (by kernel_rfl) (b0.keep (G.rf _).d) (fun hS => ?_)
  have ga := (G.rf w1).d
  refine wpAnyY_take (i := 0) (v := .agg REL) rfl (by kernel_rfl) (by kernel_rfl) (by kernel_rfl) (by kernel_rfl) (fun _ _ _ h => h) (Or.inl ⟨by kernel_rfl, ?_⟩) hS ?_
  · intro w' hSw; exact load46o w' w.heap.size 3 HIS.out _ _ rfl (by kernel_rfl) hSw
  try simp only [Act.put, List.getElem_toArray, List.getElem_cons_zero, List.getElem_cons_succ, List.setIfInBounds_toArray, List.set_cons_zero, List.set_cons_succ]
  refine wpAnyY_take (i := 1) (v := ?_) rfl (by kernel_rfl) (by kernel_rfl) (by kernel_rfl) (by kernel_rfl) (fun _ _ _ h => h) (Or.inl ⟨by kernel_rfl, ?_⟩) hS ?_
  rotate_left
  · intro w' hSw; go_simp; with_reducible rfl
  try simp only [Act.put, List.getElem_toArray, List.getElem_cons_zero, List.getElem_cons_succ, List.setIfInBounds_toArray, List.set_cons_zero, List.set_cons_succ]
  refine wpAnyY_oneSW (i := 2) (by kernel_rfl) rfl (by kernel_rfl) (fun K2 hK2 => ?_)
  go_simp
  refine (HI.out _).mono ?_
  rintro e w2 ⟨rfl, hG2⟩
  replace ga := ga.t hG2
  refine hK2.out _ _ (b0.keep ga) (fun hS => ?_)
  try simp only [Act.put, List.getElem_toArray, List.getElem_cons_zero, List.getElem_cons_succ, List.setIfInBounds_toArray, List.set_cons_zero, List.set_cons_succ]
  refine wpAnyY_take (i := 3) (v := ?_) rfl (by kernel_rfl) (by kernel_rfl) (by kernel_rfl) (by kernel_rfl) (fun _ _ _ h => h) (Or.inl ⟨by kernel_rfl, ?_⟩) hS ?_
  rotate_left
  · intro w' hSw; go_simp; with_reducible rfl
  try simp only [Act.put, List.getElem_toArray, List.getElem_cons_zero, List.getElem_cons_succ, List.setIfInBounds_toArray, List.set_cons_zero, List.set_cons_succ]
  cases b1
  ·
    refine wpAnyY_take (i := 4) (v := undef) rfl (by kernel_rfl) (by kernel_rfl) (by kernel_rfl) (by kernel_rfl) (fun _ _ _ h => h) (Or.inr ⟨by kernel_rfl, rfl⟩) hS ?_
    try simp only [Act.put, List.getElem_toArray, List.getElem_cons_zero, List.getElem_cons_succ, List.setIfInBounds_toArray, List.set_cons_zero, List.set_cons_succ]
    refine wpAnyY_take (i := 5) (v := undef) rfl (by kernel_rfl) (by kernel_rfl) (by kernel_rfl) (by kernel_rfl) (fun _ _ _ h => h) (Or.inr ⟨by kernel_rfl, rfl⟩) hS ?_
    try simp only [Act.put, List.getElem_toArray, List.getElem_cons_zero, List.getElem_cons_succ, List.setIfInBounds_toArray, List.set_cons_zero, List.set_cons_succ]
    refine wpAnyY_take (i := 6) (v := ?_) rfl (by kernel_rfl) (by kernel_rfl) (by kernel_rfl) (by kernel_rfl) (fun _ _ _ h => h) (Or.inl ⟨by kernel_rfl, ?_⟩) hS ?_
    rotate_left
    · intro w' hSw; go_simp; with_reducible rfl
    try simp only [Act.put, List.getElem_toArray, List.getElem_cons_zero, List.getElem_cons_succ, List.setIfInBounds_toArray, List.set_cons_zero, List.set_cons_succ]
    refine wpAnyY_oneSW (i := 7) (by kernel_rfl) rfl (by kernel_rfl) (fun K7 hK7 => ?_)
    go_simp
    refine (HQ.out _ (g0.t ga)).mono ?_
    rintro e w4 ⟨p, rfl, hG7, hZ⟩
    replace ga := ga.t hG7
    refine hK7.out _ _ (b0.keep ga) (fun hS => ?_)
    try simp only [Act.put, List.getElem_toArray, List.getElem_cons_zero, List.getElem_cons_succ, List.setIfInBounds_toArray, List.set_cons_zero, List.set_cons_succ]
    refine wpAnyY_take (i := 8) (v := ?_) rfl (by kernel_rfl) (by kernel_rfl) (by kernel_rfl) (by kernel_rfl) (fun _ _ _ h => h) (Or.inl ⟨by kernel_rfl, ?_⟩) hS ?_
    rotate_left
    · intro w' hSw; go_simp; with_reducible rfl
    try simp only [Act.put, List.getElem_toArray, List.getElem_cons_zero, List.getElem_cons_succ, List.setIfInBounds_toArray, List.set_cons_zero, List.set_cons_succ]
    refine wpAnyY_take (i := 9) (v := ?_) rfl (by kernel_rfl) (by kernel_rfl) (by kernel_rfl) (by kernel_rfl) (fun _ _ _ h => h) (Or.inl ⟨by kernel_rfl, ?_⟩) hS ?_
    rotate_left
    · intro w' hSw; go_simp; with_reducible rfl
    try simp only [Act.put, List.getElem_toArray, List.getElem_cons_zero, List.getElem_cons_succ, List.setIfInBounds_toArray, List.set_cons_zero, List.set_cons_succ]
    refine wpAnyY_take (i := 10) (v := ?_) rfl (by kernel_rfl) (by kernel_rfl) (by kernel_rfl) (by kernel_rfl) (fun _ _ _ h => h) (Or.inl ⟨by kernel_rfl, ?_⟩) hS ?_
    rotate_left
    · intro w' hSw; go_simp; with_reducible rfl
    try simp only [Act.put, List.getElem_toArray, List.getElem_cons_zero, List.getElem_cons_succ, List.setIfInBounds_toArray, List.set_cons_zero, List.set_cons_succ]
    refine wpAnyY_oneSW (i := 11) (by kernel_rfl) rfl (by kernel_rfl) (fun K11 hK11 => ?_)
    go_simp
    refine hK11.out _ _ (b0.keep ga) (fun hS => ?_)
    try simp only [Act.put, List.getElem_toArray, List.getElem_cons_zero, List.getElem_cons_succ, List.setIfInBounds_toArray, List.set_cons_zero, List.set_cons_succ]
    refine wpAnyY_oneW (i := 12) (by kernel_rfl) rfl (by kernel_rfl) (by kernel_rfl) (fun K12 hK12 => ?_)
    go_simp
    refine hK12.out _ _ ?_
    try simp only [Act.put, List.getElem_toArray, List.getElem_cons_zero, List.getElem_cons_succ, List.setIfInBounds_toArray, List.set_cons_zero, List.set_cons_succ]
    refine wpAnyY_done (by kernel_rfl) ?_ _
    have gz := g0.t ga
    clear b0 hS HI HM HQ HIS
    by_cases hz : Z = 0
    · obtain ⟨F, rfl, hfc⟩ := hZ hz
      subst hz
      have HO := Lib.hid (fun w' x y h => HOK.out w' x y rfl h)
      clear HOK HER hZ
      have x1 : IntKind.i64.wrap ((b : Int) - a) = b - a := IntWalk.i64_in _ (by omega)
      obtain ⟨c, hc⟩ : ∃ c : Int, c = b - a + 1 := ⟨_, rfl⟩
      have x2 : IntKind.i64.wrap ((b : Int) - a + 1) = c := by rw [hc]; exact IntWalk.i64_in _ (by omega)
      have hcN : c ≤ N := by omega
      have hcN2 : ∀ k : Nat, k < N → (k : Int) < c := fun k hk => by omega
      have HCN := Lib.hid hcN2
      have hNb : a + N ≤ 1000001 ∨ N = 0 := by omega
      clear hc hN hcN2
      go_wp2_with fail
      clear x1 x2
      go_loopw [10, 29] (fun u10 i wr => ∃ k : Nat, k ≤ N ∧ i = .int .i64 k ∧ Hid (∀ j, j < k → fly (a + j) = false) ∧ G w4 wr) (fun _ i _ => N - (intOf i).toNat)
      case atStart => exact ⟨0, Nat.zero_le _, rfl, fun j hj => absurd hj (Nat.not_lt_zero _), G.rf _⟩
      case round =>
        obtain ⟨k, hk, rfl, hno, hG⟩ := hrel
        by_cases hlt : k < N
        · have hki := HCN.out k hlt
          have x3 : IntKind.i64.wrap ((a : Int) + k) = ((a + k : Nat) : Int) := by rw [IntWalk.i64_in _ (by omega)]; rfl
          obtain ⟨ak, hak⟩ : ∃ ak, ak = a + k := ⟨_, rfl⟩
          rw [← hak] at x3
          have HFz := Lib.hid (HF.out _ F ak (gz.t hG) (HKP.out _ _ _ hfc hG) (by omega))
          have HAK := Lib.hid hak
          clear hak
          cases hfl : fly ak
          · rw [hfl] at HFz
            have HFL := Lib.hid hfl
            clear hfl
            go_wp2_with (go_at_call 60; refine (HFz.out).mono ?_; rintro e w5 ⟨rfl, hG5⟩)
            go_roundw
            case rel => exact ⟨k + 1, by omega, by go_num, fun j hj => by
              rcases Nat.lt_or_ge j k with h | h
              · exact hno.out j h
              · obtain rfl : j = k := by omega
                rw [← HAK.out]; exact HFL.out, hG.t hG5⟩
            case measure => simp [intOf]; omega
          · rw [hfl] at HFz
            have hfr := firstR_some hlt (by rw [← HAK.out]; exact hfl) hno.out
            rw [← HAK.out] at hfr
            have HFR := Lib.hid hfr
            clear hfl hfr
            go_wp2_with (go_at_call 60; refine (HFz.out).mono ?_; rintro e w5 ⟨rfl, hG5⟩)
            exact HO.out _ _ _ HFR.out ((gz.t hG).t hG5)
        · obtain rfl : N = k := by omega
          have HFR := Lib.hid (firstR_none hno.out)
          have hkc : ¬ (N : Int) < c := by omega
          clear HCN
          go_wp2_with fail
          exact HO.out _ _ _ HFR.out (gz.t hG)
    · have hz1 : (Z == 0) = false := by simpa using hz
      have HE := Lib.hid (HER.out _ hz gz)
      clear HOK HER HF hZ
      go_wp2
      exact HE.out
  ·
    refine wpAnyY_take (i := 4) (v := ?_) rfl (by kernel_rfl) (by kernel_rfl) (by kernel_rfl) (by kernel_rfl) (fun _ _ _ h => h) (Or.inl ⟨by kernel_rfl, ?_⟩) hS ?_
    rotate_left
    · intro w' hSw; go_simp; with_reducible rfl
    try simp only [Act.put, List.getElem_toArray, List.getElem_cons_zero, List.getElem_cons_succ, List.setIfInBounds_toArray, List.set_cons_zero, List.set_cons_succ]
    refine wpAnyY_oneSW (i := 5) (by kernel_rfl) rfl (by kernel_rfl) (fun K5 hK5 => ?_)
    go_simp
    refine (HM.out _).mono ?_
    rintro e w3 ⟨rfl, hG5⟩
    replace ga := ga.t hG5
    refine hK5.out _ _ (b0.keep ga) (fun hS => ?_)
    try simp only [Act.put, List.getElem_toArray, List.getElem_cons_zero, List.getElem_cons_succ, List.setIfInBounds_toArray, List.set_cons_zero, List.set_cons_succ]
    refine wpAnyY_take (i := 6) (v := ?_) rfl (by kernel_rfl) (by kernel_rfl) (by kernel_rfl) (by kernel_rfl) (fun _ _ _ h => h) (Or.inl ⟨by kernel_rfl, ?_⟩) hS ?_
    rotate_left
    · intro w' hSw; go_simp; with_reducible rfl
    try simp only [Act.put, List.getElem_toArray, List.getElem_cons_zero, List.getElem_cons_succ, List.setIfInBounds_toArray, List.set_cons_zero, List.set_cons_succ]
    refine wpAnyY_oneSW (i := 7) (by kernel_rfl) rfl (by kernel_rfl) (fun K7 hK7 => ?_)
    go_simp
    refine (HQ.out _ (g0.t ga)).mono ?_
    rintro e w4 ⟨p, rfl, hG7, hZ⟩
    replace ga := ga.t hG7
    refine hK7.out _ _ (b0.keep ga) (fun hS => ?_)
    try simp only [Act.put, List.getElem_toArray, List.getElem_cons_zero, List.getElem_cons_succ, List.setIfInBounds_toArray, List.set_cons_zero, List.set_cons_succ]
    refine wpAnyY_take (i := 8) (v := ?_) rfl (by kernel_rfl) (by kernel_rfl) (by kernel_rfl) (by kernel_rfl) (fun _ _ _ h => h) (Or.inl ⟨by kernel_rfl, ?_⟩) hS ?_
    rotate_left
    · intro w' hSw; go_simp; with_reducible rfl
    try simp only [Act.put, List.getElem_toArray, List.getElem_cons_zero, List.getElem_cons_succ, List.setIfInBounds_toArray, List.set_cons_zero, List.set_cons_succ]
    refine wpAnyY_take (i := 9) (v := ?_) rfl (by kernel_rfl) (by kernel_rfl) (by kernel_rfl) (by kernel_rfl) (fun _ _ _ h => h) (Or.inl ⟨by kernel_rfl, ?_⟩) hS ?_
    rotate_left
    · intro w' hSw; go_simp; with_reducible rfl
    try simp only [Act.put, List.getElem_toArray, List.getElem_cons_zero, List.getElem_cons_succ, List.setIfInBounds_toArray, List.set_cons_zero, List.set_cons_succ]
    refine wpAnyY_take (i := 10) (v := ?_) rfl (by kernel_rfl) (by kernel_rfl) (by kernel_rfl) (by kernel_rfl) (fun _ _ _ h => h) (Or.inl ⟨by kernel_rfl, ?_⟩) hS ?_
    rotate_left
    · intro w' hSw; go_simp; with_reducible rfl
    try simp only [Act.put, List.getElem_toArray, List.getElem_cons_zero, List.getElem_cons_succ, List.setIfInBounds_toArray, List.set_cons_zero, List.set_cons_succ]
    refine wpAnyY_oneSW (i := 11) (by kernel_rfl) rfl (by kernel_rfl) (fun K11 hK11 => ?_)
    go_simp
    refine hK11.out _ _ (b0.keep ga) (fun hS => ?_)
    try simp only [Act.put, List.getElem_toArray, List.getElem_cons_zero, List.getElem_cons_succ, List.setIfInBounds_toArray, List.set_cons_zero, List.set_cons_succ]
    refine wpAnyY_oneW (i := 12) (by kernel_rfl) rfl (by kernel_rfl) (by kernel_rfl) (fun K12 hK12 => ?_)
    go_simp
    refine hK12.out _ _ ?_
    try simp only [Act.put, List.getElem_toArray, List.getElem_cons_zero, List.getElem_cons_succ, List.setIfInBounds_toArray, List.set_cons_zero, List.set_cons_succ]
    refine wpAnyY_done (by kernel_rfl) ?_ _
    have gz := g0.t ga
    clear b0 hS HI HM HQ HIS
    by_cases hz : Z = 0
    · obtain ⟨F, rfl, hfc⟩ := hZ hz
      subst hz
      have HO := Lib.hid (fun w' x y h => HOK.out w' x y rfl h)
      clear HOK HER hZ
      have x1 : IntKind.i64.wrap ((b : Int) - a) = b - a := IntWalk.i64_in _ (by omega)
      obtain ⟨c, hc⟩ : ∃ c : Int, c = b - a + 1 := ⟨_, rfl⟩
      have x2 : IntKind.i64.wrap ((b : Int) - a + 1) = c := by rw [hc]; exact IntWalk.i64_in _ (by omega)
      have hcN : c ≤ N := by omega
      have hcN2 : ∀ k : Nat, k < N → (k : Int) < c := fun k hk => by omega
      have HCN := Lib.hid hcN2
      have hNb : a + N ≤ 1000001 ∨ N = 0 := by omega
      clear hc hN hcN2
      go_wp2_with fail
      clear x1 x2
      go_loopw [10, 29] (fun u10 i wr => ∃ k : Nat, k ≤ N ∧ i = .int .i64 k ∧ Hid (∀ j, j < k → fly (a + j) = false) ∧ G w4 wr) (fun _ i _ => N - (intOf i).toNat)
      case atStart => exact ⟨0, Nat.zero_le _, rfl, fun j hj => absurd hj (Nat.not_lt_zero _), G.rf _⟩
      case round =>
        obtain ⟨k, hk, rfl, hno, hG⟩ := hrel
        by_cases hlt : k < N
        · have hki := HCN.out k hlt
          have x3 : IntKind.i64.wrap ((a : Int) + k) = ((a + k : Nat) : Int) := by rw [IntWalk.i64_in _ (by omega)]; rfl
          obtain ⟨ak, hak⟩ : ∃ ak, ak = a + k := ⟨_, rfl⟩
          rw [← hak] at x3
          have HFz := Lib.hid (HF.out _ F ak (gz.t hG) (HKP.out _ _ _ hfc hG) (by omega))
          have HAK := Lib.hid hak
          clear hak
          cases hfl : fly ak
          · rw [hfl] at HFz
            have HFL := Lib.hid hfl
            clear hfl
            go_wp2_with (go_at_call 60; refine (HFz.out).mono ?_; rintro e w5 ⟨rfl, hG5⟩)
            go_roundw
            case rel => exact ⟨k + 1, by omega, by go_num, fun j hj => by
              rcases Nat.lt_or_ge j k with h | h
              · exact hno.out j h
              · obtain rfl : j = k := by omega
                rw [← HAK.out]; exact HFL.out, hG.t hG5⟩
            case measure => simp [intOf]; omega
          · rw [hfl] at HFz
            have hfr := firstR_some hlt (by rw [← HAK.out]; exact hfl) hno.out
            rw [← HAK.out] at hfr
            have HFR := Lib.hid hfr
            clear hfl hfr
            go_wp2_with (go_at_call 60; refine (HFz.out).mono ?_; rintro e w5 ⟨rfl, hG5⟩)
            exact HO.out _ _ _ HFR.out ((gz.t hG).t hG5)
        · obtain rfl : N = k := by omega
          have HFR := Lib.hid (firstR_none hno.out)
          have hkc : ¬ (N : Int) < c := by omega
          clear HCN
          go_wp2_with fail
          exact HO.out _ _ _ HFR.out (gz.t hG)
    · have hz1 : (Z == 0) = false := by simpa using hz
      have HE := Lib.hid (HER.out _ hz gz)
      clear HOK HER HF hZ
      go_wp2
      exact HE.out
end
theorem rFirst_ok {r : Rl} {w : World} (h : r.Ok w) {a b : Nat} (ha : a ≤ 9999) (hb : b ≤ 9999) : Calls Tryz.prog 25 #[.agg r.v, .int .i64 (a : Nat), .int .i64 (b : Nat)] w (FiPost w r.err (firstR (flyB r) a (b + 1 - a))) := by
  refine First_walk a b (b + 1 - a) r.err true true r.v (fun W F => r.Fc W F ∧ r.Ok W) (flyB r) w (rIs r) (by omega) (by omega) rfl (fun W => ?_) (fun W => ?_) (fun W hW => ?_) (fun W W' F hF hG => ⟨hF.1.keep hG, hF.2.keep hG⟩) (fun W F mi hW hF hm => mayFly_any hF.1 hF.2 hm)
  · have := rMinute a W
    rwa [show isInB (a : Int) 0 9999 = true by simp [isInB]; omega] at this
  · have := rMinute b W
    rwa [show isInB (b : Int) 0 9999 = true by simp [isInB]; omega] at this
  · refine (rQuestion_R (h.keep hW)).mono fun e w' hq => ?_
    obtain ⟨p, e1, hG, hz⟩ := hq
    exact ⟨p, e1, hG, fun h0 => by obtain ⟨F, e2, hf⟩ := hz h0; exact ⟨F, e2, hf, (h.keep hW).keep hG⟩⟩
end Go.Proofs.YtcekdljjmfkacaaGreat
set_option linter.unusedSimpArgs false
set_option linter.unusedVariables false
namespace Go.Proofs.YtcekdljjmfkacaaGreat
open Go.RowKit Go.Shelf
attribute [local go_sem] Oper.semAt_some wide_fn wide_dep wideR_fn wideR_dep
theorem flat2q_len (f g : Nat → Value) : ∀ n, ((List.range n).flatMap fun q => [f q, g q]).length = n * 2 := by
  intro n
  induction n with
  | zero => rfl
  | succ n ih =>
    rw [List.range_succ, List.flatMap_append, List.length_append, ih]
    show n * 2 + 2 = (n + 1) * 2
    omega
theorem flat2q_succ (f g : Nat → Value) (n : Nat) : ((List.range (n + 1)).flatMap fun q => [f q, g q]) = ((List.range n).flatMap fun q => [f q, g q]) ++ [f n, g n] := by
  rw [List.range_succ, List.flatMap_append]
  rfl
theorem flat2q_get (f g : Nat → Value) : ∀ n k, k < n → ((List.range n).flatMap fun q => [f q, g q])[k * 2]? = some (f k) ∧ ((List.range n).flatMap fun q => [f q, g q])[k * 2 + 1]? = some (g k) := by
  intro n
  induction n with
  | zero => intro k hk; omega
  | succ n ih =>
    intro k hk
    rw [flat2q_succ]
    have hl := flat2q_len f g n
    rcases Nat.lt_or_ge k n with h | h
    · obtain ⟨i1, i2⟩ := ih k h
      rw [List.getElem?_append_left (by omega), List.getElem?_append_left (by omega)]
      exact ⟨i1, i2⟩
    · obtain rfl : k = n := by omega
      rw [List.getElem?_append_right (by omega), List.getElem?_append_right (by omega), hl, Nat.sub_self, show k * 2 + 1 - k * 2 = 1 by omega]
      exact ⟨rfl, rfl⟩
/-- the reference's spans of the places of a way -/
def plo (ln : Nat → Nat) (sh m q : Nat) : Value := .int .i64 ((m + farS ln q / sh : Nat) : Int)
def phi (ln : Nat → Nat) (N sl m q : Nat) : Value := .int .i64 ((m + (farS ln (min (q + 1) (N - 1)) + sl - 1) / sl : Nat) : Int)
def pvL (ln : Nat → Nat) (N sl sh m k : Nat) : List Value := (List.range k).flatMap fun q => [plo ln sh m q, phi ln N sl m q]
def SpPost (w : World) (L : List Value) (N : Nat) (e : Ending) (w' : World) : Prop := ∃ v, e = .returned v ∧ w'.ownsRow w.heap.size 30 2 v N L ∧ G w w'
set_option maxRecDepth 100000 in
set_option maxHeartbeats 8000000 in
theorem refPasses_walk (i m sl sh N : Nat) (REL : Array Value) (ln : Nat → Nat) (w : World) (hIs : IsRel REL) (h9 : REL[9]? = some (.int .i64 (sl : Nat))) (h10 : REL[10]? = some (.int .i64 (sh : Nat))) (hsl : 1 ≤ sl ∧ sl ≤ 3000000) (hsh : 1 ≤ sh ∧ sh ≤ 3000000) (hm : m ≤ 1000000) (hN : 1 ≤ N ∧ N ≤ 100) (hln : ∀ j, j < N → farS ln j ≤ 100000000000)
    (hF : ∀ W, G w W → Calls Tryz.prog 27 #[.agg REL, .int .i64 (i : Nat)] W (FarPost W ln N)) :
    Calls Tryz.prog 47 #[.agg REL, .int .i64 (i : Nat), .int .i64 (m : Nat)] w (SpPost w (pvL ln N sl sh m N) N) := by
  have HIS := Lib.hid hIs
  have HFR := Lib.hid hF
  have HFB := Lib.hid hln
  clear hF hln hIs
  have HPP : Hid (∀ w' v, w'.ownsRow w.heap.size 30 2 v N (pvL ln N sl sh m N) → G w w' → SpPost w (pvL ln N sl sh m N) N (.returned v) w') := fun w' v a b => ⟨v, rfl, a, b⟩
  generalize SpPost w (pvL ln N sl sh m N) N = PP at *
  have g0 : G w (w.alloc (.cells REL 35)) := (G.rf _).a _
  have b0 : Blk (w.alloc (.cells REL 35)) w.heap.size 35 REL := Blk.new w 35 REL
  obtain ⟨i0, hi0, hz0, hz1, hz2⟩ := info_parts info30
  go_enter Tryz.func47, Tryz.ntmps47
  go_upto_region 1 with fail
  change Code.wp _ _ _ _ (w.alloc (.cells REL 35))
  generalize w.alloc (.cells REL 35) = w1 at *
  refine wp_region_lit ?_
  refine wpList_load35 w.heap.size 3 HIS.out rfl rfl rfl b0 ?_
  try simp only [Act.put, List.getElem_toArray, List.getElem_cons_zero, List.getElem_cons_succ, List.setIfInBounds_toArray, List.set_cons_zero, List.set_cons_succ]
  go_wp2_with (go_at_call 27; refine (HFR.out _ g0).mono ?_; rintro e wa ⟨vA, rfl, hownA, hGa⟩; obtain ⟨gA, capA, curA, rfl, hbA, hgA, htA⟩ := own_some hownA (by omega))
  replace b0 := b0.keep hGa
  replace g0 := g0.t hGa
  have hfar : ∀ k, k < N → wa.cell? ⟨gA, k, none⟩ = some (.int .i64 (farS ln k : Nat)) := fun k hk => take_cell hbA htA (by omega) (farV_get ln hk)
  have HFA := Lib.hid hfar
  clear hfar hownA hbA htA hGa HFR
  go_loopw [8, 9, 10] (fun v i u10 wr => ∃ q : Nat, q ≤ N ∧ i = .int .i64 q ∧ wr.ownsRow wa.heap.size 30 2 v q (pvL ln N sl sh m q) ∧ G wa wr) (fun _ i _ _ => N - (intOf i).toNat)
  case atStart => exact ⟨0, Nat.zero_le _, rfl, World.ownsRow_nil _ _ _ _, G.rf _⟩
  case round =>
    obtain ⟨q, hq, rfl, ho, hGr⟩ := hrel
    obtain ⟨wo, rfl⟩ : ∃ wo, wo = wr := ⟨_, rfl⟩
    have HO := Lib.hid ho
    clear ho
    have gw := g0.t hGr
    by_cases hlt : q < N
    · have hqi : (q : Int) < N := by omega
      obtain ⟨j, hj, hjl⟩ : ∃ j, j = min (q + 1) (N - 1) ∧ j < N := ⟨_, rfl, by omega⟩
      have c0 := ((bcellB hGr).1 gA _ hgA).trans (HFA.out q hlt)
      have c1 := ((bcellB hGr).1 gA _ hgA).trans (HFA.out j hjl)
      have f0 := HFB.out q hlt
      have f1 := HFB.out j hjl
      have hsv : pvL ln N sl sh m (q + 1) = pvL ln N sl sh m q ++ [.int .i64 ((m + farS ln q / sh : Nat) : Int), .int .i64 ((m + (farS ln j + sl - 1) / sl : Nat) : Int)] := by
        rw [hj]; exact flat2q_succ (plo ln sh m) (phi ln N sl m) q
      obtain ⟨fr, hfr⟩ : ∃ fr, fr = farS ln q := ⟨_, rfl⟩
      obtain ⟨nx, hnx⟩ : ∃ nx, nx = farS ln j := ⟨_, rfl⟩
      rw [← hfr] at c0 f0 hsv
      rw [← hnx] at c1 f1 hsv
      have xj : min ((q : Int) + 1) ((N : Int) - 1) = (j : Nat) := by omega
      have x1 : IntKind.i64.wrap ((q : Int) + 1) = (q : Int) + 1 := IntWalk.i64_in _ (by omega)
      have x2 : IntKind.i64.wrap ((N : Int) - 1) = (N : Int) - 1 := IntWalk.i64_in _ (by omega)
      have hji : (j : Int) < N := by omega
      have d1 : fr / sh ≤ fr := Nat.div_le_self _ _
      have d2 : (nx + sl - 1) / sl ≤ nx + sl - 1 := Nat.div_le_self _ _
      obtain ⟨u0, hu0⟩ : ∃ u0, u0 = fr / sh := ⟨_, rfl⟩
      obtain ⟨u1, hu1⟩ : ∃ u1, u1 = nx + sl := ⟨_, rfl⟩
      obtain ⟨u2, hu2⟩ : ∃ u2, u2 = nx + sl - 1 := ⟨_, rfl⟩
      obtain ⟨u3, hu3⟩ : ∃ u3, u3 = (nx + sl - 1) / sl := ⟨_, rfl⟩
      obtain ⟨LO, hLO⟩ : ∃ LO, LO = m + fr / sh := ⟨_, rfl⟩
      obtain ⟨HI, hHI⟩ : ∃ HI, HI = m + (nx + sl - 1) / sl := ⟨_, rfl⟩
      rw [← hLO, ← hHI] at hsv
      have y0 : IntKind.i64.wrap ((fr : Int) / sh) = ((u0 : Nat) : Int) := by rw [hu0]; exact wrap_div2 _ _ (by omega)
      have y1 : IntKind.i64.wrap ((nx : Int) + sl) = ((u1 : Nat) : Int) := by rw [IntWalk.i64_in _ (by omega), hu1]; rfl
      have y2 : IntKind.i64.wrap ((u1 : Int) - 1) = ((u2 : Nat) : Int) := by rw [IntWalk.i64_in _ (by omega)]; omega
      have y3 : IntKind.i64.wrap ((u2 : Int) / sl) = ((u3 : Nat) : Int) := by rw [hu3, ← hu2]; exact wrap_div2 _ _ (by omega)
      have y4 : IntKind.i64.wrap ((m : Int) + u0) = ((LO : Nat) : Int) := by rw [IntWalk.i64_in _ (by omega), hLO, ← hu0]; rfl
      have y5 : IntKind.i64.wrap ((m : Int) + u3) = ((HI : Nat) : Int) := by rw [IntWalk.i64_in _ (by omega), hHI, ← hu3]; rfl
      have hsh0 : ((sh : Int) == 0) = false := by simp; omega
      have hsl0 : ((sl : Int) == 0) = false := by simp; omega
      have hsh1 : ¬ sh = 0 := by omega
      have hsl1 : ¬ sl = 0 := by omega
      have HSV := Lib.hid hsv
      clear hsv hfr hnx hu0 hu1 hu2 hu3 hLO hHI hj d1 d2 HFA HFB
      have k0 := b0.keep hGr
      have lA := Nat.lt_of_lt_of_le hgA hGr.size
      have hSk : ∀ W', G wo W' → (Blk W' w.heap.size 35 REL ∧ W'.cell? ⟨gA, q, none⟩ = some (.int .i64 (fr : Nat))) := fun W' h => ⟨k0.keep h, ((bcellB h).1 gA _ lA).trans c0⟩
      clear c0
      go_wp2_with fail
      clear c1
      refine wp_region_Y (S := fun W' => Blk W' w.heap.size 35 REL ∧ W'.cell? ⟨gA, q, none⟩ = some (.int .i64 (fr : Nat))) 25 27 rfl (by kernel_rfl) (hSk _ (G.rf _).d) (fun hS => ?_)
      refine wpAnyY_take (i := 0) (v := ?_) rfl (by kernel_rfl) (by kernel_rfl) (by kernel_rfl) (by kernel_rfl) (fun _ _ _ h => h) (Or.inl ⟨by kernel_rfl, ?_⟩) hS ?_
      rotate_left
      · intro w' hSw; go_simp; with_reducible rfl
      try simp only [Act.put, List.getElem_toArray, List.getElem_cons_zero, List.getElem_cons_succ, List.setIfInBounds_toArray, List.set_cons_zero, List.set_cons_succ]
      refine wpAnyY_take (i := 1) (v := ?_) rfl (by kernel_rfl) (by kernel_rfl) (by kernel_rfl) (by kernel_rfl) (fun _ _ _ h => h) (Or.inl ⟨by kernel_rfl, ?_⟩) hS ?_
      rotate_left
      · intro w' hSw; go_simp; with_reducible rfl
      try simp only [Act.put, List.getElem_toArray, List.getElem_cons_zero, List.getElem_cons_succ, List.setIfInBounds_toArray, List.set_cons_zero, List.set_cons_succ]
      refine wpAnyY_take (i := 2) (v := ?_) rfl (by kernel_rfl) (by kernel_rfl) (by kernel_rfl) (by kernel_rfl) (fun _ _ _ h => h) (Or.inl ⟨by kernel_rfl, ?_⟩) hS ?_
      rotate_left
      · intro w' hSw; go_simp; with_reducible rfl
      try simp only [Act.put, List.getElem_toArray, List.getElem_cons_zero, List.getElem_cons_succ, List.setIfInBounds_toArray, List.set_cons_zero, List.set_cons_succ]
      refine wpAnyY_take (i := 3) (v := ?_) rfl (by kernel_rfl) (by kernel_rfl) (by kernel_rfl) (by kernel_rfl) (fun _ _ _ h => h) (Or.inl ⟨by kernel_rfl, ?_⟩) hS ?_
      rotate_left
      · intro w' hSw; go_simp; with_reducible rfl
      try simp only [Act.put, List.getElem_toArray, List.getElem_cons_zero, List.getElem_cons_succ, List.setIfInBounds_toArray, List.set_cons_zero, List.set_cons_succ]
      refine wpAnyY_take (i := 4) (v := ?_) rfl (by kernel_rfl) (by kernel_rfl) (by kernel_rfl) (by kernel_rfl) (fun _ _ _ h => h) (Or.inl ⟨by kernel_rfl, ?_⟩) hS ?_
      rotate_left
      · intro w' hSw; go_simp; with_reducible rfl
      try simp only [Act.put, List.getElem_toArray, List.getElem_cons_zero, List.getElem_cons_succ, List.setIfInBounds_toArray, List.set_cons_zero, List.set_cons_succ]
      refine wpAnyY_take (i := 5) (v := ?_) rfl (by kernel_rfl) (by kernel_rfl) (by kernel_rfl) (by kernel_rfl) (fun _ _ _ h => h) (Or.inl ⟨by kernel_rfl, ?_⟩) hS ?_
      rotate_left
      · intro w' hSw; have e := hSw.2; go_simp; with_reducible rfl
      try simp only [Act.put, List.getElem_toArray, List.getElem_cons_zero, List.getElem_cons_succ, List.setIfInBounds_toArray, List.set_cons_zero, List.set_cons_succ]
      refine wpAnyY_take (i := 6) (v := ?_) rfl (by kernel_rfl) (by kernel_rfl) (by kernel_rfl) (by kernel_rfl) (fun _ _ _ h => h) (Or.inl ⟨by kernel_rfl, ?_⟩) hS ?_
      rotate_left
      · intro w' hSw; go_simp; with_reducible rfl
      try simp only [Act.put, List.getElem_toArray, List.getElem_cons_zero, List.getElem_cons_succ, List.setIfInBounds_toArray, List.set_cons_zero, List.set_cons_succ]
      refine wpAnyY_take (i := 7) (v := ?_) rfl (by kernel_rfl) (by kernel_rfl) (by kernel_rfl) (by kernel_rfl) (fun _ _ _ h => h) (Or.inl ⟨by kernel_rfl, ?_⟩) hS ?_
      rotate_left
      · intro w' hSw; go_simp; with_reducible rfl
      try simp only [Act.put, List.getElem_toArray, List.getElem_cons_zero, List.getElem_cons_succ, List.setIfInBounds_toArray, List.set_cons_zero, List.set_cons_succ]
      refine wpAnyY_take (i := 8) (v := ?_) rfl (by kernel_rfl) (by kernel_rfl) (by kernel_rfl) (by kernel_rfl) (fun _ _ _ h => h) (Or.inl ⟨by kernel_rfl, ?_⟩) hS ?_
      rotate_left
      · intro w' hSw; have e := (hSw.1.cell 10).trans h10; have lb := hSw.1.lt; go_simp; with_reducible rfl
      try simp only [Act.put, List.getElem_toArray, List.getElem_cons_zero, List.getElem_cons_succ, List.setIfInBounds_toArray, List.set_cons_zero, List.set_cons_succ]
      refine wpAnyY_take (i := 9) (v := ?_) rfl (by kernel_rfl) (by kernel_rfl) (by kernel_rfl) (by kernel_rfl) (fun _ _ _ h => h) (Or.inl ⟨by kernel_rfl, ?_⟩) hS ?_
      rotate_left
      · intro w' hSw; go_simp; with_reducible rfl
      try simp only [Act.put, List.getElem_toArray, List.getElem_cons_zero, List.getElem_cons_succ, List.setIfInBounds_toArray, List.set_cons_zero, List.set_cons_succ]
      refine wpAnyY_take (i := 10) (v := ?_) rfl (by kernel_rfl) (by kernel_rfl) (by kernel_rfl) (by kernel_rfl) (fun _ _ _ h => h) (Or.inl ⟨by kernel_rfl, ?_⟩) hS ?_
      rotate_left
      · intro w' hSw; go_simp; with_reducible rfl
      try simp only [Act.put, List.getElem_toArray, List.getElem_cons_zero, List.getElem_cons_succ, List.setIfInBounds_toArray, List.set_cons_zero, List.set_cons_succ]
      refine wpAnyY_take (i := 11) (v := ?_) rfl (by kernel_rfl) (by kernel_rfl) (by kernel_rfl) (by kernel_rfl) (fun _ _ _ h => h) (Or.inl ⟨by kernel_rfl, ?_⟩) hS ?_
      rotate_left
      · intro w' hSw; go_simp; with_reducible rfl
      try simp only [Act.put, List.getElem_toArray, List.getElem_cons_zero, List.getElem_cons_succ, List.setIfInBounds_toArray, List.set_cons_zero, List.set_cons_succ]
      refine wpAnyY_take (i := 12) (v := ?_) rfl (by kernel_rfl) (by kernel_rfl) (by kernel_rfl) (by kernel_rfl) (fun _ _ _ h => h) (Or.inl ⟨by kernel_rfl, ?_⟩) hS ?_
      rotate_left
      · intro w' hSw; go_simp; with_reducible rfl
      try simp only [Act.put, List.getElem_toArray, List.getElem_cons_zero, List.getElem_cons_succ, List.setIfInBounds_toArray, List.set_cons_zero, List.set_cons_succ]
      refine wpAnyY_take (i := 13) (v := ?_) rfl (by kernel_rfl) (by kernel_rfl) (by kernel_rfl) (by kernel_rfl) (fun _ _ _ h => h) (Or.inl ⟨by kernel_rfl, ?_⟩) hS ?_
      rotate_left
      · intro w' hSw; go_simp; with_reducible rfl
      try simp only [Act.put, List.getElem_toArray, List.getElem_cons_zero, List.getElem_cons_succ, List.setIfInBounds_toArray, List.set_cons_zero, List.set_cons_succ]
      refine wpAnyY_take (i := 14) (v := ?_) rfl (by kernel_rfl) (by kernel_rfl) (by kernel_rfl) (by kernel_rfl) (fun _ _ _ h => h) (Or.inl ⟨by kernel_rfl, ?_⟩) hS ?_
      rotate_left
      · intro w' hSw; go_simp; with_reducible rfl
      try simp only [Act.put, List.getElem_toArray, List.getElem_cons_zero, List.getElem_cons_succ, List.setIfInBounds_toArray, List.set_cons_zero, List.set_cons_succ]
      refine wpAnyY_take (i := 15) (v := ?_) rfl (by kernel_rfl) (by kernel_rfl) (by kernel_rfl) (by kernel_rfl) (fun _ _ _ h => h) (Or.inl ⟨by kernel_rfl, ?_⟩) hS ?_
      rotate_left
      · intro w' hSw; have e := (hSw.1.cell 9).trans h9; have lb := hSw.1.lt; go_simp; with_reducible rfl
      try simp only [Act.put, List.getElem_toArray, List.getElem_cons_zero, List.getElem_cons_succ, List.setIfInBounds_toArray, List.set_cons_zero, List.set_cons_succ]
      refine wpAnyY_take (i := 16) (v := ?_) rfl (by kernel_rfl) (by kernel_rfl) (by kernel_rfl) (by kernel_rfl) (fun _ _ _ h => h) (Or.inl ⟨by kernel_rfl, ?_⟩) hS ?_
      rotate_left
      · intro w' hSw; go_simp; with_reducible rfl
      try simp only [Act.put, List.getElem_toArray, List.getElem_cons_zero, List.getElem_cons_succ, List.setIfInBounds_toArray, List.set_cons_zero, List.set_cons_succ]
      refine wpAnyY_take (i := 17) (v := ?_) rfl (by kernel_rfl) (by kernel_rfl) (by kernel_rfl) (by kernel_rfl) (fun _ _ _ h => h) (Or.inl ⟨by kernel_rfl, ?_⟩) hS ?_
      rotate_left
      · intro w' hSw; go_simp; with_reducible rfl
      try simp only [Act.put, List.getElem_toArray, List.getElem_cons_zero, List.getElem_cons_succ, List.setIfInBounds_toArray, List.set_cons_zero, List.set_cons_succ]
      refine wpAnyY_take (i := 18) (v := ?_) rfl (by kernel_rfl) (by kernel_rfl) (by kernel_rfl) (by kernel_rfl) (fun _ _ _ h => h) (Or.inl ⟨by kernel_rfl, ?_⟩) hS ?_
      rotate_left
      · intro w' hSw; go_simp; with_reducible rfl
      try simp only [Act.put, List.getElem_toArray, List.getElem_cons_zero, List.getElem_cons_succ, List.setIfInBounds_toArray, List.set_cons_zero, List.set_cons_succ]
      refine wpAnyY_take (i := 19) (v := ?_) rfl (by kernel_rfl) (by kernel_rfl) (by kernel_rfl) (by kernel_rfl) (fun _ _ _ h => h) (Or.inl ⟨by kernel_rfl, ?_⟩) hS ?_
      rotate_left
      · intro w' hSw; go_simp; with_reducible rfl
      try simp only [Act.put, List.getElem_toArray, List.getElem_cons_zero, List.getElem_cons_succ, List.setIfInBounds_toArray, List.set_cons_zero, List.set_cons_succ]
      refine wpAnyY_take (i := 20) (v := ?_) rfl (by kernel_rfl) (by kernel_rfl) (by kernel_rfl) (by kernel_rfl) (fun _ _ _ h => h) (Or.inl ⟨by kernel_rfl, ?_⟩) hS ?_
      rotate_left
      · intro w' hSw; have e := (hSw.1.cell 9).trans h9; have lb := hSw.1.lt; go_simp; with_reducible rfl
      try simp only [Act.put, List.getElem_toArray, List.getElem_cons_zero, List.getElem_cons_succ, List.setIfInBounds_toArray, List.set_cons_zero, List.set_cons_succ]
      refine wpAnyY_take (i := 21) (v := ?_) rfl (by kernel_rfl) (by kernel_rfl) (by kernel_rfl) (by kernel_rfl) (fun _ _ _ h => h) (Or.inl ⟨by kernel_rfl, ?_⟩) hS ?_
      rotate_left
      · intro w' hSw; go_simp; with_reducible rfl
      try simp only [Act.put, List.getElem_toArray, List.getElem_cons_zero, List.getElem_cons_succ, List.setIfInBounds_toArray, List.set_cons_zero, List.set_cons_succ]
      refine wpAnyY_take (i := 22) (v := ?_) rfl (by kernel_rfl) (by kernel_rfl) (by kernel_rfl) (by kernel_rfl) (fun _ _ _ h => h) (Or.inl ⟨by kernel_rfl, ?_⟩) hS ?_
      rotate_left
      · intro w' hSw; go_simp; with_reducible rfl
      try simp only [Act.put, List.getElem_toArray, List.getElem_cons_zero, List.getElem_cons_succ, List.setIfInBounds_toArray, List.set_cons_zero, List.set_cons_succ]
      refine wpAnyY_take (i := 23) (v := ?_) rfl (by kernel_rfl) (by kernel_rfl) (by kernel_rfl) (by kernel_rfl) (fun _ _ _ h => h) (Or.inl ⟨by kernel_rfl, ?_⟩) hS ?_
      rotate_left
      · intro w' hSw; go_simp; with_reducible rfl
      try simp only [Act.put, List.getElem_toArray, List.getElem_cons_zero, List.getElem_cons_succ, List.setIfInBounds_toArray, List.set_cons_zero, List.set_cons_succ]
      refine wpAnyY_oneSW (i := 24) (by kernel_rfl) rfl (by kernel_rfl) (fun K24 hK24 => ?_)
      go_simp
      have g5 : G wo ((wo.alloc (.cells #[.int .i64 (LO : Nat), .int .i64 (HI : Nat)] 30)).drew) := ((G.rf wo).a _).d
      have b5 : Blk ((wo.alloc (.cells #[.int .i64 (LO : Nat), .int .i64 (HI : Nat)] 30)).drew) wo.heap.size 30 #[.int .i64 (LO : Nat), .int .i64 (HI : Nat)] := (Blk.new wo 30 _).keep (G.rf _).d
      refine hK24.out _ _ (hSk _ g5) (fun hS => ?_)
      try simp only [Act.put, List.getElem_toArray, List.getElem_cons_zero, List.getElem_cons_succ, List.setIfInBounds_toArray, List.set_cons_zero, List.set_cons_succ]
      refine wpAnyY_oneW (i := 25) (by kernel_rfl) rfl (by kernel_rfl) (by kernel_rfl) (fun K25 hK25 => ?_)
      refine wp_append_own _ _ _ 45 rfl wa.heap.size 30 i0 _ 2 16 Tryz.underlying45 hi0 hz0 hz1 hz2 rfl (by decide) _ q _ rfl (own_G HO.out g5) ⟨wo.heap.size, 0, none⟩ 1 1 [.int .i64 (LO : Nat), .int .i64 (HI : Nat)] rfl rfl (cells_two b5) (by simp [Value.oneCell']) (by unfold maxLen; omega) (by omega) (Nat.le_trans hGr.size g5.size) ?_
      intro v9 w9 hown9 hg9 _
      have gz : G wa w9 := grow_own (hGr.t g5) (own_G HO.out g5) (Nat.le_refl _) hg9
      have HN := Lib.hid hown9
      clear hown9 hg9 hS
      refine hK25.out _ _ ?_
      try simp only [Act.put, List.getElem_toArray, List.getElem_cons_zero, List.getElem_cons_succ, List.setIfInBounds_toArray, List.set_cons_zero, List.set_cons_succ]
      refine wpAnyY_oneW (i := 26) (by kernel_rfl) rfl (by kernel_rfl) (by kernel_rfl) (fun K26 hK26 => ?_)
      go_simp
      refine hK26.out _ _ ?_
      try simp only [Act.put, List.getElem_toArray, List.getElem_cons_zero, List.getElem_cons_succ, List.setIfInBounds_toArray, List.set_cons_zero, List.set_cons_succ]
      refine wpAnyY_done (by kernel_rfl) ?_ _
      clear hK24 hK25 hK26 hSk
      go_wp2
      go_roundw
      case rel => exact ⟨q + 1, by omega, by go_num, by rw [HSV.out]; exact HN.out, gz⟩
      case measure => simp [intOf]; omega
    · obtain rfl : N = q := by omega
      have hki : ¬ (N : Int) < N := by omega
      have HF := Lib.hid (HPP.out wo _ (own_weaken HO.out g0.size) gw)
      go_wp2
      exact HF.out
end Go.Proofs.YtcekdljjmfkacaaGreat
set_option linter.unusedSimpArgs false
set_option linter.unusedVariables false
namespace Go.Proofs.YtcekdljjmfkacaaGreat
open Go.RowKit Go.Shelf
attribute [local go_sem] Oper.semAt_some wide_fn wide_dep wideR_fn wideR_dep
theorem rRefPasses {r : Rl} {w : World} (h : r.Ok w) {i m : Nat} (hi : i < r.n) (hm : m ≤ 1000000) : Calls Tryz.prog 47 #[.agg r.v, .int .i64 (i : Nat), .int .i64 (m : Nat)] w (SpPost w (pvL (r.ln i) (r.ns i) r.sl r.sh m (r.ns i)) (r.ns i)) := by
  have hN := h.nums
  have hns := Rl.ns_le hN hi
  have hsp := hN.speed
  refine refPasses_walk i m r.sl r.sh (r.ns i) r.v (r.ln i) w (rIs r) rfl rfl (by omega) (by omega) hm (by omega) (fun j hj => ?_) (fun W hW => rRefFar (h.keep hW) hi)
  have a : farL r.north r.east (r.P i) j ≤ j * 100000000 := h.far hi j (by omega)
  have e : farS (r.ln i) j = farL r.north r.east (r.P i) j := rfl
  omega
/-- the latest minute after which the birds of a home are there, as the reference counts it -/
def hiR (r : Rl) (j : Nat) : Nat := (farS (r.ln j) (r.ns j - 1) + r.sl - 1) / r.sl
/-- all are home before it is dark -/
def lightB (r : Rl) (m : Nat) : Bool := !anyU (fun j => !decide (m + hiR r j ≤ r.dark)) r.n
set_option maxRecDepth 100000 in
set_option maxHeartbeats 8000000 in
theorem Light_any {r : Rl} {w : World} (h : r.Ok w) {m : Nat} (hm : m ≤ 1000000) : Calls Tryz.prog 61 #[.agg r.v, .int .i64 (m : Nat)] w fun e w' => e = .returned (.bool (lightB r m)) ∧ G w w' := by
  have HP := Lib.hid (fun (W : World) (hW : G w W) (j : Nat) (hj : j < r.n) => rRefPasses (h.keep hW) hj hm)
  have HNS := Lib.hid (fun (j : Nat) (hj : j < r.n) => Rl.ns_le h.nums hj)
  have hn6 := h.nums.many
  have hdk := h.nums.dark
  have HIS := Lib.hid (rIs r)
  have g0 : G w (w.alloc (.cells r.v 35)) := (G.rf _).a _
  have b0 : Blk (w.alloc (.cells r.v 35)) w.heap.size 35 r.v := Blk.new w 35 r.v
  clear h
  obtain ⟨n, hn⟩ : ∃ n, n = r.n := ⟨_, rfl⟩
  obtain ⟨dk, hd⟩ : ∃ dk, dk = r.dark := ⟨_, rfl⟩
  have v8 : r.v[8]? = some (.slice r.ha n r.hc) := by rw [hn]; rfl
  have v16 : r.v[16]? = some (.int .i64 (dk : Nat)) := by rw [hd]; rfl
  rw [← hn] at hn6
  rw [← hd] at hdk
  have HN : Hid (n = r.n) := hn
  have HD : Hid (dk = r.dark) := hd
  clear hn hd
  go_enter Tryz.func61, Tryz.ntmps61
  go_upto_region 1 with fail
  change Code.wp _ _ _ _ (w.alloc (.cells r.v 35))
  generalize w.alloc (.cells r.v 35) = w1 at *
  go_wp2_with fail
  go_loopw [5, 6] (fun i u6 wr => ∃ q : Nat, q ≤ n ∧ i = .int .i64 q ∧ Hid (∀ j, j < q → decide (m + hiR r j ≤ r.dark) = true) ∧ G w1 wr) (fun i _ _ => n - (intOf i).toNat)
  case atStart => exact ⟨0, Nat.zero_le _, rfl, fun j hj => absurd hj (Nat.not_lt_zero _), G.rf _⟩
  case round =>
    obtain ⟨q, hq, rfl, hno, hG⟩ := hrel
    obtain ⟨wo, rfl⟩ : ∃ wo, wo = wr := ⟨_, rfl⟩
    have gw := g0.t hG
    have bq := b0.keep hG
    have e8 := (bq.cell 8).trans v8
    have lb := bq.lt
    by_cases hlt : q < n
    · have hqi : (q : Int) < n := by omega
      have hqr : q < r.n := by rw [← HN.out]; exact hlt
      have hns := HNS.out q hqr
      have HPq := Lib.hid (HP.out wo gw q hqr)
      have hget := (flat2q_get (plo (r.ln q) r.sh m) (phi (r.ln q) (r.ns q) r.sl m) (r.ns q) (r.ns q - 1) (by omega)).2
      have hph : phi (r.ln q) (r.ns q) r.sl m (r.ns q - 1) = .int .i64 ((m + hiR r q : Nat) : Int) := by
        unfold phi hiR
        rw [show min (r.ns q - 1 + 1) (r.ns q - 1) = r.ns q - 1 by omega]
      rw [hph] at hget
      obtain ⟨N, hNe⟩ : ∃ N, N = r.ns q := ⟨_, rfl⟩
      rw [← hNe] at HPq hget hns
      obtain ⟨M, hM⟩ : ∃ M, M = N - 1 := ⟨_, rfl⟩
      rw [← hM] at hget
      obtain ⟨hi, hhi⟩ : ∃ hi, hi = m + hiR r q := ⟨_, rfl⟩
      rw [← hhi] at hget
      have HHI := Lib.hid hhi
      have xN : IntKind.i64.wrap ((N : Int) - 1) = (M : Int) := by rw [IntWalk.i64_in _ (by omega), hM]; omega
      have hMN : (M : Int) < N := by omega
      have xq : IntKind.i64.wrap ((q : Int) + 1) = ((q + 1 : Nat) : Int) := by rw [IntWalk.i64_in _ (by omega)]; rfl
      clear hph hhi hM hNe HP HNS
      go_upto_region 4 with fail
      refine wp_region_lit ?_
      refine wpList_load35 w.heap.size 2 HIS.out rfl rfl rfl bq ?_
      try simp only [Act.put, List.getElem_toArray, List.getElem_cons_zero, List.getElem_cons_succ, List.setIfInBounds_toArray, List.set_cons_zero, List.set_cons_succ]
      go_upto_region 5 with (go_at_call 47; refine (HPq.out).mono ?_; rintro e w4 ⟨v, rfl, hown, hG4⟩; obtain ⟨gS, capS, curS, rfl, hbS, hgS, htS⟩ := own_some hown (by omega); have hcl := take_cell hbS htS (show M * 2 + 1 < N * 2 by omega) hget)
      have bz := bq.keep hG4
      have hSk : ∀ W', G w4 W' → (Blk W' w.heap.size 35 r.v ∧ W'.cell? ⟨gS, M * 2 + 1, none⟩ = some (.int .i64 (hi : Nat))) := fun W' h => ⟨bz.keep h, ((bcellB h).1 gS _ hgS).trans hcl⟩
      have gz := hG.t hG4
      clear hown hbS htS hcl hget e8 lb
      refine wp_region_Y (S := fun W' => Blk W' w.heap.size 35 r.v ∧ W'.cell? ⟨gS, M * 2 + 1, none⟩ = some (.int .i64 (hi : Nat))) 9 10 rfl (by kernel_rfl) (hSk _ (G.rf _).d) (fun hS => ?_)
      refine wpAnyY_take (i := 0) (v := ?_) rfl (by kernel_rfl) (by kernel_rfl) (by kernel_rfl) (by kernel_rfl) (fun _ _ _ h => h) (Or.inl ⟨by kernel_rfl, ?_⟩) hS ?_
      rotate_left
      · intro w' hSw; go_simp; with_reducible rfl
      try simp only [Act.put, List.getElem_toArray, List.getElem_cons_zero, List.getElem_cons_succ, List.setIfInBounds_toArray, List.set_cons_zero, List.set_cons_succ]
      refine wpAnyY_take (i := 1) (v := ?_) rfl (by kernel_rfl) (by kernel_rfl) (by kernel_rfl) (by kernel_rfl) (fun _ _ _ h => h) (Or.inl ⟨by kernel_rfl, ?_⟩) hS ?_
      rotate_left
      · intro w' hSw; go_simp; with_reducible rfl
      try simp only [Act.put, List.getElem_toArray, List.getElem_cons_zero, List.getElem_cons_succ, List.setIfInBounds_toArray, List.set_cons_zero, List.set_cons_succ]
      refine wpAnyY_take (i := 2) (v := ?_) rfl (by kernel_rfl) (by kernel_rfl) (by kernel_rfl) (by kernel_rfl) (fun _ _ _ h => h) (Or.inl ⟨by kernel_rfl, ?_⟩) hS ?_
      rotate_left
      · intro w' hSw; go_simp; with_reducible rfl
      try simp only [Act.put, List.getElem_toArray, List.getElem_cons_zero, List.getElem_cons_succ, List.setIfInBounds_toArray, List.set_cons_zero, List.set_cons_succ]
      refine wpAnyY_take (i := 3) (v := ?_) rfl (by kernel_rfl) (by kernel_rfl) (by kernel_rfl) (by kernel_rfl) (fun _ _ _ h => h) (Or.inl ⟨by kernel_rfl, ?_⟩) hS ?_
      rotate_left
      · intro w' hSw; go_simp; with_reducible rfl
      try simp only [Act.put, List.getElem_toArray, List.getElem_cons_zero, List.getElem_cons_succ, List.setIfInBounds_toArray, List.set_cons_zero, List.set_cons_succ]
      refine wpAnyY_take (i := 4) (v := ?_) rfl (by kernel_rfl) (by kernel_rfl) (by kernel_rfl) (by kernel_rfl) (fun _ _ _ h => h) (Or.inl ⟨by kernel_rfl, ?_⟩) hS ?_
      rotate_left
      · intro w' hSw; go_simp; with_reducible rfl
      try simp only [Act.put, List.getElem_toArray, List.getElem_cons_zero, List.getElem_cons_succ, List.setIfInBounds_toArray, List.set_cons_zero, List.set_cons_succ]
      refine wpAnyY_take (i := 5) (v := ?_) rfl (by kernel_rfl) (by kernel_rfl) (by kernel_rfl) (by kernel_rfl) (fun _ _ _ h => h) (Or.inl ⟨by kernel_rfl, ?_⟩) hS ?_
      rotate_left
      · intro w' hSw; go_simp; with_reducible rfl
      try simp only [Act.put, List.getElem_toArray, List.getElem_cons_zero, List.getElem_cons_succ, List.setIfInBounds_toArray, List.set_cons_zero, List.set_cons_succ]
      refine wpAnyY_take (i := 6) (v := ?_) rfl (by kernel_rfl) (by kernel_rfl) (by kernel_rfl) (by kernel_rfl) (fun _ _ _ h => h) (Or.inl ⟨by kernel_rfl, ?_⟩) hS ?_
      rotate_left
      · intro w' hSw; have e := hSw.2; go_simp; with_reducible rfl
      try simp only [Act.put, List.getElem_toArray, List.getElem_cons_zero, List.getElem_cons_succ, List.setIfInBounds_toArray, List.set_cons_zero, List.set_cons_succ]
      refine wpAnyY_take (i := 7) (v := ?_) rfl (by kernel_rfl) (by kernel_rfl) (by kernel_rfl) (by kernel_rfl) (fun _ _ _ h => h) (Or.inl ⟨by kernel_rfl, ?_⟩) hS ?_
      rotate_left
      · intro w' hSw; go_simp; with_reducible rfl
      try simp only [Act.put, List.getElem_toArray, List.getElem_cons_zero, List.getElem_cons_succ, List.setIfInBounds_toArray, List.set_cons_zero, List.set_cons_succ]
      refine wpAnyY_take (i := 8) (v := ?_) rfl (by kernel_rfl) (by kernel_rfl) (by kernel_rfl) (by kernel_rfl) (fun _ _ _ h => h) (Or.inl ⟨by kernel_rfl, ?_⟩) hS ?_
      rotate_left
      · intro w' hSw; have e16 := (hSw.1.cell 16).trans v16; have lb := hSw.1.lt; go_simp; with_reducible rfl
      try simp only [Act.put, List.getElem_toArray, List.getElem_cons_zero, List.getElem_cons_succ, List.setIfInBounds_toArray, List.set_cons_zero, List.set_cons_succ]
      refine wpAnyY_oneW (i := 9) (by kernel_rfl) rfl (by kernel_rfl) (by kernel_rfl) (fun K9 hK9 => ?_)
      go_simp
      refine hK9.out _ _ ?_
      try simp only [Act.put, List.getElem_toArray, List.getElem_cons_zero, List.getElem_cons_succ, List.setIfInBounds_toArray, List.set_cons_zero, List.set_cons_succ]
      refine wpAnyY_done (by kernel_rfl) ?_ _
      clear hS hSk
      have gzd := gz.d
      by_cases hc : dk < hi
      · have hc1 : decide (dk < hi) = true := decide_eq_true hc
        have HY : Hid (lightB r m = false) := by
          unfold lightB
          rw [anyU_yes hqr (by rw [decide_eq_false (by rw [← HHI.out, ← HD.out]; omega)]; rfl)]; rfl
        go_wp2_with fail
        go_ret
        exact ⟨by rw [HY.out]; rfl, g0.t gzd⟩
      · have hc1 : decide (dk < hi) = false := decide_eq_false hc
        have HOK : Hid (decide (m + hiR r q ≤ r.dark) = true) := decide_eq_true (by rw [← HHI.out, ← HD.out]; omega)
        go_wp2_with fail
        go_roundw
        case rel => exact ⟨q + 1, by omega, by go_num, fun j hj => by
          rcases Nat.lt_or_ge j q with h | h
          · exact hno.out j h
          · obtain rfl : j = q := by omega
            exact HOK.out, gzd⟩
        case measure => simp [intOf]; omega
    · obtain rfl : n = q := by omega
      have HY : Hid (lightB r m = true) := by unfold lightB; rw [anyU_no fun j hj => by rw [hno.out j (by rw [HN.out]; exact hj)]; rfl]; rfl
      have hjj : ¬ (n : Int) < n := by omega
      clear HP HNS
      go_wp2_with fail
      go_ret
      exact ⟨by rw [HY.out]; rfl, gw⟩
end Go.Proofs.YtcekdljjmfkacaaGreat
