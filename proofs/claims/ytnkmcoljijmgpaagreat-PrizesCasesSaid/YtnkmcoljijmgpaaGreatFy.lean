import Derived.Test.YtnkmcoljijmgpaaGreatFc
set_option linter.unusedSimpArgs false
set_option linter.unusedVariables false
namespace Go.Proofs.YtnkmcoljijmgpaaGreat
open Go.RowKit Go.Shelf Go.Sort Go.Maps
attribute [local go_sem] Oper.semAt_some wide_fn wide_dep wideR_fn wideR_dep
/-- what a case hands: the birds that are struck, in a block of its own -/
def YdAt2 (B : Nat) (x : Yd) (W : World) : Prop := YdAt x W ∧ ∀ b o, x.a = some ⟨b, o, none⟩ → B ≤ b
theorem YdAt2.put {B : Nat} (x : Yd) (W : World) (l : Nat) (o o' : Obj) (ho : W.heap[l]? = some o) (hc : o.isCells = false) (h : YdAt2 B x W) : YdAt2 B x (W.putObj l o') := ⟨YdAt.put x W l o o' ho hc h.1, h.2⟩
set_option maxRecDepth 100000 in
set_option maxHeartbeats 8000000 in
theorem cases_seq2 (n : Nat) (hn : 1 ≤ n) (K : Nat) (C : Nat → Prop) (f : Fu) (w : World) (hB : Blk w K 85 f.v) (hp : IntsAt w f.pa f.ps) (hl : f.ps.length ≤ 4) (hK : ¬ C K) (hpc : f.ps = [] ∨ ∀ b o, f.pa = some ⟨b, o, none⟩ → b < w.heap.size ∧ ¬ C b) :
    SeqY (· = 3) Fence.wide n Tryz.prog 84 #[.pointer (some ⟨K, 0, none⟩)] Yd.v (YdAt2 w.heap.size) (KP w.heap.size C) (fun xs => xs.map Yd.st = caseL f.ps) (fun _ => True) (2 ^ f.ps.length) w := by
  intro l J Jx W hW hJ hJx hY h0
  have hBW := hB.keep hW
  have hpW := hp.below hW
  have hwW := hW.size
  have hKw := hB.lt
  have HCT := Lib.hid (fun (k : Nat) (hk : k < 2 ^ f.ps.length) => caseL_take f.ps hk)
  have HCL : Hid ((caseL f.ps).take (2 ^ f.ps.length) = caseL f.ps) := by rw [← caseL_len]; exact List.take_length
  generalize caseL f.ps = CL at *
  clear hB hp hW
  obtain ⟨⟨ystake, ycut, ykind, yta, ytc, ytable, yquota, yfirst⟩, fa, fc, rs, pa, pc, ps⟩ := f
  unfold Fu.v at *
  dsimp only at *
  have m7 := hBW.cell 7
  have lK := hBW.lt
  have hp16 : 2 ^ ps.length ≤ 16 := Nat.pow_le_pow_right (n := 2) (by decide) hl
  refine callsIn_of_wp Tryz.func84 rfl trivial ?_ rfl
  simp only [Tryz.ntmps84, List.size_toArray, List.length_cons, List.length_nil, Nat.reduceAdd, Nat.reduceSub, Array.replicate_succ, Array.replicate_zero, List.push_toArray, List.append_toArray, List.nil_append, List.cons_append]
  gi_wp2_with fail
  have hw64 : wrap64 ((2 : Int) ^ ps.length) = ((2 ^ ps.length : Nat) : Int) := by
    have e : ((2 : Int) ^ ps.length) = ((2 ^ ps.length : Nat) : Int) := by simp
    rw [e]
    have h5 : ∀ N : Nat, N ≤ 16 → wrap64 (N : Int) = N := fun N h => IntWalk.wrap64_in _ (by omega)
    exact h5 _ hp16
  rw [hw64]
  clear hw64
  obtain ⟨NN, hNN⟩ : ∃ NN, NN = 2 ^ ps.length := ⟨_, rfl⟩
  rw [← hNN] at hp16 HCT HCL hY ⊢
  have h00 : Hid (∃ p' : List Yd, p'.map Yd.st = CL.take 0 ∧ J p' W) := ⟨[], by simp, h0⟩
  have HNN := Lib.hid hNN
  clear hNN h0
  have HY := Lib.hid hY
  have HpW := Lib.hid hpW
  have hand := i64_and1
  clear hY hpW m7
  gi_loopw [11] (fun i wr => ∃ k : Nat, k ≤ NN ∧ i = .int .i64 k ∧ Hid (∃ p' : List Yd, p'.map Yd.st = CL.take k ∧ J p' wr) ∧ Hid (KP w.heap.size C W wr)) (fun i _ => NN - (intOf i).toNat)
  case atStart => exact ⟨0, Nat.zero_le _, rfl, h00, KP.rf _ _ _⟩
  case round =>
    clear h00
    obtain ⟨k, hk, rfl, HJ, HK⟩ := hrel
    obtain ⟨wo, rfl⟩ : ∃ wo, wo = wr := ⟨_, rfl⟩
    by_cases hlt : k < NN
    · have hki : (k : Int) < NN := by omega
      have bK := HK.out.blk hBW hKw hK
      have m7 := bK.cell 7
      have lK2 := bK.lt
      have hWo : W.heap.size ≤ wo.heap.size := HK.out.1
      gi_wp2_with fail
      clear m7
      gi_loopw [4, 17] (fun v i wi => ∃ j : Nat, j ≤ ps.length ∧ i = .int .i64 j ∧ Hid (wi.ownsRow wo.heap.size 3 1 v (stTo ps k j).length (iv (stTo ps k j))) ∧ Hid (Kt (· = 3) W.heap.size wo wi)) (fun _ i _ => ps.length - (intOf i).toNat)
      case atStart => exact ⟨0, Nat.zero_le _, rfl, World.ownsRow_nil _ _ _ _, Kt.rf _ _ _⟩
      case round =>
        obtain ⟨j, hj, rfl, HO, HT⟩ := hrel
        obtain ⟨wi, rfl⟩ : ∃ wi, wi = wr := ⟨_, rfl⟩
        obtain ⟨va, vc, rfl⟩ := own_slice HO.out
        have HKI := Lib.hid (HK.out.t (KP.kt (C := C) HT.out hwW (by omega)))
        by_cases hjl : j < ps.length
        · have hji : (j : Int) < ps.length := by omega
          rcases HKI.out.ints HpW.out hpc with h | ⟨gb, off, rfl, lgb, hcell⟩
          · rw [h] at hjl; simp at hjl
          have q0 := hcell j hjl
          have hst : stTo ps k (j + 1) = if bitB k j = true then stTo ps k j ++ [ps.getD j 0] else stTo ps k j := rfl
          have hjn : j ≤ 64 := by omega
          have hj0 : (0 : Int) ≤ j := by omega
          have hj64 : (j : Int) ≤ 64 := by omega
          have hbit := bit_int k j
          have hsl := stTo_len ps k j
          obtain ⟨z, hz⟩ : ∃ z, z = ps.getD j 0 := ⟨_, rfl⟩
          rw [← hz] at q0 hst
          clear hz hcell
          cases hb : bitB k j
          · rw [hb] at hbit hst
            have HST := Lib.hid (show stTo ps k (j + 1) = stTo ps k j by simpa using hst)
            clear hst hb
            gi_wp2_with fail
            go_roundw
            case rel => exact ⟨j + 1, by omega, by go_num, by rw [HST.out]; exact HO.out, HT.out⟩
            case measure => simp [intOf] <;> omega
          · rw [hb] at hbit hst
            have HST := Lib.hid (show stTo ps k (j + 1) = stTo ps k j ++ [z] by simpa using hst)
            clear hst hb
            obtain ⟨i0, hi0, hz0, hz1, hz2⟩ := info_parts info3
            have hsz := HT.out.size
            have HOA := Lib.hid (own_G HO.out ((G.rf wi).a (.cells #[.int .i64 z] 3)))
            obtain ⟨q, hq⟩ : ∃ q, q = stTo ps k j := ⟨_, rfl⟩
            rw [← hq] at HOA HST hsl ⊢
            clear hq
            gi_wp2_with (gi_at_builtin; refine wpListIn_append_own _ rfl _ _ 24 rfl wo.heap.size 3 i0 (.int .i64 0) 1 8 Tryz.underlying24 hi0 hz0 hz1 hz2 rfl (by decide) _ q.length (iv q) rfl HOA.out ⟨wi.heap.size, 0, none⟩ 1 1 [.int .i64 z] rfl rfl (cell_one_new _ _ _) (by simp [Value.oneCell']) (by unfold maxLen; omega) (by omega) (by simp only [World.alloc, Array.size_push]; omega) ?_; intro v9 w9 hown9 hg9 hnil9; go_frame)
            go_roundw
            case rel => exact ⟨j + 1, by omega, by go_num, by rw [HST.out, List.length_append, iv_snoc]; exact hown9, (HT.out.t (G.kt ((G.rf wi).a _))).t (kt_grown HOA.out hWo hg9)⟩
            case measure => simp [intOf] <;> omega
        · obtain rfl : j = ps.length := by omega
          have hji : ¬ ((ps.length : Nat) : Int) < ps.length := by omega
          obtain ⟨p', hp', hj'⟩ := HJ.out
          have hji2 := hJ p' wo wi hj' HT.out
          have hlen : p'.length < NN := by
            have := congrArg List.length hp'
            rw [List.length_map, List.length_take] at this
            omega
          have hct := HCT.out k hlt
          have hyi : IntsAt wi va (stTo ps k ps.length) := by
            obtain ⟨a, c, e, hi⟩ := own_ints HO.out
            injection e with e1 e2 e3
            rw [e1]
            exact hi
          have hyb : ∀ b o, (⟨va, vc, stOf ps k⟩ : Yd).a = some ⟨b, o, none⟩ → w.heap.size ≤ b := fun b o e => by
            have e' : va = some ⟨b, o, none⟩ := e
            rcases HO.out.2 with ⟨e1, _⟩ | ⟨g, cap, cur, e1, hb, _⟩
            · injection e1 with e1
              rw [e'] at e1
              cases e1
            · injection e1 with e1
              rw [e'] at e1
              injection e1 with e1
              injection e1 with e1
              omega
          obtain ⟨fn, tmps, assign, body, hy', hR⟩ := HY.out p' ⟨va, vc, stOf ps k⟩ wi hji2 ⟨⟨hyi, Nat.le_trans (stTo_len ps k _) hl⟩, hyb⟩ hlen
          dsimp only [Yd.v] at hy'
          have hR2 := Lib.hid hR
          have HCTT := Lib.hid hct
          clear hR hct hji2 hj'
          unfold stOf at hy'
          have HPP := Lib.hid (show ((p' ++ [(⟨va, vc, stOf ps k⟩ : Yd)]).map Yd.st) = CL.take (k + 1) by rw [List.map_append, hp', HCTT.out]; rfl)
          clear hp' hyi
          gi_wp2_with fail
          refine hR2.out.mono ?_
          rintro e W3 (⟨rfl, hJ3, hk3⟩ | ⟨rfl, hJx3⟩)
          · gi_wp2_with fail
            go_roundw
            case rel => exact ⟨k + 1, by omega, by go_num, ⟨_, HPP.out, hJ3⟩, HKI.out.t hk3⟩
            case measure => simp [intOf] <;> omega
          · gi_wp2_with fail
            refine bodyPost_ret (results_none rfl _ _ _) rfl ?_
            exact ⟨⟨_, rfl⟩, .inr ⟨_, trivial, hJx3⟩⟩
    · obtain rfl : k = NN := by omega
      have hki : ¬ ((k : Nat) : Int) < k := by omega
      obtain ⟨p', hp', hj'⟩ := HJ.out
      rw [HCL.out] at hp'
      gi_wp2_with fail
      go_end0
      exact ⟨⟨_, rfl⟩, .inl ⟨p', hp', hj'⟩⟩
end Go.Proofs.YtnkmcoljijmgpaaGreat
