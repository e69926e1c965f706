import Derived.Laws.Bits128
import Derived.Test.YtnkmcoljijmgpaaGreatBl
set_option linter.unusedSimpArgs false
set_option linter.unusedVariables false
namespace Go.Proofs.YtnkmcoljijmgpaaGreat
open Go.RowKit Go.Shelf Go.Sort Go.Maps
attribute [local go_sem] Oper.semAt_some wide_fn wide_dep wideR_fn wideR_dep
theorem i64_and1 (n : Int) : bits .and .i64 n 1 = n % 2 := by
  have h1 : (BitVec.ofInt 64 1).toNat = 2 ^ 1 - 1 := by decide
  have key : (BitVec.ofInt 64 n &&& BitVec.ofInt 64 1).toNat = (n % ((2 ^ 64 : Nat) : Int)).toNat % 2 ^ 1 := by
    rw [BitVec.toNat_and, BitVec.toNat_ofInt, h1, Nat.and_two_pow_sub_one_eq_mod]
  show IntKind.i64.wrap ((BitVec.ofInt 64 n &&& BitVec.ofInt 64 1).toNat : Nat) = n % 2
  rw [key, IntKind.wrap_i64]
  omega
/-- protest i is upheld in case n -/
def bitB (n i : Nat) : Bool := decide (n / 2 ^ i % 2 = 1)
theorem bit_int (n i : Nat) : ((n : Int) / 2 ^ i % 2 == 1) = bitB n i := by
  have e : ((n : Int) / 2 ^ i % 2) = ((n / 2 ^ i % 2 : Nat) : Int) := by simp
  rw [e]
  unfold bitB
  by_cases h : n / 2 ^ i % 2 = 1
  · rw [h]; simp
  · have h2 : ((n / 2 ^ i % 2 : Nat) : Int) ≠ 1 := by omega
    simp only [h, decide_false, beq_eq_false_iff_ne]
    exact h2
/-- who is struck in case n, of the first k protests -/
def stTo (ps : List Int) (n : Nat) : Nat → List Int
  | 0 => []
  | k + 1 => if bitB n k = true then stTo ps n k ++ [ps.getD k 0] else stTo ps n k
def stOf (ps : List Int) (n : Nat) : List Int := stTo ps n ps.length
def caseL (ps : List Int) : List (List Int) := (List.range (2 ^ ps.length)).map (stOf ps)
theorem stTo_len (ps : List Int) (n : Nat) : ∀ k, (stTo ps n k).length ≤ k
  | 0 => Nat.le_refl _
  | k + 1 => by
    have := stTo_len ps n k
    unfold stTo
    split
    · rw [List.length_append]; simp; omega
    · omega
theorem caseL_len (ps : List Int) : (caseL ps).length = 2 ^ ps.length := by simp [caseL]
theorem caseL_take (ps : List Int) {k : Nat} (h : k < 2 ^ ps.length) : (caseL ps).take (k + 1) = (caseL ps).take k ++ [stOf ps k] := by
  have hl : k < (caseL ps).length := by rw [caseL_len]; exact h
  rw [List.take_add_one, List.getElem?_eq_getElem hl]
  simp [caseL]
/-- what a case of protests hands: the birds that are struck -/
structure Yd where
  a : Option Addr
  c : Nat
  st : List Int
def Yd.v (x : Yd) : Value := .slice x.a x.st.length x.c
def YdAt (x : Yd) (W : World) : Prop := IntsAt W x.a x.st ∧ x.st.length ≤ 4
/-- older blocks, but some, are as they were -/
def KP (B : Nat) (C : Nat → Prop) (A W : World) : Prop := A.heap.size ≤ W.heap.size ∧ ∀ i, i < B → ¬ C i → W.heap[i]? = A.heap[i]?
theorem KP.rf (B : Nat) (C : Nat → Prop) (A : World) : KP B C A A := ⟨Nat.le_refl _, fun _ _ _ => rfl⟩
theorem KP.t {B : Nat} {C : Nat → Prop} {A A' A'' : World} (h : KP B C A A') (k : KP B C A' A'') : KP B C A A'' := ⟨Nat.le_trans h.1 k.1, fun i hi hc => (k.2 i hi hc).trans (h.2 i hi hc)⟩
theorem KP.kt {B B' : Nat} {C : Nat → Prop} {A W : World} {T : TypeId → Prop} (h : Kt T B' A W) (hb : B ≤ B') (hA : B ≤ A.heap.size) : KP B C A W := ⟨h.size, fun i hi hc => by
  have hi2 : i < A.heap.size := by omega
  rw [h.block i _ (Array.getElem?_eq_getElem hi2) (.inl (by omega)), Array.getElem?_eq_getElem hi2]⟩
theorem KP.blk {B : Nat} {C : Nat → Prop} {A W : World} (h : KP B C A W) {g : Nat} {t : TypeId} {cs : Array Value} (b : Blk A g t cs) (hg : g < B) (hc : ¬ C g) : Blk W g t cs := (h.2 g hg hc).trans b
theorem KP.ints {B : Nat} {C : Nat → Prop} {A W : World} (h : KP B C A W) {a : Option Addr} {l : List Int} (hi : IntsAt A a l) (hg : l = [] ∨ ∀ b o, a = some ⟨b, o, none⟩ → b < B ∧ ¬ C b) : IntsAt W a l := by
  rcases hi with hi | ⟨b, off, h1, h2, h3⟩
  · exact .inl hi
  · rcases hg with hg | hg
    · exact .inl hg
    refine .inr ⟨b, off, h1, Nat.lt_of_lt_of_le h2 h.1, fun k hk => ?_⟩
    have e := h.2 b (hg b off h1).1 (hg b off h1).2
    have e3 := h3 k hk
    simp only [World.cell?] at e3 ⊢
    rw [e]
    exact e3
theorem Fr.kt {R : Nat → Prop} {A B D : World} {T : TypeId → Prop} {b : Nat} (h : Fr R A B) (k : Kt T b B D) (hb : A.heap.size ≤ b) : Fr R A D := ⟨k.os.trans h.os, k.tape.trans h.tape, k.output.trans h.output, Nat.le_trans h.size k.size, fun i hi hn => by
  have hi2 : i < B.heap.size := Nat.lt_of_lt_of_le hi h.size
  rw [k.block i _ (Array.getElem?_eq_getElem hi2) (.inl (by omega)), ← Array.getElem?_eq_getElem hi2]
  exact h.block i hi hn⟩
theorem KP.put (B : Nat) (C : Nat → Prop) (W : World) (l : Nat) (o o' : Obj) (hl : B ≤ l) : KP B C W (W.putObj l o') := ⟨by simp [World.putObj], fun i hi _ => World.putObj_heap_other (by omega)⟩
theorem YdAt.put (x : Yd) (W : World) (l : Nat) (o o' : Obj) (ho : W.heap[l]? = some o) (hc : o.isCells = false) (h : YdAt x W) : YdAt x (W.putObj l o') := by
  refine ⟨?_, h.2⟩
  rcases h.1 with h | ⟨b, off, h1, h2, h3⟩
  · exact .inl h
  · refine .inr ⟨b, off, h1, by simpa [World.putObj] using h2, fun k hk => ?_⟩
    have h4 := h3 k hk
    have hne : b ≠ l := fun e => by
      subst e
      simp only [World.cell?, ho] at h4
      cases o <;> simp [Obj.isCells] at hc h4
    have e := World.putObj_heap_other (w := W) (o := o') hne
    simp only [World.cell?] at h4 ⊢
    rw [e]
    exact h4
theorem Fr.kp {C : Nat → Prop} {A B : World} (h : Fr C A B) (b : Nat) (hb : b ≤ A.heap.size) : KP b C A B := ⟨h.size, fun i hi hc => h.block i (by omega) hc⟩
theorem kt_grown {X Y : World} {b B n : Nat} {v : Value} {xs : List Value} (h : X.ownsRow b 3 1 v n xs) (hb : B ≤ b) (hg : X.grownBy Y v.ownBlock) : Kt (· = 3) B X Y := ⟨hg.os, hg.tape, hg.output, hg.size, fun i o hi hc => by
  refine (hg.block i (Array.getElem?_eq_some_iff.1 hi).1 (fun e => ?_)).trans hi
  have e2 := own_base h e.symm
  rcases hc with hc | hc
  · omega
  · obtain ⟨c, t, f, h5⟩ := own_cells h e.symm
    rcases h.2 with ⟨rfl, _⟩ | ⟨g, cap, cur, rfl, _, hgb, _⟩
    · cases e
    · have e3 : i = g := by injection e
      subst e3
      rw [hgb] at hi
      cases hi
      exact hc _ _ _ rfl rfl⟩
set_option maxRecDepth 100000 in
set_option maxHeartbeats 8000000 in
theorem cases_seq (n : Nat) (hn : 1 ≤ n) (K : Nat) (C : Nat → Prop) (f : Fu) (w : World) (hB : Blk w K 85 f.v) (hp : IntsAt w f.pa f.ps) (hl : f.ps.length ≤ 4) (hK : ¬ C K) (hpc : f.ps = [] ∨ ∀ b o, f.pa = some ⟨b, o, none⟩ → b < w.heap.size ∧ ¬ C b) :
    SeqY (· = 3) Fence.wide n Tryz.prog 84 #[.pointer (some ⟨K, 0, none⟩)] Yd.v YdAt (KP w.heap.size C) (fun xs => xs.map Yd.st = caseL f.ps) (fun _ => True) (2 ^ f.ps.length) w := by
  intro l J Jx W hW hJ hJx hY h0
  have hBW := hB.keep hW
  have hpW := hp.below hW
  have hwW := hW.size
  have hKw := hB.lt
  have HCT := Lib.hid (fun (k : Nat) (hk : k < 2 ^ f.ps.length) => caseL_take f.ps hk)
  have HCL : Hid ((caseL f.ps).take (2 ^ f.ps.length) = caseL f.ps) := by rw [← caseL_len]; exact List.take_length
  generalize caseL f.ps = CL at *
  clear hB hp hW
  obtain ⟨⟨ystake, ycut, ykind, yta, ytc, ytable, yquota, yfirst⟩, fa, fc, rs, pa, pc, ps⟩ := f
  unfold Fu.v at *
  dsimp only at *
  have m7 := hBW.cell 7
  have lK := hBW.lt
  have hp16 : 2 ^ ps.length ≤ 16 := Nat.pow_le_pow_right (n := 2) (by decide) hl
  refine callsIn_of_wp Tryz.func84 rfl trivial ?_ rfl
  simp only [Tryz.ntmps84, List.size_toArray, List.length_cons, List.length_nil, Nat.reduceAdd, Nat.reduceSub, Array.replicate_succ, Array.replicate_zero, List.push_toArray, List.append_toArray, List.nil_append, List.cons_append]
  gi_wp2_with fail
  have hw64 : wrap64 ((2 : Int) ^ ps.length) = ((2 ^ ps.length : Nat) : Int) := by
    have e : ((2 : Int) ^ ps.length) = ((2 ^ ps.length : Nat) : Int) := by simp
    rw [e]
    have h5 : ∀ N : Nat, N ≤ 16 → wrap64 (N : Int) = N := fun N h => IntWalk.wrap64_in _ (by omega)
    exact h5 _ hp16
  rw [hw64]
  clear hw64
  obtain ⟨NN, hNN⟩ : ∃ NN, NN = 2 ^ ps.length := ⟨_, rfl⟩
  rw [← hNN] at hp16 HCT HCL hY ⊢
  have h00 : Hid (∃ p' : List Yd, p'.map Yd.st = CL.take 0 ∧ J p' W) := ⟨[], by simp, h0⟩
  have HNN := Lib.hid hNN
  clear hNN h0
  have HY := Lib.hid hY
  have HpW := Lib.hid hpW
  have hand := i64_and1
  clear hY hpW m7
  gi_loopw [11] (fun i wr => ∃ k : Nat, k ≤ NN ∧ i = .int .i64 k ∧ Hid (∃ p' : List Yd, p'.map Yd.st = CL.take k ∧ J p' wr) ∧ Hid (KP w.heap.size C W wr)) (fun i _ => NN - (intOf i).toNat)
  case atStart => exact ⟨0, Nat.zero_le _, rfl, h00, KP.rf _ _ _⟩
  case round =>
    clear h00
    obtain ⟨k, hk, rfl, HJ, HK⟩ := hrel
    obtain ⟨wo, rfl⟩ : ∃ wo, wo = wr := ⟨_, rfl⟩
    by_cases hlt : k < NN
    · have hki : (k : Int) < NN := by omega
      have bK := HK.out.blk hBW hKw hK
      have m7 := bK.cell 7
      have lK2 := bK.lt
      have hWo : W.heap.size ≤ wo.heap.size := HK.out.1
      gi_wp2_with fail
      clear m7
      gi_loopw [4, 17] (fun v i wi => ∃ j : Nat, j ≤ ps.length ∧ i = .int .i64 j ∧ Hid (wi.ownsRow wo.heap.size 3 1 v (stTo ps k j).length (iv (stTo ps k j))) ∧ Hid (Kt (· = 3) W.heap.size wo wi)) (fun _ i _ => ps.length - (intOf i).toNat)
      case atStart => exact ⟨0, Nat.zero_le _, rfl, World.ownsRow_nil _ _ _ _, Kt.rf _ _ _⟩
      case round =>
        obtain ⟨j, hj, rfl, HO, HT⟩ := hrel
        obtain ⟨wi, rfl⟩ : ∃ wi, wi = wr := ⟨_, rfl⟩
        obtain ⟨va, vc, rfl⟩ := own_slice HO.out
        have HKI := Lib.hid (HK.out.t (KP.kt (C := C) HT.out hwW (by omega)))
        by_cases hjl : j < ps.length
        · have hji : (j : Int) < ps.length := by omega
          rcases HKI.out.ints HpW.out hpc with h | ⟨gb, off, rfl, lgb, hcell⟩
          · rw [h] at hjl; simp at hjl
          have q0 := hcell j hjl
          have hst : stTo ps k (j + 1) = if bitB k j = true then stTo ps k j ++ [ps.getD j 0] else stTo ps k j := rfl
          have hjn : j ≤ 64 := by omega
          have hj0 : (0 : Int) ≤ j := by omega
          have hj64 : (j : Int) ≤ 64 := by omega
          have hbit := bit_int k j
          have hsl := stTo_len ps k j
          obtain ⟨z, hz⟩ : ∃ z, z = ps.getD j 0 := ⟨_, rfl⟩
          rw [← hz] at q0 hst
          clear hz hcell
          cases hb : bitB k j
          · rw [hb] at hbit hst
            have HST := Lib.hid (show stTo ps k (j + 1) = stTo ps k j by simpa using hst)
            clear hst hb
            gi_wp2_with fail
            go_roundw
            case rel => exact ⟨j + 1, by omega, by go_num, by rw [HST.out]; exact HO.out, HT.out⟩
            case measure => simp [intOf] <;> omega
          · rw [hb] at hbit hst
            have HST := Lib.hid (show stTo ps k (j + 1) = stTo ps k j ++ [z] by simpa using hst)
            clear hst hb
            obtain ⟨i0, hi0, hz0, hz1, hz2⟩ := info_parts info3
            have hsz := HT.out.size
            have HOA := Lib.hid (own_G HO.out ((G.rf wi).a (.cells #[.int .i64 z] 3)))
            obtain ⟨q, hq⟩ : ∃ q, q = stTo ps k j := ⟨_, rfl⟩
            rw [← hq] at HOA HST hsl ⊢
            clear hq
            gi_wp2_with (gi_at_builtin; refine wpListIn_append_own _ rfl _ _ 24 rfl wo.heap.size 3 i0 (.int .i64 0) 1 8 Tryz.underlying24 hi0 hz0 hz1 hz2 rfl (by decide) _ q.length (iv q) rfl HOA.out ⟨wi.heap.size, 0, none⟩ 1 1 [.int .i64 z] rfl rfl (cell_one_new _ _ _) (by simp [Value.oneCell']) (by unfold maxLen; omega) (by omega) (by simp only [World.alloc, Array.size_push]; omega) ?_; intro v9 w9 hown9 hg9 hnil9; go_frame)
            go_roundw
            case rel => exact ⟨j + 1, by omega, by go_num, by rw [HST.out, List.length_append, iv_snoc]; exact hown9, (HT.out.t (G.kt ((G.rf wi).a _))).t (kt_grown HOA.out hWo hg9)⟩
            case measure => simp [intOf] <;> omega
        · obtain rfl : j = ps.length := by omega
          have hji : ¬ ((ps.length : Nat) : Int) < ps.length := by omega
          obtain ⟨p', hp', hj'⟩ := HJ.out
          have hji2 := hJ p' wo wi hj' HT.out
          have hlen : p'.length < NN := by
            have := congrArg List.length hp'
            rw [List.length_map, List.length_take] at this
            omega
          have hct := HCT.out k hlt
          have hyi : IntsAt wi va (stTo ps k ps.length) := by
            obtain ⟨a, c, e, hi⟩ := own_ints HO.out
            injection e with e1 e2 e3
            rw [e1]
            exact hi
          obtain ⟨fn, tmps, assign, body, hy', hR⟩ := HY.out p' ⟨va, vc, stOf ps k⟩ wi hji2 ⟨hyi, Nat.le_trans (stTo_len ps k _) hl⟩ hlen
          dsimp only [Yd.v] at hy'
          have hR2 := Lib.hid hR
          have HCTT := Lib.hid hct
          clear hR hct hji2 hj'
          unfold stOf at hy'
          have HPP := Lib.hid (show ((p' ++ [(⟨va, vc, stOf ps k⟩ : Yd)]).map Yd.st) = CL.take (k + 1) by rw [List.map_append, hp', HCTT.out]; rfl)
          clear hp' hyi
          gi_wp2_with fail
          refine hR2.out.mono ?_
          rintro e W3 (⟨rfl, hJ3, hk3⟩ | ⟨rfl, hJx3⟩)
          · gi_wp2_with fail
            go_roundw
            case rel => exact ⟨k + 1, by omega, by go_num, ⟨_, HPP.out, hJ3⟩, HKI.out.t hk3⟩
            case measure => simp [intOf] <;> omega
          · gi_wp2_with fail
            refine bodyPost_ret (results_none rfl _ _ _) rfl ?_
            exact ⟨⟨_, rfl⟩, .inr ⟨_, trivial, hJx3⟩⟩
    · obtain rfl : k = NN := by omega
      have hki : ¬ ((k : Nat) : Int) < k := by omega
      obtain ⟨p', hp', hj'⟩ := HJ.out
      rw [HCL.out] at hp'
      gi_wp2_with fail
      go_end0
      exact ⟨⟨_, rfl⟩, .inl ⟨p', hp', hj'⟩⟩
end Go.Proofs.YtnkmcoljijmgpaaGreat
