import Derived.Test.YtnkmcoljijmgpaaGreatBj
import Derived.Laws.Bits128
set_option linter.unusedSimpArgs false
set_option linter.unusedVariables false
namespace Go.Proofs.YtnkmcoljijmgpaaGreat
open Go.RowKit Go.Shelf
attribute [local go_sem] Oper.semAt_some
/-- the contract of an iterator that writes cells of its own, and of which is known what lies in memory when it yields -/
def SeqY {α : Type} (T : TypeId → Prop) (F : Fence) (n : Nat) (P : Program) (g : Nat) (lb : Array Value) (ev : α → Value) (Y : α → World → Prop) (Kp : World → World → Prop) (S Sp : List α → Prop) (N : Nat) (w : World) : Prop :=
  ∀ (l : Nat) (J Jx : List α → World → Prop) (W : World), G w W → StableT T W.heap.size J → StableT T W.heap.size Jx →
    (∀ pre x W1, J pre W1 → Y x W1 → pre.length < N → YieldAt F (n - 1) P l #[ev x] W1 fun e W' => (e = .returned (.bool true) ∧ J (pre ++ [x]) W' ∧ Kp W1 W') ∨ (e = .returned (.bool false) ∧ Jx (pre ++ [x]) W')) →
    J [] W → CallsIn F n P g (#[.func (.yield l) #[] #[]] ++ lb) W fun e W' => (∃ v, e = .returned v) ∧ ((∃ xs, S xs ∧ J xs W') ∨ (∃ pre, Sp pre ∧ Jx pre W'))
section
variable {F : Fence} {n : Nat} {P : Program}
/-- a range over a function that writes cells of its own; the loop variable is boxed, its box's address is in slot tb -/
theorem rangeFunc_Y {α : Type} {T : TypeId → Prop} {g : Operand} {tv : Tmp} {assign body : Code} {Q : Exit → Act → World → Prop} {a : Act} {w : World}
    (hro : F.round = none) (h1 : 1 ≤ n) {gf : Nat} {lb : Array Value} (hg : a.eval g = .func (.func gf) #[] lb) (hFg : F.fn gf) (eg : ∀ args w, (callFunc gf args).run P w = .ok (.enter gf args) w)
    {ev : α → Value} {Y : α → World → Prop} {Kp : World → World → Prop} {S Sp : List α → Prop} {N : Nat} {w0 : World} (hseq : SeqY T F (n - 1) P gf lb ev Y Kp S Sp N w0) (hb0 : G w0 w)
    (hKt : ∀ {A B C : World}, Kp A B → Kp B C → Kp A C) (hKb : ∀ (W : World) (l : Nat) (o o' : Obj), w.heap.size ≤ l → W.heap[l]? = some o → o.isCells = false → Kp W (W.putObj l o')) (hYb : ∀ (x : α) (W : World) (l : Nat) (o o' : Obj), W.heap[l]? = some o → o.isCells = false → Y x W → Y x (W.putObj l o'))
    (I : List α → World → Prop) (Ix : Code → List α → World → Prop) (hI : OwnFrom w.heap.size I) (hIx : ∀ c, OwnFrom w.heap.size (Ix c)) (hIT : ∀ B, w.heap.size ≤ B → StableT T B I) (hIxT : ∀ c B, w.heap.size ≤ B → StableT T B (Ix c)) (h0 : I [] w)
    (tb : Tmp)
    (hassign : ∀ (l : Nat) (x : α) (W : World) (K : Act → World → Prop), K { tmps := (a.tmps.setIfInBounds tv (ev x)).setIfInBounds tb (ev x), defers := [] } W →
      assign.wpIn (F.inRound l) (n - 1 - 1) P (Exit.then K (fun _ _ _ => False)) { tmps := a.tmps.setIfInBounds tv (ev x), defers := [] } W)
    (hbody : ∀ (l : Nat) (pre : List α) (x : α) (W : World), I pre W → Y x W → pre.length < N →
      body.wpIn (F.inRound l) (n - 1 - 1) P (ownPostG w.heap.size Kp I Ix (pre ++ [x]) W) { tmps := (a.tmps.setIfInBounds tv (ev x)).setIfInBounds tb (ev x), defers := [] } W)
    (hdone : ∀ (D : Nat) (xs : List α) (W : World), w.heap.size ≤ D → S xs → I xs W → W.heap[D]? = some (.deferred (some [])) → Q .normal { a with defers := { target := .collected D, args := #[] } :: a.defers } W)
    (hstop : ∀ (D : Nat) (c : Code) (pre : List α) (W : World), w.heap.size ≤ D → Sp pre → Ix c pre W → W.heap[D]? = some (.deferred (some [])) → c.wpIn F n P Q { a with defers := { target := .collected D, args := #[] } :: a.defers } W) :
    (Code.rangeFunc g #[tv] assign body).wpIn F n P Q a w := by
  refine wpIn_rangeFunc (fun fn hfn => ?_)
  rw [hro]
  obtain ⟨D, hD⟩ : ∃ D, D = w.heap.size := ⟨_, rfl⟩
  obtain ⟨rc, hrc⟩ : ∃ rc : LoopState → Option Code → Loop, ∀ s c, rc s c = { state := s, pending := c, fn := fn, tmps := a.tmps, params := #[tv], assign := assign, body := body, defers := D } := ⟨fun s c => _, fun _ _ => rfl⟩
  have hent := run_enterLoop_outer (P := P) (w := w) fn a.tmps #[tv] assign body
  rw [← hD, ← hrc] at hent
  have hG1 : G w ((w.alloc (.deferred (some []))).alloc (.loop (rc .ready none))) := ((G.rf w).a _).a _
  have hB1 : Bk (D + 1) D (rc .ready none) ((w.alloc (.deferred (some []))).alloc (.loop (rc .ready none))) := by
    subst hD
    refine ⟨?_, (Below.heap_alloc _ _ _ (by simp)).trans (World.alloc_heap_new w _)⟩
    have := World.alloc_heap_new (w.alloc (.deferred (some []))) (.loop (rc .ready none))
    rwa [World.size_alloc] at this
  have hI1 : I [] ((w.alloc (.deferred (some []))).alloc (.loop (rc .ready none))) := hI.alloc _ (hI.alloc _ h0)
  generalize (w.alloc (.deferred (some []))).alloc (.loop (rc .ready none)) = W1 at *
  refine ⟨D + 1, [{ target := .collected D, args := #[] }], W1, { target := .fn (.func gf) lb, args := #[.func (.yield (D + 1)) #[] #[]] }, W1, gf, #[.func (.yield (D + 1)) #[] #[]] ++ lb, W1, hent, ?_, ?_, ?_, fun _ => h1, ?_⟩
  · simp only [resolve, hg]; simp [go_sem]
  · intro f' hf'; simp [Target.leads] at hf'; subst hf'; exact hFg
  · simp [invoke, go_sem, eg]
  refine (hseq (D + 1) (fun pre W => I pre W ∧ Bk (D + 1) D (rc .ready none) W) (fun pre W => ∃ c, Ix c pre W ∧ Bk (D + 1) D (rc .done (some c)) W) W1 (hb0.t hG1)
    (fun s A C h k => ⟨hIT _ hG1.size s A C h.1 k, h.2.kt k⟩) (fun s A C ⟨c, h, hb⟩ k => ⟨c, hIxT c _ hG1.size s A C h k, hb.kt k⟩) ?_ ⟨hI1, hB1⟩).mono ?_
  · rintro pre x W ⟨hi, hb⟩ hyx hlen
    have hy := run_yield (P := P) (args := #[ev x]) hb.1 (by rw [hrc]; rfl)
    rw [hrc] at hy
    refine ⟨fn, _, assign, body, hy, roundIn_of_wpIn hfn ?_⟩
    have e : ((#[tv] : Array Tmp).zip #[ev x]).foldl (fun t (p, v) => t.setIfInBounds p v) a.tmps = a.tmps.setIfInBounds tv (ev x) := by simp
    rw [e]
    refine hassign _ x W _ ?_
    have hlt : D + 1 < W.heap.size := (Array.getElem?_eq_some_iff.1 hb.1).1
    refine ⟨_, run_beginRound hb.1 (by rw [hrc]), ?_⟩
    have hbB := hb.put (by omega) { rc .ready none with state := .busy }
    have hKB : Kp W (W.putObj (D + 1) (.loop { rc .ready none with state := .busy })) := hKb _ _ _ _ (by omega) hb.1 rfl
    have hIB := hI.putObj (.loop { rc .ready none with state := .busy }) hi (by omega) hb.1 rfl
    have hYB := hYb x W (D + 1) _ (.loop { rc .ready none with state := .busy }) hb.1 rfl hyx
    refine wpIn_mono (hbody _ pre x _ hIB hYB hlen) ?_
    have fin : ∀ (j : Option Code) (W3 : World), KeepsFrom w.heap.size (W.putObj (D + 1) (.loop { rc .ready none with state := .busy })) W3 →
        (Instr.endRound (D + 1) j).run P W3 = .ok (.bool j.isNone) (W3.putObj (D + 1) (.loop (rc (if j.isNone then .ready else .done) j))) ∧ W3.heap[D + 1]? = some (.loop { rc .ready none with state := .busy }) ∧ Bk (D + 1) D (rc (if j.isNone then .ready else .done) j) (W3.putObj (D + 1) (.loop (rc (if j.isNone then .ready else .done) j))) := fun j W3 hk => by
      have hb3 := hbB.keeps hk (by omega) (by omega)
      have h := run_endRound (P := P) j hb3.1
      refine ⟨?_, hb3.1, hb3.put (by omega) _⟩
      rw [hrc] at h ⊢
      exact h
    rintro e a3 W3 hp
    cases e with
    | normal =>
      obtain ⟨hk, hkp, hi3⟩ := hp
      obtain ⟨hr, hl3, hb3⟩ := fin none W3 hk
      exact ⟨_, _, hr, .inl ⟨rfl, ⟨hI.putObj _ hi3 (by omega) hl3 rfl, hb3⟩, hKt hKB (hKt hkp (hKb _ _ _ _ (by omega) hl3 rfl))⟩⟩
    | ret =>
      obtain ⟨hk, hi3⟩ := hp
      obtain ⟨hr, hl3, hb3⟩ := fin (some .ret) W3 hk
      exact ⟨_, _, hr, .inr ⟨rfl, .ret, (hIx _).putObj _ hi3 (by omega) hl3 rfl, hb3⟩⟩
    | exit id =>
      obtain ⟨hk, hi3⟩ := hp
      obtain ⟨hr, hl3, hb3⟩ := fin (some (.exit id)) W3 hk
      exact ⟨_, _, hr, .inr ⟨rfl, .exit id, (hIx _).putObj _ hi3 (by omega) hl3 rfl, hb3⟩⟩
    | goto t =>
      obtain ⟨hk, hi3⟩ := hp
      obtain ⟨hr, hl3, hb3⟩ := fin (some (.goto t)) W3 hk
      exact ⟨_, _, hr, .inr ⟨rfl, .goto t, (hIx _).putObj _ hi3 (by omega) hl3 rfl, hb3⟩⟩
    | panic ch => exact hp.elim
    | outgrown => exact hp.elim
  · rintro e W2 ⟨⟨v, rfl⟩, (⟨xs, hS, hi, hb⟩ | ⟨pre, hSp, c, hi, hb⟩)⟩
    · have h := run_endLoop (P := P) hb.1 (by rw [hrc]; simp)
      rw [hrc] at h
      exact ⟨none, _, h, hdone _ xs _ (by omega) hS (hI.putObj _ hi (by omega) hb.1 rfl) ((World.putObj_heap_other (by omega)).trans hb.2)⟩
    · have h := run_endLoop (P := P) hb.1 (by rw [hrc]; simp)
      rw [hrc] at h
      exact ⟨some c, _, h, hstop _ c pre _ (by omega) hSp ((hIx c).putObj _ hi (by omega) hb.1 rfl) ((World.putObj_heap_other (by omega)).trans hb.2)⟩
end
end Go.Proofs.YtnkmcoljijmgpaaGreat
set_option linter.unusedSimpArgs false
set_option linter.unusedVariables false
namespace Go.Proofs.YtnkmcoljijmgpaaGreat
open Go.RowKit Go.Shelf Go.Sort Go.Maps
attribute [local go_sem] Oper.semAt_some wide_fn wide_dep wideR_fn wideR_dep
theorem i64_and1 (n : Int) : bits .and .i64 n 1 = n % 2 := by
  have h1 : (BitVec.ofInt 64 1).toNat = 2 ^ 1 - 1 := by decide
  have key : (BitVec.ofInt 64 n &&& BitVec.ofInt 64 1).toNat = (n % ((2 ^ 64 : Nat) : Int)).toNat % 2 ^ 1 := by
    rw [BitVec.toNat_and, BitVec.toNat_ofInt, h1, Nat.and_two_pow_sub_one_eq_mod]
  show IntKind.i64.wrap ((BitVec.ofInt 64 n &&& BitVec.ofInt 64 1).toNat : Nat) = n % 2
  rw [key, IntKind.wrap_i64]
  omega
/-- protest i is upheld in case n -/
def bitB (n i : Nat) : Bool := decide (n / 2 ^ i % 2 = 1)
theorem bit_int (n i : Nat) : ((n : Int) / 2 ^ i % 2 == 1) = bitB n i := by
  have e : ((n : Int) / 2 ^ i % 2) = ((n / 2 ^ i % 2 : Nat) : Int) := by simp
  rw [e]
  unfold bitB
  by_cases h : n / 2 ^ i % 2 = 1
  · rw [h]; simp
  · have h2 : ((n / 2 ^ i % 2 : Nat) : Int) ≠ 1 := by omega
    simp only [h, decide_false, beq_eq_false_iff_ne]
    exact h2
/-- who is struck in case n, of the first k protests -/
def stTo (ps : List Int) (n : Nat) : Nat → List Int
  | 0 => []
  | k + 1 => if bitB n k = true then stTo ps n k ++ [ps.getD k 0] else stTo ps n k
def stOf (ps : List Int) (n : Nat) : List Int := stTo ps n ps.length
def caseL (ps : List Int) : List (List Int) := (List.range (2 ^ ps.length)).map (stOf ps)
theorem stTo_len (ps : List Int) (n : Nat) : ∀ k, (stTo ps n k).length ≤ k
  | 0 => Nat.le_refl _
  | k + 1 => by
    have := stTo_len ps n k
    unfold stTo
    split
    · rw [List.length_append]; simp; omega
    · omega
theorem caseL_len (ps : List Int) : (caseL ps).length = 2 ^ ps.length := by simp [caseL]
theorem caseL_take (ps : List Int) {k : Nat} (h : k < 2 ^ ps.length) : (caseL ps).take (k + 1) = (caseL ps).take k ++ [stOf ps k] := by
  have hl : k < (caseL ps).length := by rw [caseL_len]; exact h
  rw [List.take_add_one, List.getElem?_eq_getElem hl]
  simp [caseL]
/-- what a case of protests hands: the birds that are struck -/
structure Yd where
  a : Option Addr
  c : Nat
  st : List Int
def Yd.v (x : Yd) : Value := .slice x.a x.st.length x.c
def YdAt (x : Yd) (W : World) : Prop := IntsAt W x.a x.st ∧ x.st.length ≤ 4
/-- older blocks, but some, are as they were -/
def KP (B : Nat) (C : Nat → Prop) (A W : World) : Prop := A.heap.size ≤ W.heap.size ∧ ∀ i, i < B → ¬ C i → W.heap[i]? = A.heap[i]?
theorem KP.rf (B : Nat) (C : Nat → Prop) (A : World) : KP B C A A := ⟨Nat.le_refl _, fun _ _ _ => rfl⟩
theorem KP.t {B : Nat} {C : Nat → Prop} {A A' A'' : World} (h : KP B C A A') (k : KP B C A' A'') : KP B C A A'' := ⟨Nat.le_trans h.1 k.1, fun i hi hc => (k.2 i hi hc).trans (h.2 i hi hc)⟩
theorem KP.kt {B B' : Nat} {C : Nat → Prop} {A W : World} {T : TypeId → Prop} (h : Kt T B' A W) (hb : B ≤ B') (hA : B ≤ A.heap.size) : KP B C A W := ⟨h.size, fun i hi hc => by
  have hi2 : i < A.heap.size := by omega
  rw [h.block i _ (Array.getElem?_eq_getElem hi2) (.inl (by omega)), Array.getElem?_eq_getElem hi2]⟩
theorem KP.blk {B : Nat} {C : Nat → Prop} {A W : World} (h : KP B C A W) {g : Nat} {t : TypeId} {cs : Array Value} (b : Blk A g t cs) (hg : g < B) (hc : ¬ C g) : Blk W g t cs := (h.2 g hg hc).trans b
theorem KP.ints {B : Nat} {C : Nat → Prop} {A W : World} (h : KP B C A W) {a : Option Addr} {l : List Int} (hi : IntsAt A a l) (hg : l = [] ∨ ∀ b o, a = some ⟨b, o, none⟩ → b < B ∧ ¬ C b) : IntsAt W a l := by
  rcases hi with hi | ⟨b, off, h1, h2, h3⟩
  · exact .inl hi
  · rcases hg with hg | hg
    · exact .inl hg
    refine .inr ⟨b, off, h1, Nat.lt_of_lt_of_le h2 h.1, fun k hk => ?_⟩
    have e := h.2 b (hg b off h1).1 (hg b off h1).2
    have e3 := h3 k hk
    simp only [World.cell?] at e3 ⊢
    rw [e]
    exact e3
theorem Fr.kt {R : Nat → Prop} {A B D : World} {T : TypeId → Prop} {b : Nat} (h : Fr R A B) (k : Kt T b B D) (hb : A.heap.size ≤ b) : Fr R A D := ⟨k.os.trans h.os, k.tape.trans h.tape, k.output.trans h.output, Nat.le_trans h.size k.size, fun i hi hn => by
  have hi2 : i < B.heap.size := Nat.lt_of_lt_of_le hi h.size
  rw [k.block i _ (Array.getElem?_eq_getElem hi2) (.inl (by omega)), ← Array.getElem?_eq_getElem hi2]
  exact h.block i hi hn⟩
theorem KP.put (B : Nat) (C : Nat → Prop) (W : World) (l : Nat) (o o' : Obj) (hl : B ≤ l) : KP B C W (W.putObj l o') := ⟨by simp [World.putObj], fun i hi _ => World.putObj_heap_other (by omega)⟩
theorem YdAt.put (x : Yd) (W : World) (l : Nat) (o o' : Obj) (ho : W.heap[l]? = some o) (hc : o.isCells = false) (h : YdAt x W) : YdAt x (W.putObj l o') := by
  refine ⟨?_, h.2⟩
  rcases h.1 with h | ⟨b, off, h1, h2, h3⟩
  · exact .inl h
  · refine .inr ⟨b, off, h1, by simpa [World.putObj] using h2, fun k hk => ?_⟩
    have h4 := h3 k hk
    have hne : b ≠ l := fun e => by
      subst e
      simp only [World.cell?, ho] at h4
      cases o <;> simp [Obj.isCells] at hc h4
    have e := World.putObj_heap_other (w := W) (o := o') hne
    simp only [World.cell?] at h4 ⊢
    rw [e]
    exact h4
theorem Fr.kp {C : Nat → Prop} {A B : World} (h : Fr C A B) (b : Nat) (hb : b ≤ A.heap.size) : KP b C A B := ⟨h.size, fun i hi hc => h.block i (by omega) hc⟩
theorem kt_grown {X Y : World} {b B n : Nat} {v : Value} {xs : List Value} (h : X.ownsRow b 3 1 v n xs) (hb : B ≤ b) (hg : X.grownBy Y v.ownBlock) : Kt (· = 3) B X Y := ⟨hg.os, hg.tape, hg.output, hg.size, fun i o hi hc => by
  refine (hg.block i (Array.getElem?_eq_some_iff.1 hi).1 (fun e => ?_)).trans hi
  have e2 := own_base h e.symm
  rcases hc with hc | hc
  · omega
  · obtain ⟨c, t, f, h5⟩ := own_cells h e.symm
    rcases h.2 with ⟨rfl, _⟩ | ⟨g, cap, cur, rfl, _, hgb, _⟩
    · cases e
    · have e3 : i = g := by injection e
      subst e3
      rw [hgb] at hi
      cases hi
      exact hc _ _ _ rfl rfl⟩
set_option maxRecDepth 100000 in
set_option maxHeartbeats 8000000 in
theorem cases_seq (n : Nat) (hn : 1 ≤ n) (K : Nat) (C : Nat → Prop) (f : Fu) (w : World) (hB : Blk w K 85 f.v) (hp : IntsAt w f.pa f.ps) (hl : f.ps.length ≤ 4) (hK : ¬ C K) (hpc : f.ps = [] ∨ ∀ b o, f.pa = some ⟨b, o, none⟩ → b < w.heap.size ∧ ¬ C b) :
    SeqY (· = 3) Fence.wide n Tryz.prog 84 #[.pointer (some ⟨K, 0, none⟩)] Yd.v YdAt (KP w.heap.size C) (fun xs => xs.map Yd.st = caseL f.ps) (fun _ => True) (2 ^ f.ps.length) w := by
  intro l J Jx W hW hJ hJx hY h0
  have hBW := hB.keep hW
  have hpW := hp.below hW
  have hwW := hW.size
  have hKw := hB.lt
  have HCT := Lib.hid (fun (k : Nat) (hk : k < 2 ^ f.ps.length) => caseL_take f.ps hk)
  have HCL : Hid ((caseL f.ps).take (2 ^ f.ps.length) = caseL f.ps) := by rw [← caseL_len]; exact List.take_length
  generalize caseL f.ps = CL at *
  clear hB hp hW
  obtain ⟨⟨ystake, ycut, ykind, yta, ytc, ytable, yquota, yfirst⟩, fa, fc, rs, pa, pc, ps⟩ := f
  unfold Fu.v at *
  dsimp only at *
  have m7 := hBW.cell 7
  have lK := hBW.lt
  have hp16 : 2 ^ ps.length ≤ 16 := Nat.pow_le_pow_right (n := 2) (by decide) hl
  refine callsIn_of_wp Tryz.func84 rfl trivial ?_ rfl
  simp only [Tryz.ntmps84, List.size_toArray, List.length_cons, List.length_nil, Nat.reduceAdd, Nat.reduceSub, Array.replicate_succ, Array.replicate_zero, List.push_toArray, List.append_toArray, List.nil_append, List.cons_append]
  gi_wp2_with fail
  have hw64 : wrap64 ((2 : Int) ^ ps.length) = ((2 ^ ps.length : Nat) : Int) := by
    have e : ((2 : Int) ^ ps.length) = ((2 ^ ps.length : Nat) : Int) := by simp
    rw [e]
    have h5 : ∀ N : Nat, N ≤ 16 → wrap64 (N : Int) = N := fun N h => IntWalk.wrap64_in _ (by omega)
    exact h5 _ hp16
  rw [hw64]
  clear hw64
  obtain ⟨NN, hNN⟩ : ∃ NN, NN = 2 ^ ps.length := ⟨_, rfl⟩
  rw [← hNN] at hp16 HCT HCL hY ⊢
  have h00 : Hid (∃ p' : List Yd, p'.map Yd.st = CL.take 0 ∧ J p' W) := ⟨[], by simp, h0⟩
  have HNN := Lib.hid hNN
  clear hNN h0
  have HY := Lib.hid hY
  have HpW := Lib.hid hpW
  have hand := i64_and1
  clear hY hpW m7
  gi_loopw [11] (fun i wr => ∃ k : Nat, k ≤ NN ∧ i = .int .i64 k ∧ Hid (∃ p' : List Yd, p'.map Yd.st = CL.take k ∧ J p' wr) ∧ Hid (KP w.heap.size C W wr)) (fun i _ => NN - (intOf i).toNat)
  case atStart => exact ⟨0, Nat.zero_le _, rfl, h00, KP.rf _ _ _⟩
  case round =>
    clear h00
    obtain ⟨k, hk, rfl, HJ, HK⟩ := hrel
    obtain ⟨wo, rfl⟩ : ∃ wo, wo = wr := ⟨_, rfl⟩
    by_cases hlt : k < NN
    · have hki : (k : Int) < NN := by omega
      have bK := HK.out.blk hBW hKw hK
      have m7 := bK.cell 7
      have lK2 := bK.lt
      have hWo : W.heap.size ≤ wo.heap.size := HK.out.1
      gi_wp2_with fail
      clear m7
      gi_loopw [4, 17] (fun v i wi => ∃ j : Nat, j ≤ ps.length ∧ i = .int .i64 j ∧ Hid (wi.ownsRow wo.heap.size 3 1 v (stTo ps k j).length (iv (stTo ps k j))) ∧ Hid (Kt (· = 3) W.heap.size wo wi)) (fun _ i _ => ps.length - (intOf i).toNat)
      case atStart => exact ⟨0, Nat.zero_le _, rfl, World.ownsRow_nil _ _ _ _, Kt.rf _ _ _⟩
      case round =>
        obtain ⟨j, hj, rfl, HO, HT⟩ := hrel
        obtain ⟨wi, rfl⟩ : ∃ wi, wi = wr := ⟨_, rfl⟩
        obtain ⟨va, vc, rfl⟩ := own_slice HO.out
        have HKI := Lib.hid (HK.out.t (KP.kt (C := C) HT.out hwW (by omega)))
        by_cases hjl : j < ps.length
        · have hji : (j : Int) < ps.length := by omega
          rcases HKI.out.ints HpW.out hpc with h | ⟨gb, off, rfl, lgb, hcell⟩
          · rw [h] at hjl; simp at hjl
          have q0 := hcell j hjl
          have hst : stTo ps k (j + 1) = if bitB k j = true then stTo ps k j ++ [ps.getD j 0] else stTo ps k j := rfl
          have hjn : j ≤ 64 := by omega
          have hj0 : (0 : Int) ≤ j := by omega
          have hj64 : (j : Int) ≤ 64 := by omega
          have hbit := bit_int k j
          have hsl := stTo_len ps k j
          obtain ⟨z, hz⟩ : ∃ z, z = ps.getD j 0 := ⟨_, rfl⟩
          rw [← hz] at q0 hst
          clear hz hcell
          cases hb : bitB k j
          · rw [hb] at hbit hst
            have HST := Lib.hid (show stTo ps k (j + 1) = stTo ps k j by simpa using hst)
            clear hst hb
            gi_wp2_with fail
            go_roundw
            case rel => exact ⟨j + 1, by omega, by go_num, by rw [HST.out]; exact HO.out, HT.out⟩
            case measure => simp [intOf] <;> omega
          · rw [hb] at hbit hst
            have HST := Lib.hid (show stTo ps k (j + 1) = stTo ps k j ++ [z] by simpa using hst)
            clear hst hb
            obtain ⟨i0, hi0, hz0, hz1, hz2⟩ := info_parts info3
            have hsz := HT.out.size
            have HOA := Lib.hid (own_G HO.out ((G.rf wi).a (.cells #[.int .i64 z] 3)))
            obtain ⟨q, hq⟩ : ∃ q, q = stTo ps k j := ⟨_, rfl⟩
            rw [← hq] at HOA HST hsl ⊢
            clear hq
            gi_wp2_with (gi_at_builtin; refine wpListIn_append_own _ rfl _ _ 24 rfl wo.heap.size 3 i0 (.int .i64 0) 1 8 Tryz.underlying24 hi0 hz0 hz1 hz2 rfl (by decide) _ q.length (iv q) rfl HOA.out ⟨wi.heap.size, 0, none⟩ 1 1 [.int .i64 z] rfl rfl (cell_one_new _ _ _) (by simp [Value.oneCell']) (by unfold maxLen; omega) (by omega) (by simp only [World.alloc, Array.size_push]; omega) ?_; intro v9 w9 hown9 hg9 hnil9; go_frame)
            go_roundw
            case rel => exact ⟨j + 1, by omega, by go_num, by rw [HST.out, List.length_append, iv_snoc]; exact hown9, (HT.out.t (G.kt ((G.rf wi).a _))).t (kt_grown HOA.out hWo hg9)⟩
            case measure => simp [intOf] <;> omega
        · obtain rfl : j = ps.length := by omega
          have hji : ¬ ((ps.length : Nat) : Int) < ps.length := by omega
          obtain ⟨p', hp', hj'⟩ := HJ.out
          have hji2 := hJ p' wo wi hj' HT.out
          have hlen : p'.length < NN := by
            have := congrArg List.length hp'
            rw [List.length_map, List.length_take] at this
            omega
          have hct := HCT.out k hlt
          have hyi : IntsAt wi va (stTo ps k ps.length) := by
            obtain ⟨a, c, e, hi⟩ := own_ints HO.out
            injection e with e1 e2 e3
            rw [e1]
            exact hi
          obtain ⟨fn, tmps, assign, body, hy', hR⟩ := HY.out p' ⟨va, vc, stOf ps k⟩ wi hji2 ⟨hyi, Nat.le_trans (stTo_len ps k _) hl⟩ hlen
          dsimp only [Yd.v] at hy'
          have hR2 := Lib.hid hR
          have HCTT := Lib.hid hct
          clear hR hct hji2 hj'
          unfold stOf at hy'
          have HPP := Lib.hid (show ((p' ++ [(⟨va, vc, stOf ps k⟩ : Yd)]).map Yd.st) = CL.take (k + 1) by rw [List.map_append, hp', HCTT.out]; rfl)
          clear hp' hyi
          gi_wp2_with fail
          refine hR2.out.mono ?_
          rintro e W3 (⟨rfl, hJ3, hk3⟩ | ⟨rfl, hJx3⟩)
          · gi_wp2_with fail
            go_roundw
            case rel => exact ⟨k + 1, by omega, by go_num, ⟨_, HPP.out, hJ3⟩, HKI.out.t hk3⟩
            case measure => simp [intOf] <;> omega
          · gi_wp2_with fail
            refine bodyPost_ret (results_none rfl _ _ _) rfl ?_
            exact ⟨⟨_, rfl⟩, .inr ⟨_, trivial, hJx3⟩⟩
    · obtain rfl : k = NN := by omega
      have hki : ¬ ((k : Nat) : Int) < k := by omega
      obtain ⟨p', hp', hj'⟩ := HJ.out
      rw [HCL.out] at hp'
      gi_wp2_with fail
      go_end0
      exact ⟨⟨_, rfl⟩, .inl ⟨p', hp', hj'⟩⟩
end Go.Proofs.YtnkmcoljijmgpaaGreat
set_option linter.unusedSimpArgs false
set_option linter.unusedVariables false
namespace Go.Proofs.YtnkmcoljijmgpaaGreat
open Go.RowKit Go.Shelf Go.Sort Go.Maps
attribute [local go_sem] Oper.semAt_some wide_fn wide_dep wideR_fn wideR_dep
set_option maxRecDepth 100000 in
set_option maxHeartbeats 4000000 in
theorem res25 (tmps : Array Value) (w : World) (g : Nat) (n : Int) {REL : Array Value} (hR : Is2 REL) (h : tmps.getD 6 undef = .pointer (some ⟨g, 0, none⟩)) (h7 : tmps.getD 7 undef = .int .i64 n) (hB : Blk w g 62 REL) :
    (results Tryz.f25 tmps).run Tryz.prog w = .ok (.tuple #[.agg REL, .int .i64 n]) w := by
  obtain ⟨x0, x1, rfl⟩ := hR
  have c0 := hB.cell 0
  have c1 := hB.cell 1
  clear hB
  have hr : Tryz.f25.results = #[.cell 6 62, .tmp 7] := rfl
  have h' : tmps[6]?.getD undef = .pointer (some ⟨g, 0, none⟩) := by simpa using h
  have h7' : tmps[7]?.getD undef = .int .i64 n := by simpa using h7
  simp only [results, hr]
  go_simp
theorem cases_any (v0 v1 v2 v3 v4 v5 v6 v7 : Value) (w : World) :
    Calls Tryz.prog 60 #[.agg #[v0, v1, v2, v3, v4, v5, v6, v7]] w fun e w' => e = .returned (.func (.func 84) #[] #[.pointer (some ⟨w.heap.size, 0, none⟩)]) ∧ w' = w.alloc (.cells #[v0, v1, v2, v3, v4, v5, v6, v7] 85) := by
  go_enter Tryz.func60, Tryz.ntmps60
  go_wp2
  go_ret
  exact ⟨rfl, rfl⟩
def canLo (f : Fu) (b : Int) (sts : List (List Int)) : Int := sts.foldl (fun a st => min a (wonAt (wonL f st) b)) (wonAt (wonL f []) b)
def canHi (f : Fu) (b : Int) (sts : List (List Int)) : Int := sts.foldl (fun a st => max a (wonAt (wonL f st) b)) (wonAt (wonL f []) b)
theorem has_bd {r : Ra} {p b : Int} (hr : raceB r = true) (h : hasB (runners r p) b = true) : 0 ≤ b ∧ b ≤ 9999 := by
  unfold hasB anyU at h
  obtain ⟨i, hi, he⟩ := List.any_eq_true.1 h
  have hi2 := List.mem_range.1 hi
  rw [List.getD_eq_getElem?_getD, List.getElem?_eq_getElem hi2] at he
  have hm := racers_bd hr _ (runners_sub (List.getElem_mem hi2)).1
  simp at he
  rw [he] at hm
  exact hm
theorem canLo_snoc (f : Fu) (b : Int) (l : List (List Int)) (st : List Int) : canLo f b (l ++ [st]) = min (canLo f b l) (wonAt (wonL f st) b) := by simp [canLo]
theorem canHi_snoc (f : Fu) (b : Int) (l : List (List Int)) (st : List Int) : canHi f b (l ++ [st]) = max (canHi f b l) (wonAt (wonL f st) b) := by simp [canHi]
def CanPost (r : Ra) (p b : Int) (w : World) (e : Ending) (w' : World) : Prop := G w w' ∧ ((qE r p [b] ≠ 0 ∧ e = .returned (.tuple #[.agg #[.int .i64 0, .int .i64 0], .int .i64 (qE r p [b])])) ∨ (qE r p [b] = 0 ∧ e = .returned (.tuple #[.agg #[.int .i64 (canLo (fuOf r p none 0) b (caseL r.protests)), .int .i64 (canHi (fuOf r p none 0) b (caseL r.protests))], .int .i64 0])))
set_option maxRecDepth 100000 in
set_option maxHeartbeats 8000000 in
theorem Can_any (r : Ra) (p b : Int) (w : World) (h : r.At w) : Calls Tryz.prog 25 #[.agg r.v, .int .i64 p, .int .i64 b] w (CanPost r p b w) := by
  have HQ := Lib.hid (fun (W : World) (hW : G w W) (ba : Option Addr) (hb : IntsAt W ba [b]) => question_any r p [b] ba 1 W (h.keep hW) hb (by simp))
  have HE : Hid (qE r p [b] ≠ 0 → ∀ W', G w W' → CanPost r p b w (.returned (.tuple #[.agg #[.int .i64 0, .int .i64 0], .int .i64 (qE r p [b])])) W') := fun a W' b => ⟨b, .inl ⟨a, rfl⟩⟩
  have HS : Hid (qE r p [b] = 0 → ∀ fa fc W', G w W' → CanPost r p b w (.returned (.tuple #[.agg #[.int .i64 (canLo (fuOf r p fa fc) b (caseL r.protests)), .int .i64 (canHi (fuOf r p fa fc) b (caseL r.protests))], .int .i64 0])) W') := fun a fa fc W' b => ⟨b, .inr ⟨a, rfl⟩⟩
  have HC := Lib.hid (fun (hq : qE r p [b] = 0) (W : World) (hW : G w W) (B : Nat) (fa : Option Addr) (fc : Nat) (ho : W.ownsRow B 60 5 (.slice fa (runners r p).length fc) (runners r p).length (rcV (runners r p))) => gf_of (qE_parts hq).1 (qE_parts hq).2 (h.keep hW) ho)
  unfold QPost at HQ
  have hv : ∀ fa fc, (fuOf r p fa fc).v = #[.int .i64 (poolAt r p).stake, .int .i64 (poolAt r p).cut, .int .i64 (poolAt r p).kind, .slice (poolAt r p).ta (poolAt r p).table.length (poolAt r p).tc, .int .i64 (poolAt r p).quota, .bool (poolAt r p).first, .slice fa (runners r p).length fc, .slice r.ta r.protests.length r.tc] := fun _ _ => rfl
  have hNo : ∀ W, ¬ CanPost r p b w .outgrown W := fun W ⟨_, hh⟩ => by rcases hh with ⟨_, e⟩ | ⟨_, e⟩ <;> cases e
  have hprot := h.ts
  have hpl4 : qE r p [b] = 0 → r.protests.length ≤ 4 := fun hq => race_np (qE_parts hq).1
  have hbb : qE r p [b] = 0 → 0 ≤ b ∧ b ≤ 9999 := fun hq => by
    have h1 := qE_parts hq
    unfold qE at hq
    rw [if_pos h1.1, if_pos h1.2] at hq
    by_cases h3 : allU (fun i => hasB (runners r p) (([b] : List Int).getD i 0)) 1 = true
    · have h4 := allU_iff.1 h3 0 (by decide)
      exact has_bd h1.1 h4
    · rw [if_neg (by simpa using h3)] at hq
      cases hq
  generalize CanPost r p b w = PP at *
  clear h
  obtain ⟨W1, hW1⟩ : ∃ W1, W1 = ((w.alloc (.cells #[.slice r.ra r.racers.length r.rc, .slice r.pa r.pools.length r.pc, .slice r.ta r.protests.length r.tc] 26)).alloc (.cells #[.int .i64 b] 3)).alloc (.cells #[.int .i64 0, .int .i64 0] 62) := ⟨_, rfl⟩
  have hs1 : (w.alloc (.cells #[.slice r.ra r.racers.length r.rc, .slice r.pa r.pools.length r.pc, .slice r.ta r.protests.length r.tc] 26)).heap.size = w.heap.size + 1 := Array.size_push ..
  have hs2 : ((w.alloc (.cells #[.slice r.ra r.racers.length r.rc, .slice r.pa r.pools.length r.pc, .slice r.ta r.protests.length r.tc] 26)).alloc (.cells #[.int .i64 b] 3)).heap.size = w.heap.size + 1 + 1 := by rw [World.size_alloc, hs1]
  have g0 : G w W1 := by rw [hW1]; exact (((G.rf _).a _).a _).a _
  have b0 : Blk W1 w.heap.size 26 #[.slice r.ra r.racers.length r.rc, .slice r.pa r.pools.length r.pc, .slice r.ta r.protests.length r.tc] := by rw [hW1]; exact ((Blk.new _ _ _).alloc _).alloc _
  have b1 : Blk W1 (w.heap.size + 1) 3 #[.int .i64 b] := by
    have := Blk.new (w.alloc (.cells #[.slice r.ra r.racers.length r.rc, .slice r.pa r.pools.length r.pc, .slice r.ta r.protests.length r.tc] 26)) 3 #[.int .i64 b]
    rw [hs1] at this
    rw [hW1]
    exact this.alloc _
  have bz : Blk W1 (w.heap.size + 1 + 1) 62 #[.int .i64 0, .int .i64 0] := by
    have := Blk.new ((w.alloc (.cells #[.slice r.ra r.racers.length r.rc, .slice r.pa r.pools.length r.pc, .slice r.ta r.protests.length r.tc] 26)).alloc (.cells #[.int .i64 b] 3)) 62 #[.int .i64 0, .int .i64 0]
    rw [hs2] at this
    rw [hW1]
    exact this
  have hsz1 : W1.heap.size = w.heap.size + 1 + 1 + 1 := by rw [hW1, World.size_alloc, hs2]
  clear hs1 hs2
  have hrv : r.v = #[.slice r.ra r.racers.length r.rc, .slice r.pa r.pools.length r.pc, .slice r.ta r.protests.length r.tc] := rfl
  rw [hrv] at HQ ⊢
  clear hrv
  generalize hQE : qE r p [b] = QE at *
  refine (callsIn_wide (n := 4)).1 ?_
  refine callsIn_of_wp_marks Tryz.func25 rfl trivial ?_ rfl
  simp only [Tryz.ntmps25, List.size_toArray, List.length_cons, List.length_nil, Nat.reduceAdd, Nat.reduceSub, Array.replicate_succ, Array.replicate_zero, List.push_toArray, List.append_toArray, List.nil_append, List.cons_append]
  have m0 := b0.cell 0
  have m1 := b0.cell 1
  have m2 := b0.cell 2
  have l0 := b0.lt
  have n0 := b1.cell 0
  have ln := b1.lt
  have gA : G W1 (W1.alloc (.cells #[.int .i64 b] 3)) := (G.rf W1).a _
  have bA := Blk.new W1 3 #[.int .i64 b]
  rw [hsz1] at bA
  have hiA : IntsAt (W1.alloc (.cells #[.int .i64 b] 3)) (some ⟨w.heap.size + 1 + 1 + 1, 0, none⟩) [b] := .inr ⟨_, 0, rfl, bA.lt, fun k hk => by
    obtain rfl : k = 0 := by simpa using hk
    exact bA.cell 0⟩
  by_cases hq : QE = 0
  · have HQ1 : Hid (∀ W, G W1 W → ∀ ba, IntsAt W ba [b] → Calls Tryz.prog 46 #[.agg #[.slice r.ra r.racers.length r.rc, .slice r.pa r.pools.length r.pc, .slice r.ta r.protests.length r.tc], .int .i64 p, .slice ba 1 1] W fun e w' => ∃ fa fc, e = .returned (.tuple #[.agg (fuOf r p fa fc).v, .int .i64 0]) ∧ w'.ownsRow W.heap.size 60 5 (.slice fa (runners r p).length fc) (runners r p).length (rcV (runners r p)) ∧ G W w') := fun W hW ba hba => by
      refine (HQ.out W (g0.t hW) ba hba).mono ?_
      rintro e w' ⟨hG, hh⟩
      rcases hh with ⟨a, _⟩ | ⟨_, fa, fc, a, b⟩
      · exact absurd hq a
      · exact ⟨fa, fc, a, b, hG⟩
    simp only [hv] at HQ1
    have HQ3 := Lib.hid (HQ1.out _ gA _ hiA)
    clear HQ HE HQ1 hiA bA
    have HPL := Lib.hid (hpl4 hq)
    have hb0 := hbb hq
    clear hpl4 hbb
    rw [hW1] at m0 m1 m2 l0 n0 ln
    gi_wp2_with (gi_at_call 46; rw [← hW1]; refine (callsIn_wide.2 HQ3.out).mono ?_; rintro e w2 ⟨fa, fc, rfl, ho2, hG2⟩; clear m0 m1 m2 l0 n0 ln HQ3)
    have ga := (G.rf w2).a (.cells #[.int .i64 (poolAt r p).stake, .int .i64 (poolAt r p).cut, .int .i64 (poolAt r p).kind, .slice (poolAt r p).ta (poolAt r p).table.length (poolAt r p).tc, .int .i64 (poolAt r p).quota, .bool (poolAt r p).first, .slice fa (runners r p).length fc, .slice r.ta r.protests.length r.tc] 85)
    have bK : Blk (w2.alloc (.cells #[.int .i64 (poolAt r p).stake, .int .i64 (poolAt r p).cut, .int .i64 (poolAt r p).kind, .slice (poolAt r p).ta (poolAt r p).table.length (poolAt r p).tc, .int .i64 (poolAt r p).quota, .bool (poolAt r p).first, .slice fa (runners r p).length fc, .slice r.ta r.protests.length r.tc] 85)) w2.heap.size 85 #[.int .i64 (poolAt r p).stake, .int .i64 (poolAt r p).cut, .int .i64 (poolAt r p).kind, .slice (poolAt r p).ta (poolAt r p).table.length (poolAt r p).tc, .int .i64 (poolAt r p).quota, .bool (poolAt r p).first, .slice fa (runners r p).length fc, .slice r.ta r.protests.length r.tc] := Blk.new _ _ _
    have g3 := ((g0.t gA).t hG2).t ga
    have hgf := HC.out hq _ g3 _ fa fc (own_G ho2 ga)
    have bz3 := ((bz.keep gA).keep hG2).keep ga
    have b13 := ((b1.keep gA).keep hG2).keep ga
    have hKz : w.heap.size + 1 + 1 < w2.heap.size := ((bz.keep gA).keep hG2).lt
    clear ho2 ga HC hG2 bz b1 b0 gA hW1 hsz1
    obtain ⟨K, hK⟩ : ∃ K, K = w2.heap.size := ⟨_, rfl⟩
    rw [← hK] at bK hKz ⊢
    clear hK
    generalize w2.alloc (.cells #[.int .i64 (poolAt r p).stake, .int .i64 (poolAt r p).cut, .int .i64 (poolAt r p).kind, .slice (poolAt r p).ta (poolAt r p).table.length (poolAt r p).tc, .int .i64 (poolAt r p).quota, .bool (poolAt r p).first, .slice fa (runners r p).length fc, .slice r.ta r.protests.length r.tc] 85) = w3 at *
    have HS2 := Lib.hid (HS.out hq fa fc)
    have HWo := Lib.hid (fun (W : World) (hW : G w3 W) (st : List Int) (sa : Option Addr) (sc : Nat) (hi : IntsAt W sa st) (hl : st.length ≤ 1000) => (hgf.keep hW).won st sa sc hi hl)
    obtain ⟨fu, hfu⟩ : ∃ fu, fu = fuOf r p fa fc := ⟨_, rfl⟩
    have hfv : fu.v = #[.int .i64 (poolAt r p).stake, .int .i64 (poolAt r p).cut, .int .i64 (poolAt r p).kind, .slice (poolAt r p).ta (poolAt r p).table.length (poolAt r p).tc, .int .i64 (poolAt r p).quota, .bool (poolAt r p).first, .slice fa (runners r p).length fc, .slice r.ta r.protests.length r.tc] := by rw [hfu]; exact hv fa fc
    have hfp : fu.pa = r.ta := by rw [hfu]; rfl
    have hfs : fu.ps = r.protests := by rw [hfu]; rfl
    rw [← hfu] at HS2 HWo hgf
    rw [hfv] at HWo
    clear hv HS hfu
    have hSk : ∀ W', G w3 W' → Blk W' K 85 #[.int .i64 (poolAt r p).stake, .int .i64 (poolAt r p).cut, .int .i64 (poolAt r p).kind, .slice (poolAt r p).ta (poolAt r p).table.length (poolAt r p).tc, .int .i64 (poolAt r p).quota, .bool (poolAt r p).first, .slice fa (runners r p).length fc, .slice r.ta r.protests.length r.tc] ∧ Blk W' (w.heap.size + 1) 3 #[.int .i64 b] := fun W' hW => ⟨bK.keep hW, b13.keep hW⟩
    refine wpIn_region_Y (l := none) (S := fun W' => Blk W' K 85 #[.int .i64 (poolAt r p).stake, .int .i64 (poolAt r p).cut, .int .i64 (poolAt r p).kind, .slice (poolAt r p).ta (poolAt r p).table.length (poolAt r p).tc, .int .i64 (poolAt r p).quota, .bool (poolAt r p).first, .slice fa (runners r p).length fc, .slice r.ta r.protests.length r.tc] ∧ Blk W' (w.heap.size + 1) 3 #[.int .i64 b]) 4 5 rfl (by kernel_rfl) (fun ⟨_, _, h⟩ => hNo _ h) (by kernel_rfl) (hSk _ (G.rf _).d) (fun hS => ?_)
    have ga := (G.rf w3).d
    refine wpAnyY_take (i := 0) (v := ?_) rfl (by kernel_rfl) (by kernel_rfl) (by kernel_rfl) (by kernel_rfl) (fun _ _ _ h => h) (Or.inl ⟨by kernel_rfl, ?_⟩) hS ?_
    rotate_left
    · intro w' hSw; have m0 := hSw.1.cell 0; have m1 := hSw.1.cell 1; have m2 := hSw.1.cell 2; have m3 := hSw.1.cell 3; have m4 := hSw.1.cell 4; have m5 := hSw.1.cell 5; have m6 := hSw.1.cell 6; have m7 := hSw.1.cell 7; have l0 := hSw.1.lt; go_simp; with_reducible rfl
    try simp only [Act.put, List.getElem_toArray, List.getElem_cons_zero, List.getElem_cons_succ, List.setIfInBounds_toArray, List.set_cons_zero, List.set_cons_succ]
    refine wpAnyY_take (i := 2) (v := ?_) rfl (by kernel_rfl) (by kernel_rfl) (by kernel_rfl) (by kernel_rfl) (fun _ _ _ h => h) (Or.inl ⟨by kernel_rfl, ?_⟩) hS ?_
    rotate_left
    · intro w' hSw; have n0 := hSw.2.cell 0; have ln := hSw.2.lt; go_simp; with_reducible rfl
    try simp only [Act.put, List.getElem_toArray, List.getElem_cons_zero, List.getElem_cons_succ, List.setIfInBounds_toArray, List.set_cons_zero, List.set_cons_succ]
    refine wpAnyY_oneSW (i := 1) (by kernel_rfl) rfl (by kernel_rfl) (fun K1 hK1 => ?_)
    go_simp
    refine (HWo.out _ ga [] none 0 (.inl rfl) (by simp)).mono ?_
    rintro e w4 ⟨m, rfl, hwon, hml, hG4⟩
    replace ga := ga.t hG4
    refine hK1.out _ _ (hSk _ ga) (fun hS => ?_)
    clear hK1
    try simp only [Act.put, List.getElem_toArray, List.getElem_cons_zero, List.getElem_cons_succ, List.setIfInBounds_toArray, List.set_cons_zero, List.set_cons_succ]
    have hlk := hwon.at (x := b) (by omega) (by go_simp)
    refine wpAnyY_oneSW (i := 3) (by kernel_rfl) rfl (by kernel_rfl) (fun K3 hK3 => ?_)
    go_simp
    refine hK3.out _ _ hS (fun hS => ?_)
    clear hK3 hlk
    try simp only [Act.put, List.getElem_toArray, List.getElem_cons_zero, List.getElem_cons_succ, List.setIfInBounds_toArray, List.set_cons_zero, List.set_cons_succ]
    refine wpAnyY_oneW (i := 4) (by kernel_rfl) rfl (by kernel_rfl) (by kernel_rfl) (fun K4 hK4 => ?_)
    go_simp
    refine hK4.out _ _ ?_
    clear hK4
    try simp only [Act.put, List.getElem_toArray, List.getElem_cons_zero, List.getElem_cons_succ, List.setIfInBounds_toArray, List.set_cons_zero, List.set_cons_succ]
    refine wpAnyY_done (by kernel_rfl) ?_ _
    have bK4 := hS.1
    have bb4 := hS.2
    clear hS hSk hwon hml
    have m0 := bK4.cell 0
    have m1 := bK4.cell 1
    have m2 := bK4.cell 2
    have m3 := bK4.cell 3
    have m4 := bK4.cell 4
    have m5 := bK4.cell 5
    have m6 := bK4.cell 6
    have m7 := bK4.cell 7
    have l0 := bK4.lt
    gi_wp2_with (gi_at_call 60; refine (callsIn_wide.2 (cases_any _ _ _ _ _ _ _ _ _)).mono ?_; rintro e w5 ⟨rfl, rfl⟩)
    clear m0 m1 m2 m3 m4 m5 m6 m7 l0
    obtain ⟨v0, hv0⟩ : ∃ v0, v0 = wonAt (wonL fu []) b := ⟨_, rfl⟩
    rw [← hv0]
    obtain ⟨Wb, hWb⟩ : ∃ Wb, Wb = (w4.alloc (.cells #[.int .i64 v0, .int .i64 v0] 62)).alloc (.cells #[.int .i64 (poolAt r p).stake, .int .i64 (poolAt r p).cut, .int .i64 (poolAt r p).kind, .slice (poolAt r p).ta (poolAt r p).table.length (poolAt r p).tc, .int .i64 (poolAt r p).quota, .bool (poolAt r p).first, .slice fa (runners r p).length fc, .slice r.ta r.protests.length r.tc] 85) := ⟨_, rfl⟩
    have hs5 : (w4.alloc (.cells #[.int .i64 v0, .int .i64 v0] 62)).heap.size = w4.heap.size + 1 := Array.size_push ..
    have g4b : G w4 Wb := by rw [hWb]; exact ((G.rf _).a _).a _
    have bS : Blk Wb w4.heap.size 62 #[.int .i64 v0, .int .i64 v0] := by rw [hWb]; exact (Blk.new _ _ _).alloc _
    have bKB : Blk Wb (w4.heap.size + 1) 85 #[.int .i64 (poolAt r p).stake, .int .i64 (poolAt r p).cut, .int .i64 (poolAt r p).kind, .slice (poolAt r p).ta (poolAt r p).table.length (poolAt r p).tc, .int .i64 (poolAt r p).quota, .bool (poolAt r p).first, .slice fa (runners r p).length fc, .slice r.ta r.protests.length r.tc] := by
      have := Blk.new (w4.alloc (.cells #[.int .i64 v0, .int .i64 v0] 62)) 85 #[.int .i64 (poolAt r p).stake, .int .i64 (poolAt r p).cut, .int .i64 (poolAt r p).kind, .slice (poolAt r p).ta (poolAt r p).table.length (poolAt r p).tc, .int .i64 (poolAt r p).quota, .bool (poolAt r p).first, .slice fa (runners r p).length fc, .slice r.ta r.protests.length r.tc]
      rw [hs5] at this
      rw [hWb]
      exact this
    rw [← hWb]
    clear hWb hs5
    have bKW := bK4.keep g4b
    have bbW := bb4.keep g4b
    have g3b := ga.t g4b
    have gwb := g3.t g3b
    have bzW := bz3.keep g3b
    have hKlt : K < w4.heap.size := bK4.lt
    obtain ⟨A, hA⟩ : ∃ A, A = w4.heap.size := ⟨_, rfl⟩
    rw [← hA] at bS bKB hKlt ⊢
    have hwA : w.heap.size + 1 + 1 < A := by omega
    have hAb : A < Wb.heap.size := bS.lt
    have hA3 : w3.heap.size ≤ A := by rw [hA]; exact ga.size
    clear hA bK4 bb4 g4b ga bK b13 bz3
    have hseq := cases_seq 3 (by omega) (A + 1) (fun i => i = A) fu Wb (by rw [hfv]; exact bKB) (by rw [hfp, hfs]; exact hprot.below gwb) (by rw [hfs]; exact HPL.out) (by omega) (by
      rw [hfs, hfp]
      rcases hprot with h | ⟨b', o', h1, h2, _⟩
      · exact .inl h
      · refine .inr fun b2 o2 e2 => ?_
        rw [h1] at e2
        have e3 : b' = b2 := by injection e2 with e2; injection e2
        have := gwb.size
        omega)
    rw [hfs] at hseq
    have hlo0 : canLo fu b [] = v0 := by rw [hv0]; rfl
    have hhi0 : canHi fu b [] = v0 := by rw [hv0]; rfl
    have HSN := Lib.hid (fun (l : List (List Int)) (st : List Int) => (⟨canLo_snoc fu b l st, canHi_snoc fu b l st⟩ : _ ∧ _))
    obtain ⟨LO, hLO⟩ : ∃ LO : List (List Int) → Int, LO = canLo fu b := ⟨_, rfl⟩
    obtain ⟨HI, hHI⟩ : ∃ HI : List (List Int) → Int, HI = canHi fu b := ⟨_, rfl⟩
    rw [← hLO, ← hHI] at HSN HS2
    rw [← hLO] at hlo0
    rw [← hHI] at hhi0
    clear hLO hHI hv0 hprot hfp hfs hfv hgf HPL
    refine rangeFunc_Y (F := Fence.wide) (α := Yd) (T := (· = 3)) (gf := 84) (lb := #[.pointer (some ⟨A + 1, 0, none⟩)]) rfl (by omega) rfl trivial (enters_of Tryz.func84 (by kernel_rfl) rfl) (ev := Yd.v) (Y := YdAt) (Kp := KP Wb.heap.size (fun i => i = A)) hseq (G.rf _) (fun h k => KP.t h k) (fun W l o o' hl _ _ => KP.put _ _ W l o o' hl) (fun x W l o o' h1 h2 h3 => YdAt.put x W l o o' h1 h2 h3)
      (fun pre W => Blk W A 62 #[.int .i64 (LO (pre.map Yd.st)), .int .i64 (HI (pre.map Yd.st))] ∧ Fr (fun i => i = A) Wb W) (fun _ _ _ => False) ?hI (fun _ _ _ _ _ h _ _ => h) ?hIT (fun _ _ _ _ _ _ h _ => h) ?h0 12 ?assign ?body ?done ?stop
    case hI =>
      rintro st X Y row ⟨h1, h2⟩ hg hr
      exact ⟨h1.grown hg (fun e => by have := (hr A e.symm).1; omega), h2.grown hg (fun g e => .inr (hr g e).1)⟩
    case hIT =>
      rintro B hB st X Y ⟨h1, h2⟩ hk
      exact ⟨hk.blk h1 (.inl (by omega)), h2.kt hk hB⟩
    case h0 => exact ⟨by rw [List.map_nil, hlo0, hhi0]; exact bS, Fr.rf _ _⟩
    case assign =>
      intro l x W KK hK
      unfold Yd.v at hK ⊢
      gi_wp2
      exact hK
    case stop =>
      rintro D c pre W _ _ h _
      exact h.elim
    case body =>
      rintro l pre x W ⟨h1, h2⟩ hyx hN
      have bK1 := h2.blk bKW (by omega)
      have bb1 := h2.blk bbW (by omega)
      have gW : G w3 W := ((G.fr (R := fun _ => False) g3b).t2 h2 (fun i hi e => by omega)).toG (fun _ _ h => h)
      have HSN2 := Lib.hid (HSN.out (pre.map Yd.st) x.st)
      unfold Yd.v
      obtain ⟨xa, xc, xst⟩ := x
      have hyi : IntsAt W xa xst := hyx.1
      have hx4 : xst.length ≤ 4 := hyx.2
      clear hyx
      dsimp only at *
      clear hseq HS2 bKB bKW bbW bS
      have hSk : ∀ W', G W W' → Blk W' K 85 #[.int .i64 (poolAt r p).stake, .int .i64 (poolAt r p).cut, .int .i64 (poolAt r p).kind, .slice (poolAt r p).ta (poolAt r p).table.length (poolAt r p).tc, .int .i64 (poolAt r p).quota, .bool (poolAt r p).first, .slice fa (runners r p).length fc, .slice r.ta r.protests.length r.tc] ∧ Blk W' (w.heap.size + 1) 3 #[.int .i64 b] := fun W' hW => ⟨bK1.keep hW, bb1.keep hW⟩
      gi_wp2_with fail
      refine wpIn_region_Y (l := some l) (S := fun W' => Blk W' K 85 #[.int .i64 (poolAt r p).stake, .int .i64 (poolAt r p).cut, .int .i64 (poolAt r p).kind, .slice (poolAt r p).ta (poolAt r p).table.length (poolAt r p).tc, .int .i64 (poolAt r p).quota, .bool (poolAt r p).first, .slice fa (runners r p).length fc, .slice r.ta r.protests.length r.tc] ∧ Blk W' (w.heap.size + 1) 3 #[.int .i64 b]) 5 6 rfl (by kernel_rfl) (fun ⟨_, _, h⟩ => h) (by kernel_rfl) (hSk _ (G.rf _).d) (fun hS => ?_)
      have ga := (G.rf W).d
      refine wpAnyY_take (i := 0) (v := ?_) rfl (by kernel_rfl) (by kernel_rfl) (by kernel_rfl) (by kernel_rfl) (fun _ _ _ h => h) (Or.inl ⟨by kernel_rfl, ?_⟩) hS ?_
      rotate_left
      · intro w' hSw; have m0 := hSw.1.cell 0; have m1 := hSw.1.cell 1; have m2 := hSw.1.cell 2; have m3 := hSw.1.cell 3; have m4 := hSw.1.cell 4; have m5 := hSw.1.cell 5; have m6 := hSw.1.cell 6; have m7 := hSw.1.cell 7; have l0 := hSw.1.lt; go_simp; with_reducible rfl
      try simp only [Act.put, List.getElem_toArray, List.getElem_cons_zero, List.getElem_cons_succ, List.setIfInBounds_toArray, List.set_cons_zero, List.set_cons_succ]
      refine wpAnyY_take (i := 1) (v := ?_) rfl (by kernel_rfl) (by kernel_rfl) (by kernel_rfl) (by kernel_rfl) (fun _ _ _ h => h) (Or.inl ⟨by kernel_rfl, ?_⟩) hS ?_
      rotate_left
      · intro w' hSw; go_simp; with_reducible rfl
      try simp only [Act.put, List.getElem_toArray, List.getElem_cons_zero, List.getElem_cons_succ, List.setIfInBounds_toArray, List.set_cons_zero, List.set_cons_succ]
      refine wpAnyY_take (i := 3) (v := ?_) rfl (by kernel_rfl) (by kernel_rfl) (by kernel_rfl) (by kernel_rfl) (fun _ _ _ h => h) (Or.inl ⟨by kernel_rfl, ?_⟩) hS ?_
      rotate_left
      · intro w' hSw; have n0 := hSw.2.cell 0; have ln := hSw.2.lt; go_simp; with_reducible rfl
      try simp only [Act.put, List.getElem_toArray, List.getElem_cons_zero, List.getElem_cons_succ, List.setIfInBounds_toArray, List.set_cons_zero, List.set_cons_succ]
      refine wpAnyY_oneSW (i := 2) (by kernel_rfl) rfl (by kernel_rfl) (fun K2 hK2 => ?_)
      go_simp
      refine (HWo.out _ (gW.t ga) xst xa xc (hyi.below ga) (by omega)).mono ?_
      rintro e w7 ⟨m7, rfl, hwon, hml, hG7⟩
      replace ga := ga.t hG7
      refine hK2.out _ _ (hSk _ ga) (fun hS => ?_)
      clear hK2
      try simp only [Act.put, List.getElem_toArray, List.getElem_cons_zero, List.getElem_cons_succ, List.setIfInBounds_toArray, List.set_cons_zero, List.set_cons_succ]
      have hlk := hwon.at (x := b) (by omega) (by go_simp)
      refine wpAnyY_oneSW (i := 4) (by kernel_rfl) rfl (by kernel_rfl) (fun K4 hK4 => ?_)
      go_simp
      refine hK4.out _ _ hS (fun hS => ?_)
      clear hK4 hlk
      try simp only [Act.put, List.getElem_toArray, List.getElem_cons_zero, List.getElem_cons_succ, List.setIfInBounds_toArray, List.set_cons_zero, List.set_cons_succ]
      refine wpAnyY_oneW (i := 5) (by kernel_rfl) rfl (by kernel_rfl) (by kernel_rfl) (fun K5 hK5 => ?_)
      go_simp
      refine hK5.out _ _ ?_
      clear hK5
      try simp only [Act.put, List.getElem_toArray, List.getElem_cons_zero, List.getElem_cons_succ, List.setIfInBounds_toArray, List.set_cons_zero, List.set_cons_succ]
      refine wpAnyY_done (by kernel_rfl) ?_ _
      clear hS hSk hwon hml
      have b7 := h1.keep ga
      obtain ⟨lo, hlo⟩ : ∃ lo, lo = LO (pre.map Yd.st) := ⟨_, rfl⟩
      obtain ⟨hi, hhi⟩ : ∃ hi, hi = HI (pre.map Yd.st) := ⟨_, rfl⟩
      obtain ⟨wv, hwv⟩ : ∃ wv, wv = wonAt (wonL fu xst) b := ⟨_, rfl⟩
      rw [← hlo, ← hhi] at b7 h1 HSN2
      rw [← hwv] at HSN2 ⊢
      have c0 := b7.cell 0
      have c1 := b7.cell 1
      have z0 := b7.frozen 0
      have z1 := b7.frozen 1
      have lA := b7.lt
      clear hlo hhi hwv
      gi_wp2_with fail
      have frE : Fr (fun i => i = A) W ((w7.setCell ⟨A, 0, none⟩ (.int .i64 (min lo wv))).setCell ⟨A, 1, none⟩ (.int .i64 (max hi wv))) := ((G.fr (R := fun i => i = A) ga).s (p := ⟨A, 0, none⟩) (.inl rfl) _).s (p := ⟨A, 1, none⟩) (.inl rfl) _
      have bE := (b7.set_ 0 (.int .i64 (min lo wv))).set_ 1 (.int .i64 (max hi wv))
      simp only [List.setIfInBounds_toArray, List.set_cons_zero, List.set_cons_succ] at bE
      refine ⟨frE.keeps (fun i e _ => ?_) _, frE.kp _ h2.size, ?_, h2.t frE⟩
      · subst e
        exact ⟨_, _, _, h1⟩
      · rw [List.map_append, List.map_cons, List.map_nil, HSN2.out.1, HSN2.out.2]
        exact bE
    case done =>
      rintro D xs W hD hS ⟨h1, h2⟩ hDef
      rw [hS] at h1
      have bzD := h2.blk bzW (by omega)
      have HF := Lib.hid (fun W' hG' => HS2.out W' hG')
      have gwD : G w W := ((G.fr (R := fun _ => False) gwb).t2 h2 (fun i hi e => by omega)).toG (fun _ _ h => h)
      obtain ⟨lo, hlo⟩ : ∃ lo, lo = LO (caseL r.protests) := ⟨_, rfl⟩
      obtain ⟨hi, hhi⟩ : ∃ hi, hi = HI (caseL r.protests) := ⟨_, rfl⟩
      rw [← hlo, ← hhi] at h1 HF
      have c0 := h1.cell 0
      have c1 := h1.cell 1
      have lA := h1.lt
      have d0 := bzD.cell 0
      have d1 := bzD.cell 1
      have z0 := bzD.frozen 0
      have z1 := bzD.frozen 1
      have lz := bzD.lt
      clear hlo hhi hseq HWo HSN HS2
      gi_wp2_with fail
      have hDef2 : ((W.setCell ⟨w.heap.size + 1 + 1, 0, none⟩ (.int .i64 lo)).setCell ⟨w.heap.size + 1 + 1, 1, none⟩ (.int .i64 hi)).heap[D]? = some (.deferred (some [])) := by
        rw [Below.heap_setCell _ _ _ D (by show D ≠ w.heap.size + 1 + 1; omega), Below.heap_setCell _ _ _ D (by show D ≠ w.heap.size + 1 + 1; omega)]
        exact hDef
      refine ⟨by simp, .inl ⟨_, _, rfl, run_takeDeferred hDef2, ?_⟩⟩
      have bE := (bzD.set_ 0 (.int .i64 lo)).set_ 1 (.int .i64 hi)
      simp only [List.setIfInBounds_toArray, List.set_cons_zero, List.set_cons_succ] at bE
      have gE : G w ((W.setCell ⟨w.heap.size + 1 + 1, 0, none⟩ (.int .i64 lo)).setCell ⟨w.heap.size + 1 + 1, 1, none⟩ (.int .i64 hi)) := (gwD.s (p := ⟨w.heap.size + 1 + 1, 0, none⟩) (show w.heap.size ≤ w.heap.size + 1 + 1 by omega) _).s (p := ⟨w.heap.size + 1 + 1, 1, none⟩) (show w.heap.size ≤ w.heap.size + 1 + 1 by omega) _
      generalize (W.setCell ⟨w.heap.size + 1 + 1, 0, none⟩ (.int .i64 lo)).setCell ⟨w.heap.size + 1 + 1, 1, none⟩ (.int .i64 hi) = WE at *
      have hf : Fr (fun i => i = D) WE (WE.putObj D (.deferred none)) := ⟨rfl, rfl, rfl, by simp [World.putObj], fun i _ hn => World.putObj_heap_other hn⟩
      have bE2 := hf.blk bE (show ¬ w.heap.size + 1 + 1 = D by omega)
      have gE2 : G w (WE.putObj D (.deferred none)) := ((G.fr (R := fun _ => False) gE).t2 hf (fun i hi e => by have := gwb.size; omega)).toG (fun _ _ h => h)
      refine ⟨_, res25 _ _ (w.heap.size + 1 + 1) 0 (REL := #[.int .i64 lo, .int .i64 hi]) ⟨_, _, rfl⟩ rfl rfl bE2, ?_⟩
      exact HF.out _ gE2
  · have HQ0 : Hid (∀ W, G W1 W → ∀ ba, IntsAt W ba [b] → Calls Tryz.prog 46 #[.agg #[.slice r.ra r.racers.length r.rc, .slice r.pa r.pools.length r.pc, .slice r.ta r.protests.length r.tc], .int .i64 p, .slice ba 1 1] W fun e w' => e = .returned (.tuple #[.agg #[.int .i64 0, .int .i64 0, .int .i64 0, .slice none 0 0, .int .i64 0, .bool false, .slice none 0 0, .slice none 0 0], .int .i64 QE]) ∧ G W w') := fun W hW ba hba => by
      refine (HQ.out W (g0.t hW) ba hba).mono ?_
      rintro e w' ⟨hG, hh⟩
      rcases hh with ⟨_, a⟩ | ⟨a, _⟩
      · exact ⟨a, hG⟩
      · exact absurd a hq
    have e0 : (QE == 0) = false := by simpa using hq
    have HE2 := Lib.hid (HE.out hq)
    clear HQ HE HC HS hv
    have HQ3 := Lib.hid (HQ0.out _ gA _ hiA)
    clear HQ0 hiA bA
    rw [hW1] at m0 m1 m2 l0 n0 ln
    gi_wp2_with (gi_at_call 46; rw [← hW1]; refine (callsIn_wide.2 HQ3.out).mono ?_; rintro e w2 ⟨rfl, hG2⟩; have b2 := (bz.keep gA).keep hG2; have c0 := b2.cell 0; have c1 := b2.cell 1; have z0 := b2.frozen 0; have z1 := b2.frozen 1; have lz := b2.lt; clear m0 m1 m2 l0 n0 ln HQ3)
    have bE : Blk (((w2.setCell ⟨w.heap.size + 1 + 1, 0, none⟩ (.int .i64 0)).setCell ⟨w.heap.size + 1 + 1, 1, none⟩ (.int .i64 0)).alloc (.cells #[.int .i64 0, .int .i64 0, .int .i64 0, .slice none 0 0, .int .i64 0, .bool false, .slice none 0 0, .slice none 0 0] 85)) (w.heap.size + 1 + 1) 62 #[.int .i64 0, .int .i64 0] := by
      have b := ((b2.set_ 0 (.int .i64 0)).set_ 1 (.int .i64 0)).alloc (.cells #[.int .i64 0, .int .i64 0, .int .i64 0, .slice none 0 0, .int .i64 0, .bool false, .slice none 0 0, .slice none 0 0] 85)
      simp only [List.setIfInBounds_toArray, List.set_cons_zero, List.set_cons_succ] at b
      exact b
    refine ⟨_, res25 _ _ (w.heap.size + 1 + 1) QE (REL := #[.int .i64 0, .int .i64 0]) ⟨_, _, rfl⟩ rfl rfl bE, ?_⟩
    exact HE2.out _ (((((g0.t gA).t hG2).s (p := ⟨w.heap.size + 1 + 1, 0, none⟩) (show w.heap.size ≤ w.heap.size + 1 + 1 by omega) _).s (p := ⟨w.heap.size + 1 + 1, 1, none⟩) (show w.heap.size ≤ w.heap.size + 1 + 1 by omega) _).a _)
end Go.Proofs.YtnkmcoljijmgpaaGreat
