import Derived.Test.YtpjfdfddcnocpaaOp
set_option linter.unusedSimpArgs false
set_option linter.unusedVariables false
namespace Go.Proofs.Ytpjfdfddcnocpaa
open Go.RowKit

/-- the ways with one more loft, of whose spots l are counted -/
def pw (sp : Int) (l : List Nat) (f : Nat → Nat) (t : Nat) : Nat := if (t : Int) ≤ sp then (l.map fun m => if m ≤ t then f (t - m) else 0).sum else 0
def ways (sp : Int) (rows : Nat → List Sp) : Nat → Nat → Nat
  | 0 => fun t => if t = 0 then 1 else 0
  | k + 1 => pw sp ((rows k).map Sp.more) (ways sp rows k)
def manyN (sp : Int) (rows : Nat → List Sp) (k : Nat) : Nat := ways sp rows k 0 + ways sp rows k 1 + ways sp rows k 2 + ways sp rows k 3
def wc (f : Nat → Nat) : Array Value := #[.int .i64 (f 0), .int .i64 (f 1), .int .i64 (f 2), .int .i64 (f 3)]
theorem wc_get (f : Nat → Nat) {t : Nat} (h : t < 4) : (wc f)[t]? = some (.int .i64 (f t)) := by
  match t, h with
  | 0, _ => rfl
  | 1, _ => rfl
  | 2, _ => rfl
  | 3, _ => rfl
theorem wc_set (f : Nat → Nat) {t : Nat} (h : t < 4) (v : Nat) : (wc f).setIfInBounds t (.int .i64 v) = wc (upd f t v) := by
  match t, h with
  | 0, _ => rfl
  | 1, _ => rfl
  | 2, _ => rfl
  | 3, _ => rfl
theorem sum_le_mul (f : Nat → Nat) (B : Nat) (t : Nat) (hf : ∀ t, f t ≤ B) : ∀ (l : List Nat), (l.map fun m => if m ≤ t then f (t - m) else 0).sum ≤ l.length * B
  | [] => by simp
  | m :: l => by
    have h1 := sum_le_mul f B t hf l
    have h2 : (if m ≤ t then f (t - m) else 0) ≤ B := by split <;> simp [hf]
    simp only [List.map_cons, List.sum_cons, List.length_cons, Nat.add_mul, Nat.one_mul]
    omega
theorem pw_nil (sp : Int) (f : Nat → Nat) : pw sp [] f = fun _ => 0 := by
  funext t; unfold pw; split <;> rfl
theorem pw_le (sp : Int) (f : Nat → Nat) (B : Nat) (hf : ∀ t, f t ≤ B) (l : List Nat) (t : Nat) : pw sp l f t ≤ l.length * B := by
  unfold pw
  split
  · exact sum_le_mul f B t hf l
  · exact Nat.zero_le _
theorem ways_le (sp : Int) (rows : Nat → List Sp) : ∀ (k : Nat), (∀ j, j < k → (rows j).length ≤ 100) → ∀ t, ways sp rows k t ≤ 100 ^ k
  | 0, _, t => by unfold ways; split <;> simp
  | k + 1, h, t => by
    have h1 := ways_le sp rows k (fun j hj => h j (by omega))
    have h2 := pw_le sp (ways sp rows k) (100 ^ k) h1 ((rows k).map Sp.more) t
    have h3 := h k (by omega)
    simp only [List.length_map] at h2
    have h4 : (rows k).length * 100 ^ k ≤ 100 * 100 ^ k := Nat.mul_le_mul_right _ h3
    unfold ways
    rw [Nat.pow_succ]
    omega
/-- .. and of the spot m the ways to numbers below t -/
def pp (g f : Nat → Nat) (m t : Nat) (t' : Nat) : Nat := g t' + if m ≤ t' ∧ t' < t then f (t' - m) else 0
theorem pp_start (g f : Nat → Nat) (m : Nat) : pp g f m m = g := by
  funext t'; unfold pp; rw [if_neg (by omega)]; rfl
theorem pp_step (g f : Nat → Nat) (m t : Nat) (h : m ≤ t) : upd (pp g f m t) t (pp g f m t t + f (t - m)) = pp g f m (t + 1) := by
  funext t'
  unfold upd pp
  by_cases e : t' = t
  · subst e
    rw [if_pos rfl, if_neg (by omega), if_pos (by omega)]; omega
  · rw [if_neg e]
    by_cases h2 : m ≤ t' ∧ t' < t
    · rw [if_pos h2, if_pos (by omega)]
    · rw [if_neg h2, if_neg (by omega)]
theorem pp_end (sp : Int) (f : Nat → Nat) (l : List Nat) (m t : Nat) (h1 : m ≤ t) (h2 : t = m ∨ (t : Int) ≤ sp + 1) (h3 : ¬ (t : Int) ≤ sp) : pp (pw sp l f) f m t = pw sp (l ++ [m]) f := by
  funext t'
  unfold pp pw
  by_cases h4 : (t' : Int) ≤ sp
  · rw [if_pos h4, if_pos h4]
    simp only [List.map_append, List.sum_append, List.map_cons, List.map_nil, List.sum_cons, List.sum_nil]
    by_cases h5 : m ≤ t'
    · rw [if_pos ⟨h5, by omega⟩, if_pos h5]; omega
    · rw [if_neg (by omega), if_neg h5]; omega
  · rw [if_neg h4, if_neg h4, if_neg (by omega)]
theorem pp_le (g f : Nat → Nat) (m t B C : Nat) (hg : ∀ t, g t ≤ C) (hf : ∀ t, f t ≤ B) (t' : Nat) : pp g f m t t' ≤ C + B := by
  unfold pp
  have := hg t'
  split
  · have := hf (t' - m); omega
  · omega

def tot (f : Nat → Nat) : Nat → Nat
  | 0 => 0
  | j + 1 => tot f j + f j
theorem tot_le (f : Nat → Nat) (B : Nat) (hf : ∀ t, f t ≤ B) : ∀ j, tot f j ≤ j * B
  | 0 => Nat.zero_le _
  | j + 1 => by
    have h1 := tot_le f B hf j
    have h2 := hf j
    rw [Nat.add_mul, Nat.one_mul]
    unfold tot
    omega
theorem idx121 (f : Nat → Nat) (j : Nat) (h : j < 4) (w : World) : (Instr.index 121 (.agg #[.int .i64 (f 0), .int .i64 (f 1), .int .i64 (f 2), .int .i64 (f 3)]) (.int .i64 j)).run Try.prog w = .ok (.int .i64 (f j)) w := by
  rcases (show j = 0 ∨ j = 1 ∨ j = 2 ∨ j = 3 by omega) with rfl | rfl | rfl | rfl
  · show (Instr.index 121 (.agg #[.int .i64 (f 0), .int .i64 (f 1), .int .i64 (f 2), .int .i64 (f 3)]) (.int .i64 0)).run Try.prog w = .ok (.int .i64 (f 0)) w
    kernel_rfl
  · show (Instr.index 121 (.agg #[.int .i64 (f 0), .int .i64 (f 1), .int .i64 (f 2), .int .i64 (f 3)]) (.int .i64 1)).run Try.prog w = .ok (.int .i64 (f 1)) w
    kernel_rfl
  · show (Instr.index 121 (.agg #[.int .i64 (f 0), .int .i64 (f 1), .int .i64 (f 2), .int .i64 (f 3)]) (.int .i64 2)).run Try.prog w = .ok (.int .i64 (f 2)) w
    kernel_rfl
  · show (Instr.index 121 (.agg #[.int .i64 (f 0), .int .i64 (f 1), .int .i64 (f 2), .int .i64 (f 3)]) (.int .i64 3)).run Try.prog w = .ok (.int .i64 (f 3)) w
    kernel_rfl
def S12 (B A C : Nat) (cb ca cc : Array Value) (W' : World) : Prop := Blk W' B 121 cb ∧ Blk W' A 121 ca ∧ Blk W' C 120 cc
set_option maxRecDepth 100000 in
set_option maxHeartbeats 4000000 in
theorem many_any {O : Nat} {north wrong : Int} {cols lofts : Nat} {E S : Value} {fs : Nat} {rows : Nat → List Sp} (w : World) (h : Opened w O north wrong cols lofts E S fs rows) (hw : 0 ≤ wrong ∧ wrong ≤ 3) (hf : fs ≤ 128)
    (hlo : lofts ≤ 8) (hr : ∀ j, j < lofts → (rows j).length ≤ 100) :
    Calls Try.prog 70 #[.pointer (some ⟨O, 0, none⟩)] w fun e w' => e = .returned (.int .i64 (manyN (wrong - fs) rows lofts)) ∧ G w w' := by
  have hSP := fun (W : World) (hW : G w W) => spare_any W (h.keep hW) hw hf
  have HSP := Lib.hid hSP
  clear hSP
  have hwl : ∀ k, k ≤ lofts → ∀ t, ways (wrong - fs) rows k t ≤ 100 ^ k := fun k hk => ways_le _ _ k (fun j hj => hr j (by omega))
  generalize hsp : wrong - (fs : Int) = sp at *
  have hs3 : sp ≤ 3 := by omega
  obtain ⟨slv, b, hsl⟩ := h
  have i3 : w.cell? ⟨O, 3, none⟩ = some (.int .i64 lofts) := b.cell 3
  have lO := b.lt
  go_enter Try.func70, Try.ntmps70
  go_wp2
  have hA0 : Blk (w.alloc (.cells #[.int .i64 1, .int .i64 0, .int .i64 0, .int .i64 0] 121)) w.heap.size 121 (wc (ways sp rows 0)) := Blk.new _ _ _
  have hG0 : G w (w.alloc (.cells #[.int .i64 1, .int .i64 0, .int .i64 0, .int .i64 0] 121)) := (G.rf _).a _
  generalize w.alloc (.cells #[.int .i64 1, .int .i64 0, .int .i64 0, .int .i64 0] 121) = W0 at *
  go_loopw [18] (fun i wr => ∃ k : Nat, k ≤ lofts ∧ i = .int .i64 k ∧ Blk wr w.heap.size 121 (wc (ways sp rows k)) ∧ G w wr) (fun i _ => lofts - (intOf i).toNat)
  case atStart => exact ⟨0, Nat.zero_le _, rfl, hA0, hG0⟩
  case round =>
    obtain ⟨k, hk, rfl, bA, hG⟩ := hrel
    by_cases hlt : k < lofts
    · obtain ⟨wk, rfl⟩ : ∃ wk, wk = wr := ⟨_, rfl⟩
      obtain ⟨g, cap, hsv, ⟨_, hgb⟩, hsc⟩ := hsl k hlt
      have hgl := hgb.lt
      clear hgb
      have hk8 : k < 8 := by omega
      have hk8' : (k : Int) < 8 := by omega
      have i4 : wk.cell? ⟨O, 7 + k, none⟩ = some (.slice (some ⟨g, 0, none⟩) (rows k).length cap) := ((bcellB hG).1 _ _ lO).trans ((b.cell _).trans ((oc_get hk8).trans (by rw [hsv])))
      have lOr : O < wk.heap.size := by have := hG.size; omega
      have lA := bA.lt
      have hrk := hr k hlt
      have hwk := hwl k (by omega)
      have h100 : 100 ^ k ≤ 100 ^ 7 := Nat.pow_le_pow_right (by omega) (by omega)
      have hws : ways sp rows (k + 1) = pw sp ((rows k).map Sp.more) (ways sp rows k) := rfl
      have HWS := Lib.hid hws
      clear hws
      generalize ways sp rows k = f at *
      generalize rows k = row at *
      go_wp2
      have hB0 : Blk (wk.alloc (.cells #[.int .i64 0, .int .i64 0, .int .i64 0, .int .i64 0] 121)) wk.heap.size 121 (wc (pw sp ((row.map Sp.more).take 0) f)) := by
        rw [List.take_zero, pw_nil]; exact Blk.new _ _ _
      have hA1 := bA.alloc (.cells #[.int .i64 0, .int .i64 0, .int .i64 0, .int .i64 0] 121)
      have hG1 : G w (wk.alloc (.cells #[.int .i64 0, .int .i64 0, .int .i64 0, .int .i64 0] 121)) := hG.a _
      generalize wk.alloc (.cells #[.int .i64 0, .int .i64 0, .int .i64 0, .int .i64 0] 121) = W1 at *
      go_loopw [28] (fun i W' => ∃ q : Nat, q ≤ row.length ∧ i = .int .i64 q ∧ Blk W' wk.heap.size 121 (wc (pw sp ((row.map Sp.more).take q) f)) ∧ Blk W' w.heap.size 121 (wc f) ∧ G w W') (fun i _ => row.length - (intOf i).toNat)
      case atStart => exact ⟨0, Nat.zero_le _, rfl, hB0, hA1, hG1⟩
      case round =>
        obtain ⟨q, hq, rfl, bB', bA', hG'⟩ := hrel
        by_cases hlq : q < row.length
        · obtain ⟨c0, c1, c2⟩ := hsc q hlq
          have hgc := (bcellB hG').1
          have d0 := (hgc _ _ hgl).trans c0
          have d1 := (hgc _ _ hgl).trans c1
          have d2 := (hgc _ _ hgl).trans c2
          have htk : (row.map Sp.more).take (q + 1) = (row.map Sp.more).take q ++ [(row.getD q default).more] := by
            rw [List.take_succ_eq_append_getElem (by simpa using hlq)]
            simp [hlq]
          have hml : ((row.map Sp.more).take q).length = q := by simp; omega
          have lg : g < wr.heap.size := by have := hG'.size; omega
          have lB := bB'.lt
          have lA' := bA'.lt
          have lOw : O < wr.heap.size := by have := hG'.size; omega
          clear c0 c1 c2 hgc
          have hqi : (q : Int) < row.length := by omega
          have HTK := Lib.hid htk
          clear htk
          generalize hsd : row.getD q default = s at *
          generalize (row.map Sp.more).take q = l at *
          have hpw := pw_le sp f (100 ^ k) hwk l
          rw [hml] at hpw
          clear hml hsd
          go_wp2
          obtain ⟨wq, rfl⟩ : ∃ wq, wq = wr := ⟨_, rfl⟩
          have hC2 := Blk.new wq 120 #[.int .i64 s.x, .int .i64 s.y, .int .i64 s.more]
          have hB2 := bB'.alloc (.cells #[.int .i64 s.x, .int .i64 s.y, .int .i64 s.more] 120)
          have hA2 := bA'.alloc (.cells #[.int .i64 s.x, .int .i64 s.y, .int .i64 s.more] 120)
          have hG2 : G w (wq.alloc (.cells #[.int .i64 s.x, .int .i64 s.y, .int .i64 s.more] 120)) := hG'.a _
          generalize wq.alloc (.cells #[.int .i64 s.x, .int .i64 s.y, .int .i64 s.more] 120) = W2 at *
          rw [← pp_start (pw sp l f) f s.more] at hB2
          go_loopw [8] (fun i W' => ∃ t : Nat, s.more ≤ t ∧ (t = s.more ∨ (t : Int) ≤ sp + 1) ∧ i = .int .i64 t ∧ Blk W' wk.heap.size 121 (wc (pp (pw sp l f) f s.more t)) ∧ Blk W' w.heap.size 121 (wc f) ∧ Blk W' wq.heap.size 120 #[.int .i64 s.x, .int .i64 s.y, .int .i64 s.more] ∧ G w W') (fun i _ => (sp + 1 - intOf i).toNat)
          case atStart => exact ⟨s.more, Nat.le_refl _, .inl rfl, rfl, hB2, hA2, hC2, hG2⟩
          case round =>
            obtain ⟨t, ht1, ht2, rfl, b5, b3, b7, hGr⟩ := hrel
            have hNE1 : wk.heap.size ≠ w.heap.size := by omega
            have hNE2 : wq.heap.size ≠ wk.heap.size := by omega
            clear hA2 hB2 hC2 hG2 bA bA' bB' hB0 hA1
            by_cases hts : (t : Int) ≤ sp
            · go_wp2_with (go_at_call 87; refine (HSP.out _ hGr).mono ?_; rintro e w' ⟨rfl, hGx⟩)
              replace b5 := b5.keep hGx
              replace b3 := b3.keep hGx
              replace b7 := b7.keep hGx
              have hGy := hGr.t hGx
              clear hGx
              have ht4 : t < 4 := by omega
              have ht4' : (t : Int) < 4 := by omega
              have hm4 : t - s.more < 4 := by omega
              have hm4' : ((t - s.more : Nat) : Int) < 4 := by omega
              have hw1 : IntKind.i64.wrap ((t : Int) - s.more) = ((t - s.more : Nat) : Int) := by
                rw [IntWalk.i64_in _ (by omega)]; omega
              have hb1 := pp_le (pw sp l f) f s.more t (100 ^ k) (q * 100 ^ k) hpw hwk t
              have hb2 := hwk (t - s.more)
              have hb3 : q * 100 ^ k ≤ 100 * 100 ^ 7 := Nat.mul_le_mul (by omega) h100
              have hw2 : IntKind.i64.wrap ((pp (pw sp l f) f s.more t t : Int) + f (t - s.more)) = ((pp (pw sp l f) f s.more t t + f (t - s.more) : Nat) : Int) := by
                rw [IntWalk.i64_in _ (by omega)]; omega
              have hps := pp_step (pw sp l f) f s.more t ht1
              have HPS := Lib.hid hps
              clear hps hb1 hb2 hb3
              have a5 : w'.cell? ⟨wk.heap.size, t, none⟩ = some (.int .i64 (pp (pw sp l f) f s.more t t)) := (b5.cell _).trans (wc_get _ ht4)
              have z5 := b5.frozen t
              refine wp_region_Z (S := S12 wk.heap.size w.heap.size wq.heap.size (wc (pp (pw sp l f) f s.more t)) (wc f) #[.int .i64 s.x, .int .i64 s.y, .int .i64 s.more]) 11 12 rfl (by kernel_rfl) ⟨b5, b3, b7⟩ (fun hS => ?_)
              have f1 : ∀ W', S12 wk.heap.size w.heap.size wq.heap.size (wc (pp (pw sp l f) f s.more t)) (wc f) #[.int .i64 s.x, .int .i64 s.y, .int .i64 s.more] W' → W'.cell? ⟨wk.heap.size, t, none⟩ = some (.int .i64 (pp (pw sp l f) f s.more t t)) := fun W' h => (h.1.cell _).trans (wc_get _ ht4)
              have f2 : ∀ W', S12 wk.heap.size w.heap.size wq.heap.size (wc (pp (pw sp l f) f s.more t)) (wc f) #[.int .i64 s.x, .int .i64 s.y, .int .i64 s.more] W' → W'.cell? ⟨w.heap.size, t - s.more, none⟩ = some (.int .i64 (f (t - s.more))) := fun W' h => (h.2.1.cell _).trans (wc_get _ hm4)
              have f3 : ∀ W', S12 wk.heap.size w.heap.size wq.heap.size (wc (pp (pw sp l f) f s.more t)) (wc f) #[.int .i64 s.x, .int .i64 s.y, .int .i64 s.more] W' → W'.cell? ⟨wq.heap.size, 2, none⟩ = some (.int .i64 s.more) := fun W' h => h.2.2.cell 2
              refine wpAnyZ_take (i := 0) (v := ?_) rfl (by kernel_rfl) (by kernel_rfl) (by kernel_rfl) (by kernel_rfl) (fun _ _ _ h => h) (Or.inl ⟨by rfl, ?_⟩) (by assumption) ?_
              rotate_left
              · intro w' hSw; go_simp; with_reducible rfl
              try simp only [Act.put, List.setIfInBounds_toArray, List.set_cons_zero, List.set_cons_succ]
              refine wpAnyZ_take (i := 1) (v := ?_) rfl (by kernel_rfl) (by kernel_rfl) (by kernel_rfl) (by kernel_rfl) (fun _ _ _ h => h) (Or.inl ⟨by rfl, ?_⟩) (by assumption) ?_
              rotate_left
              · intro w' hSw; go_simp; with_reducible rfl
              try simp only [Act.put, List.setIfInBounds_toArray, List.set_cons_zero, List.set_cons_succ]
              refine wpAnyZ_take (i := 2) (v := ?_) rfl (by kernel_rfl) (by kernel_rfl) (by kernel_rfl) (by kernel_rfl) (fun _ _ _ h => h) (Or.inl ⟨by rfl, ?_⟩) (by assumption) ?_
              rotate_left
              · intro w' hSw; go_simp; with_reducible rfl
              try simp only [Act.put, List.setIfInBounds_toArray, List.set_cons_zero, List.set_cons_succ]
              refine wpAnyZ_take (i := 3) (v := ?_) rfl (by kernel_rfl) (by kernel_rfl) (by kernel_rfl) (by kernel_rfl) (fun _ _ _ h => h) (Or.inl ⟨by rfl, ?_⟩) (by assumption) ?_
              rotate_left
              · intro w' hSw; go_simp; with_reducible rfl
              try simp only [Act.put, List.setIfInBounds_toArray, List.set_cons_zero, List.set_cons_succ]
              refine wpAnyZ_take (i := 4) (v := ?_) rfl (by kernel_rfl) (by kernel_rfl) (by kernel_rfl) (by kernel_rfl) (fun _ _ _ h => h) (Or.inl ⟨by rfl, ?_⟩) (by assumption) ?_
              rotate_left
              · intro w' hSw; go_simp; with_reducible rfl
              try simp only [Act.put, List.setIfInBounds_toArray, List.set_cons_zero, List.set_cons_succ]
              refine wpAnyZ_take (i := 5) (v := ?_) rfl (by kernel_rfl) (by kernel_rfl) (by kernel_rfl) (by kernel_rfl) (fun _ _ _ h => h) (Or.inl ⟨by rfl, ?_⟩) (by assumption) ?_
              rotate_left
              · intro w' hSw; go_simp; with_reducible rfl
              try simp only [Act.put, List.setIfInBounds_toArray, List.set_cons_zero, List.set_cons_succ]
              refine wpAnyZ_take (i := 6) (v := ?_) rfl (by kernel_rfl) (by kernel_rfl) (by kernel_rfl) (by kernel_rfl) (fun _ _ _ h => h) (Or.inl ⟨by rfl, ?_⟩) (by assumption) ?_
              rotate_left
              · intro w' hSw; go_simp; with_reducible rfl
              try simp only [Act.put, List.setIfInBounds_toArray, List.set_cons_zero, List.set_cons_succ]
              refine wpAnyZ_take (i := 7) (v := ?_) rfl (by kernel_rfl) (by kernel_rfl) (by kernel_rfl) (by kernel_rfl) (fun _ _ _ h => h) (Or.inl ⟨by rfl, ?_⟩) (by assumption) ?_
              rotate_left
              · intro w' hSw; go_simp; with_reducible rfl
              try simp only [Act.put, List.setIfInBounds_toArray, List.set_cons_zero, List.set_cons_succ]
              refine wpAnyZ_take (i := 8) (v := ?_) rfl (by kernel_rfl) (by kernel_rfl) (by kernel_rfl) (by kernel_rfl) (fun _ _ _ h => h) (Or.inl ⟨by rfl, ?_⟩) (by assumption) ?_
              rotate_left
              · intro w' hSw; go_simp; with_reducible rfl
              try simp only [Act.put, List.setIfInBounds_toArray, List.set_cons_zero, List.set_cons_succ]
              refine wpAnyZ_take (i := 9) (v := ?_) rfl (by kernel_rfl) (by kernel_rfl) (by kernel_rfl) (by kernel_rfl) (fun _ _ _ h => h) (Or.inl ⟨by rfl, ?_⟩) (by assumption) ?_
              rotate_left
              · intro w' hSw; go_simp; with_reducible rfl
              try simp only [Act.put, List.setIfInBounds_toArray, List.set_cons_zero, List.set_cons_succ]
              refine wpAnyZ_take (i := 10) (v := ?_) rfl (by kernel_rfl) (by kernel_rfl) (by kernel_rfl) (by kernel_rfl) (fun _ _ _ h => h) (Or.inl ⟨by rfl, ?_⟩) (by assumption) ?_
              rotate_left
              · intro w' hSw; go_simp; with_reducible rfl
              try simp only [Act.put, List.setIfInBounds_toArray, List.set_cons_zero, List.set_cons_succ]
              refine wpAnyZ_one (i := 11) (by kernel_rfl) rfl (fun K6 hK6 => ?_)
              go_simp
              refine hK6.out _ _ (fun h => absurd rfl h) (fun _ => ?_)
              refine wpAnyZ_done (by kernel_rfl) ?_ _
              go_wp2
              have e0 : ((pp (pw sp l f) f s.more t t : Int) + f (t - s.more)) = ((pp (pw sp l f) f s.more t t + f (t - s.more) : Nat) : Int) := by omega
              rw [e0]
              have b5s := b5.set_ t (.int .i64 ((pp (pw sp l f) f s.more t t + f (t - s.more) : Nat) : Int))
              rw [wc_set _ ht4, HPS.out] at b5s
              refine ⟨⟨t + 1, by omega, .inr (by omega), by simp, b5s.dr, (b3.far (by simp; omega) _).dr, (b7.far (by simp; omega) _).dr, (hGy.s (by simp; omega) _).d⟩, by simp [intOf]; omega⟩
            · go_wp2_with (go_at_call 87; refine (HSP.out _ hGr).mono ?_; rintro e w' ⟨rfl, hGx⟩)
              refine ⟨⟨q + 1, by omega, by simp, ?_, b3.keep hGx, hGr.t hGx⟩, by simp [intOf]; omega⟩
              rw [HTK.out, ← pp_end sp f l s.more t ht1 ht2 (by omega)]
              exact b5.keep hGx
        · have hqe : (row.map Sp.more).take q = row.map Sp.more := List.take_of_length_le (by simp; omega)
          rw [hqe, ← HWS.out] at bB'
          have hN := hwl (k + 1) (by omega)
          obtain ⟨g', hg'⟩ : ∃ g', ways sp rows (k + 1) = g' := ⟨_, rfl⟩
          rw [hg'] at bB'
          have c0 : wr.cell? ⟨wk.heap.size, 0, none⟩ = some (.int .i64 (g' 0)) := bB'.cell 0
          have c1 : wr.cell? ⟨wk.heap.size, 1, none⟩ = some (.int .i64 (g' 1)) := bB'.cell 1
          have c2 : wr.cell? ⟨wk.heap.size, 2, none⟩ = some (.int .i64 (g' 2)) := bB'.cell 2
          have c3 : wr.cell? ⟨wk.heap.size, 3, none⟩ = some (.int .i64 (g' 3)) := bB'.cell 3
          have z0 := bA'.frozen 0
          have z1 := bA'.frozen 1
          have z2 := bA'.frozen 2
          have z3 := bA'.frozen 3
          have x0 : wr.cell? ⟨w.heap.size, 0, none⟩ = some (.int .i64 (f 0)) := bA'.cell 0
          have x1 : wr.cell? ⟨w.heap.size, 1, none⟩ = some (.int .i64 (f 1)) := bA'.cell 1
          have x2 : wr.cell? ⟨w.heap.size, 2, none⟩ = some (.int .i64 (f 2)) := bA'.cell 2
          have x3 : wr.cell? ⟨w.heap.size, 3, none⟩ = some (.int .i64 (f 3)) := bA'.cell 3
          go_wp2
          refine ⟨⟨k + 1, by omega, by simp, ?_, (((hG'.s (by simp) _).s (by simp) _).s (by simp) _).s (by simp) _⟩, by simp [intOf]; omega⟩
          rw [hg']
          exact (((bA'.set_ 0 _).set_ 1 _).set_ 2 _).set_ 3 _
    · obtain rfl : lofts = k := by omega
      have hN := hwl lofts (by omega)
      have h100 : 100 ^ lofts ≤ 100 ^ 8 := Nat.pow_le_pow_right (by omega) (by omega)
      obtain ⟨f, hf⟩ : ∃ f, ways sp rows lofts = f := ⟨_, rfl⟩
      have hM : manyN sp rows lofts = tot f 4 := by unfold manyN; rw [hf]; simp [tot]
      rw [hf] at bA hN
      have x0 : wr.cell? ⟨w.heap.size, 0, none⟩ = some (.int .i64 (f 0)) := bA.cell 0
      have x1 : wr.cell? ⟨w.heap.size, 1, none⟩ = some (.int .i64 (f 1)) := bA.cell 1
      have x2 : wr.cell? ⟨w.heap.size, 2, none⟩ = some (.int .i64 (f 2)) := bA.cell 2
      have x3 : wr.cell? ⟨w.heap.size, 3, none⟩ = some (.int .i64 (f 3)) := bA.cell 3
      go_wp2
      go_loopw [9, 55] (fun a i W' => ∃ j : Nat, j ≤ 4 ∧ i = .int .i64 j ∧ a = .int .i64 (tot f j) ∧ G w W') (fun _ i _ => 4 - (intOf i).toNat)
      case atStart => exact ⟨0, by omega, rfl, rfl, hG⟩
      case round =>
        obtain ⟨j, hj, rfl, rfl, hG'⟩ := hrel
        have t1 := tot_le f (100 ^ 8) (fun t => Nat.le_trans (hN t) h100) j
        by_cases hj4 : j < 4
        · have t2 := Nat.le_trans (hN j) h100
          have t3 : tot f (j + 1) = tot f j + f j := rfl
          have hw : IntKind.i64.wrap ((tot f j : Int) + f j) = (tot f (j + 1) : Int) := by
            rw [t3, IntWalk.i64_in _ (by omega)]; omega
          clear t1 t2 t3
          have hget := idx121 f j hj4
          have hj4' : (j : Int) < 4 := by omega
          go_wp2
          exact ⟨⟨j + 1, by omega, by simp, rfl, hG'⟩, by simp [intOf]; omega⟩
        · obtain rfl : j = 4 := by omega
          go_wp2
          go_ret
          exact ⟨by rw [hM]; rfl, hG'⟩
end Go.Proofs.Ytpjfdfddcnocpaa
