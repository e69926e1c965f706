import Derived.Test.YtcekdljjmfkacaaQa
import Derived.Test.YtcekdljjmfkacaaQb
set_option linter.unusedSimpArgs false
set_option linter.unusedVariables false
namespace Go.Proofs.Ytcekdljjmfkacaa
open Go.RowKit Go.Shelf
attribute [local go_sem] Oper.semAt_some wide_fn wide_dep wideR_fn wideR_dep
/-- spans from m on -/
def PsPost (w : World) (N : Nat) (lo hh : Nat → Nat) (e : Ending) (w' : World) : Prop := ∃ g cap, e = .returned (.tuple #[.slice (some ⟨g, 0, none⟩) N cap, .int .i64 0]) ∧ g < w'.heap.size ∧ (∀ j, j < N → w'.cell? ⟨g, j * 2, none⟩ = some (.int .i64 (lo j : Nat)) ∧ w'.cell? ⟨g, j * 2 + 1, none⟩ = some (.int .i64 (hh j : Nat))) ∧ G w w'
set_option maxRecDepth 100000 in
set_option maxHeartbeats 8000000 in
theorem FlightLaw_walk (REL : Array Value) (m0 m1 m3 m5 : Int) (ea sa : Option Addr) (el ec sn sc : Nat) (i m A x sl sh : Nat) (P : List (Nat × Nat)) (ln FA AT lo hh : Nat → Nat) (w : World) (hIs : IsRel REL) (h0 : REL[0]? = some (.int .i64 m0)) (h1 : REL[1]? = some (.int .i64 m1)) (h2 : REL[2]? = some (.slice ea el ec)) (h3 : REL[3]? = some (.int .i64 m3)) (h4 : REL[4]? = some (.slice sa sn sc)) (h5 : REL[5]? = some (.int .i64 m5))
    (h9 : REL[9]? = some (.int .i64 (sl : Nat))) (h10 : REL[10]? = some (.int .i64 (sh : Nat))) (hsl : sl ≤ 3000000) (hsh : sh ≤ 3000000) (hm : m ≤ 9999) (hA : A ≤ 400) (hx1 : A * sl ≤ x) (hx2 : x ≤ A * sh) (hP : 1 ≤ P.length ∧ P.length ≤ 20)
    (hV : ∀ W, G w W → Calls Try.prog 12 #[.agg REL, .int .i64 (i : Nat), .int .i64 (m : Nat)] W (BoolPost W)) (hW : ∀ W, G w W → Calls Try.prog 14 #[.agg REL, .int .i64 (i : Nat)] W (WayPost W P)) (hPs : ∀ W, G w W → Calls Try.prog 15 #[.agg REL, .int .i64 (i : Nat), .int .i64 (m : Nat)] W (PsPost W P.length lo hh))
    (hL : ∀ j, j + 1 < P.length → ∀ W, G w W → Calls Try.prog 16 #[.agg #[.int .i64 m0, .int .i64 m1, .slice ea el ec, .int .i64 m3, .slice sa sn sc, .int .i64 m5], .agg #[.int .i64 ((P.getD j (0, 0)).1 : Nat), .int .i64 ((P.getD j (0, 0)).2 : Nat)], .agg #[.int .i64 ((P.getD (j + 1) (0, 0)).1 : Nat), .int .i64 ((P.getD (j + 1) (0, 0)).2 : Nat)], .int .i64 0] W fun e w' => e = .returned (.tuple #[.int .i64 (ln j : Nat), .int .i64 0]) ∧ G W w')
    (hf0 : FA 0 = 0) (hfs : ∀ q, q + 1 < P.length → FA (q + 1) = FA q + ln q) (hfb : ∀ q, q < P.length → FA q ≤ 10000000000) (ha0 : AT 0 = 0) (has : ∀ q, AT (q + 1) = if FA (q + 1) ≤ x then q + 1 else AT q) (hal : ∀ q, AT q ≤ q) (hlo : ∀ j, j < P.length → lo j ≤ 1000000000000 ∧ hh j ≤ 1000000000000)
    (hhome : FA (P.length - 1) ≤ x → lo (P.length - 1) ≤ m + A) (hway : x < FA (P.length - 1) → lo (AT (P.length - 1)) ≤ m + A ∧ m + A ≤ hh (AT (P.length - 1))) :
    Calls Try.prog 4 #[.agg REL, .agg #[.int .i64 (i : Nat), .int .i64 (m : Nat), .int .i64 (A : Nat), .int .i64 (x : Nat)]] w fun e w' => e = .returned (.bool true) ∧ G w w' := by
  have HIS := Lib.hid hIs
  have HV := Lib.hid hV
  have HW := Lib.hid hW
  have HPS := Lib.hid hPs
  have HLN := Lib.hid hL
  have HWK := Lib.hid (fun W : World => works_any W)
  have HFS := Lib.hid hfs
  have HAS := Lib.hid has
  have HFB := Lib.hid hfb
  have HAL := Lib.hid hal
  have HLO := Lib.hid hlo
  have HHO := Lib.hid hhome
  have HWA := Lib.hid hway
  have HF0 := Lib.hid hf0
  have HA0 := Lib.hid ha0
  clear hIs hV hW hPs hL hfs hfb has hal hlo hhome hway hf0 ha0
  have g0 : G w ((w.alloc (.cells REL 35)).alloc (.cells #[.int .i64 (i : Nat), .int .i64 (m : Nat), .int .i64 (A : Nat), .int .i64 (x : Nat)] 43)) := ((G.rf _).a _).a _
  have b0 : Blk ((w.alloc (.cells REL 35)).alloc (.cells #[.int .i64 (i : Nat), .int .i64 (m : Nat), .int .i64 (A : Nat), .int .i64 (x : Nat)] 43)) w.heap.size 35 REL := (Blk.new w 35 REL).keep ((G.rf _).a _)
  have c0 : Blk ((w.alloc (.cells REL 35)).alloc (.cells #[.int .i64 (i : Nat), .int .i64 (m : Nat), .int .i64 (A : Nat), .int .i64 (x : Nat)] 43)) (w.heap.size + 1) 43 #[.int .i64 (i : Nat), .int .i64 (m : Nat), .int .i64 (A : Nat), .int .i64 (x : Nat)] := by
    have := Blk.new (w.alloc (.cells REL 35)) 43 #[.int .i64 (i : Nat), .int .i64 (m : Nat), .int .i64 (A : Nat), .int .i64 (x : Nat)]
    rwa [show (w.alloc (.cells REL 35)).heap.size = w.heap.size + 1 by simp] at this
  go_enter Try.func4, Try.ntmps4
  go_upto_region 1 with fail
  change Code.wp _ _ _ _ ((w.alloc (.cells REL 35)).alloc (.cells #[.int .i64 (i : Nat), .int .i64 (m : Nat), .int .i64 (A : Nat), .int .i64 (x : Nat)] 43))
  generalize (w.alloc (.cells REL 35)).alloc (.cells #[.int .i64 (i : Nat), .int .i64 (m : Nat), .int .i64 (A : Nat), .int .i64 (x : Nat)] 43) = w1 at *
  have x0 : w1.cell? ⟨w.heap.size + 1, 0, none⟩ = some (.int .i64 (i : Nat)) := c0.cell 0
  have x1 : w1.cell? ⟨w.heap.size + 1, 1, none⟩ = some (.int .i64 (m : Nat)) := c0.cell 1
  have lx := c0.lt
  refine wp_region_lit ?_
  refine wpList_load35 w.heap.size 2 HIS.out rfl rfl rfl b0 ?_
  try simp only [Act.put, List.getElem_toArray, List.getElem_cons_zero, List.getElem_cons_succ, List.setIfInBounds_toArray, List.set_cons_zero, List.set_cons_succ]
  refine wpList_plain rfl fun K hK => ?_
  go_simp
  refine hK _ _ ?_
  clear hK
  try simp only [Act.put, List.getElem_toArray, List.getElem_cons_zero, List.getElem_cons_succ, List.setIfInBounds_toArray, List.set_cons_zero, List.set_cons_succ]
  refine wpList_plain rfl fun K hK => ?_
  go_simp
  refine hK _ _ ?_
  clear hK
  try simp only [Act.put, List.getElem_toArray, List.getElem_cons_zero, List.getElem_cons_succ, List.setIfInBounds_toArray, List.set_cons_zero, List.set_cons_succ]
  refine wpList_plain rfl fun K hK => ?_
  go_simp
  refine hK _ _ ?_
  clear hK
  try simp only [Act.put, List.getElem_toArray, List.getElem_cons_zero, List.getElem_cons_succ, List.setIfInBounds_toArray, List.set_cons_zero, List.set_cons_succ]
  refine wpList_plain rfl fun K hK => ?_
  go_simp
  refine hK _ _ ?_
  clear hK
  try simp only [Act.put, List.getElem_toArray, List.getElem_cons_zero, List.getElem_cons_succ, List.setIfInBounds_toArray, List.set_cons_zero, List.set_cons_succ]
  refine wpList_plain rfl fun K hK => ?_
  go_simp
  refine (HV.out _ g0).mono ?_
  rintro e w2 ⟨b, rfl, hG2⟩
  refine hK _ _ ?_
  clear hK K HV x0 x1 lx
  try simp only [Act.put, List.getElem_toArray, List.getElem_cons_zero, List.getElem_cons_succ, List.setIfInBounds_toArray, List.set_cons_zero, List.set_cons_succ]
  replace b0 := b0.keep hG2
  replace c0 := c0.keep hG2
  replace g0 := g0.t hG2
  clear hG2
  have lx := c0.lt
  have lb := b0.lt
  cases b
  · go_wp2_with (go_at_call 13; refine (HWK.out _).mono ?_; rintro e w3 ⟨rfl, hG3⟩)
    go_ret
    exact ⟨rfl, g0.t hG3⟩
  have x0 : w2.cell? ⟨w.heap.size + 1, 0, none⟩ = some (.int .i64 (i : Nat)) := c0.cell 0
  have x2 : w2.cell? ⟨w.heap.size + 1, 2, none⟩ = some (.int .i64 (A : Nat)) := c0.cell 2
  have x3 : w2.cell? ⟨w.heap.size + 1, 3, none⟩ = some (.int .i64 (x : Nat)) := c0.cell 3
  have r9 := (b0.cell 9).trans h9
  have r10 := (b0.cell 10).trans h10
  have n1 : A * sl ≤ 400 * 3000000 := Nat.mul_le_mul hA hsl
  have n2 : A * sh ≤ 400 * 3000000 := Nat.mul_le_mul hA hsh
  have xl : IntKind.i64.wrap ((A : Int) * (sl : Int)) = ((A * sl : Nat) : Int) := by rw [← Int.natCast_mul]; exact IntWalk.i64_in _ (by omega)
  have xh : IntKind.i64.wrap ((A : Int) * (sh : Int)) = ((A * sh : Nat) : Int) := by rw [← Int.natCast_mul]; exact IntWalk.i64_in _ (by omega)
  have hxb : x ≤ 1200000000 := by omega
  generalize A * sl = Al at *
  generalize A * sh = Ah at *
  have t1 : decide ((A : Int) < 0) = false := decide_eq_false (by omega)
  have t2 : decide ((400 : Int) < (A : Int)) = false := decide_eq_false (by omega)
  have t3 : decide ((x : Int) < (Al : Nat)) = false := decide_eq_false (by omega)
  have t4 : decide (((Ah : Nat) : Int) < (x : Int)) = false := decide_eq_false (by omega)
  have t5 : decide (x < Al) = false := decide_eq_false (by omega)
  have t6 : decide (Ah < x) = false := decide_eq_false (by omega)
  have t7 : ¬ x < Al := by omega
  have t8 : ¬ Ah < x := by omega
  clear n1 n2
  go_upto_region 3 with fail
  clear t1 t2 t3 t4 t5 t6 t7 t8 hx1 hx2 x2 x3 r9 r10 xl xh
  refine wp_region_lit ?_
  refine wpList_load35 w.heap.size 2 HIS.out rfl rfl rfl b0 ?_
  try simp only [Act.put, List.getElem_toArray, List.getElem_cons_zero, List.getElem_cons_succ, List.setIfInBounds_toArray, List.set_cons_zero, List.set_cons_succ]
  go_upto_region 4 with (go_at_call 14; refine (HW.out _ g0).mono ?_; rintro e w3 ⟨vP, rfl, hown, hG3⟩; obtain ⟨gP, capP, eP, hgP, hpt⟩ := pts_own rfl hown (by omega); subst eP; clear hown)
  replace b0 := b0.keep hG3
  replace c0 := c0.keep hG3
  replace g0 := g0.t hG3
  clear hG3 HW x0 lx lb
  have lx := c0.lt
  have x0 : w3.cell? ⟨w.heap.size + 1, 0, none⟩ = some (.int .i64 (i : Nat)) := c0.cell 0
  have x1 : w3.cell? ⟨w.heap.size + 1, 1, none⟩ = some (.int .i64 (m : Nat)) := c0.cell 1
  refine wp_region_lit ?_
  refine wpList_load35 w.heap.size 2 HIS.out rfl rfl rfl b0 ?_
  try simp only [Act.put, List.getElem_toArray, List.getElem_cons_zero, List.getElem_cons_succ, List.setIfInBounds_toArray, List.set_cons_zero, List.set_cons_succ]
  obtain ⟨N, hN⟩ : ∃ N, N = P.length := ⟨_, rfl⟩
  have hN20 : ¬ (20 : Int) < N := by omega
  have hN20' : ¬ 20 < N := by omega
  have hN0 : ((N : Int) == 0) = false := by simp; omega
  have hNN : ((N : Int) != N) = false := by simp
  rw [← hN] at hP HPS HLN HFS HFB HLO HHO HWA ⊢
  have HNP : Hid (N = P.length) := hN
  have HPT := Lib.hid hpt
  clear hN hpt
  go_upto_region 8 with (go_at_call 15; refine (HPS.out _ g0).mono ?_; rintro e w4 ⟨gS, capS, rfl, hgS, hsp, hG4⟩)
  replace b0 := b0.keep hG4
  replace c0 := c0.keep hG4
  replace g0 := g0.t hG4
  have HP4 := Lib.hid (HPT.out.keep hgP hG4)
  replace hgP := Nat.lt_of_lt_of_le hgP hG4.size
  have HSP := Lib.hid hsp
  clear hsp hG4 HPT HPS x0 x1 lx hN20 hN20' hN0 hNN
  go_wp2_with fail
  go_loopw [9, 10, 11, 12, 13] (fun v9 v10 v11 u12 u13 wr => ∃ q : Nat, q + 1 ≤ N ∧ v9 = .int .i64 (FA q : Nat) ∧ v10 = .int .i64 (AT q : Nat) ∧ v11 = .int .i64 ((q + 1 : Nat) : Int) ∧ G w4 wr) (fun _ _ kk _ _ _ => N + 1 - (intOf kk).toNat)
  case atStart => exact ⟨0, by omega, by rw [HF0.out]; rfl, by rw [HA0.out]; rfl, rfl, G.rf _⟩
  case round =>
    clear HF0 HA0
    obtain ⟨q, hq, rfl, rfl, rfl, hG⟩ := hrel
    obtain ⟨wo, rfl⟩ : ∃ wo, wo = wr := ⟨_, rfl⟩
    obtain ⟨j, hj⟩ : ∃ j, j = q + 1 := ⟨_, rfl⟩
    have gw := g0.t hG
    by_cases hlt : q + 1 < N
    · have pA := (HP4.out.keep hgP hG) q (by rw [← HNP.out]; omega)
      have pB := (HP4.out.keep hgP hG) (q + 1) (by rw [← HNP.out]; omega)
      have HL := Lib.hid (fun (W : World) (hW : G w W) => HLN.out q hlt W hW)
      have hfs := HFS.out q hlt
      have has := HAS.out q
      have hf1 := HFB.out q (by omega)
      have hf2 := HFB.out (q + 1) hlt
      rw [← hj] at pB HL hfs has hf2 hlt
      obtain ⟨pa1, pa2⟩ := pA
      obtain ⟨pb1, pb2⟩ := pB
      obtain ⟨ax, hax⟩ : ∃ ax, ax = (P.getD q (0, 0)).1 := ⟨_, rfl⟩
      obtain ⟨ay, hay⟩ : ∃ ay, ay = (P.getD q (0, 0)).2 := ⟨_, rfl⟩
      obtain ⟨cx, hcx⟩ : ∃ cx, cx = (P.getD j (0, 0)).1 := ⟨_, rfl⟩
      obtain ⟨cy, hcy⟩ : ∃ cy, cy = (P.getD j (0, 0)).2 := ⟨_, rfl⟩
      rw [← hax] at pa1 HL
      rw [← hay] at pa2 HL
      rw [← hcx] at pb1 HL
      rw [← hcy] at pb2 HL
      clear hax hay hcx hcy
      have b0q := b0.keep hG
      have c0q := c0.keep hG
      have lA := Nat.lt_of_lt_of_le hgP hG.size
      have hjN : (j : Int) < N := by omega
      have hqN : (q : Int) < N := by omega
      have xq : IntKind.i64.wrap ((j : Int) - 1) = (q : Int) := by rw [IntWalk.i64_in _ (by omega), hj]; omega
      have xj : IntKind.i64.wrap ((j : Int) + 1) = ((j + 1 : Nat) : Int) := by rw [IntWalk.i64_in _ (by omega)]; rfl
      obtain ⟨L, hL⟩ : ∃ L, L = ln q := ⟨_, rfl⟩
      rw [← hL] at HL hfs
      have xf : IntKind.i64.wrap ((FA q : Int) + (L : Int)) = ((FA j : Nat) : Int) := by rw [IntWalk.i64_in _ (by omega), hfs]; rfl
      obtain ⟨fq, hfq⟩ : ∃ fq, fq = FA q := ⟨_, rfl⟩
      obtain ⟨fj, hfj⟩ : ∃ fj, fj = FA j := ⟨_, rfl⟩
      rw [← hfq] at xf hf1 ⊢
      rw [← hfj] at xf has hf2
      have HFJ := Lib.hid hfj
      have HAJ := Lib.hid has
      have HJ := Lib.hid hj
      rw [← hj]
      have hSk : ∀ W', G wo W' → (Blk W' w.heap.size 35 REL ∧ (W'.cell? ⟨gP, q * 2, none⟩ = some (.int .i64 (ax : Nat)) ∧ W'.cell? ⟨gP, q * 2 + 1, none⟩ = some (.int .i64 (ay : Nat))) ∧ W'.cell? ⟨gP, j * 2, none⟩ = some (.int .i64 (cx : Nat)) ∧ W'.cell? ⟨gP, j * 2 + 1, none⟩ = some (.int .i64 (cy : Nat))) := fun W' h => ⟨b0q.keep h, ⟨((bcellB h).1 gP _ lA).trans pa1, ((bcellB h).1 gP _ lA).trans pa2⟩, ((bcellB h).1 gP _ lA).trans pb1, ((bcellB h).1 gP _ lA).trans pb2⟩
      clear pa1 pa2 pb1 pb2 hfs has hfq hfj hL hj HLN HFS HAS HFB HP4 HSP HWA HHO HLO HAL
      go_wp2_with fail
      refine wp_region_Y (S := fun W' => Blk W' w.heap.size 35 REL ∧ (W'.cell? ⟨gP, q * 2, none⟩ = some (.int .i64 (ax : Nat)) ∧ W'.cell? ⟨gP, q * 2 + 1, none⟩ = some (.int .i64 (ay : Nat))) ∧ W'.cell? ⟨gP, j * 2, none⟩ = some (.int .i64 (cx : Nat)) ∧ W'.cell? ⟨gP, j * 2 + 1, none⟩ = some (.int .i64 (cy : Nat))) 16 17 rfl (by kernel_rfl) (hSk _ (G.rf _).d) (fun hS => ?_)
      change wpAnyY _ _ opsv11 _ _ _ 17 #[false, false, false, false, false, false, false, false, false, false, false, false, false, false, false, false, false] _ _
      refine wpAnyY_takeC (v := ?_) [] rv11_0 rv11o_0 (fun _ _ _ h => h) (Or.inl ⟨by kernel_rfl, ?_⟩) hS ?_
      rotate_left
      · intro w' hSw; go_simp; with_reducible rfl
      try simp only [Act.put, List.getElem_toArray, List.getElem_cons_zero, List.getElem_cons_succ, List.setIfInBounds_toArray, List.set_cons_zero, List.set_cons_succ]
      refine wpAnyY_takeC (v := ?_) [] rv11_1 rv11o_1 (fun _ _ _ h => h) (Or.inl ⟨by kernel_rfl, ?_⟩) hS ?_
      rotate_left
      · intro w' hSw; have e0 := (hSw.1.cell 0).trans h0; have e1 := (hSw.1.cell 1).trans h1; have e2 := (hSw.1.cell 2).trans h2; have e3 := (hSw.1.cell 3).trans h3; have e4 := (hSw.1.cell 4).trans h4; have e5 := (hSw.1.cell 5).trans h5; have lb := hSw.1.lt; go_simp; with_reducible rfl
      try simp only [Act.put, List.getElem_toArray, List.getElem_cons_zero, List.getElem_cons_succ, List.setIfInBounds_toArray, List.set_cons_zero, List.set_cons_succ]
      refine wpAnyY_takeC (v := ?_) [] rv11_2 rv11o_2 (fun _ _ _ h => h) (Or.inl ⟨by kernel_rfl, ?_⟩) hS ?_
      rotate_left
      · intro w' hSw; go_simp; with_reducible rfl
      try simp only [Act.put, List.getElem_toArray, List.getElem_cons_zero, List.getElem_cons_succ, List.setIfInBounds_toArray, List.set_cons_zero, List.set_cons_succ]
      refine wpAnyY_takeC (v := ?_) [] rv11_3 rv11o_3 (fun _ _ _ h => h) (Or.inl ⟨by kernel_rfl, ?_⟩) hS ?_
      rotate_left
      · intro w' hSw; go_simp; with_reducible rfl
      try simp only [Act.put, List.getElem_toArray, List.getElem_cons_zero, List.getElem_cons_succ, List.setIfInBounds_toArray, List.set_cons_zero, List.set_cons_succ]
      refine wpAnyY_takeC (v := ?_) [] rv11_4 rv11o_4 (fun _ _ _ h => h) (Or.inl ⟨by kernel_rfl, ?_⟩) hS ?_
      rotate_left
      · intro w' hSw; go_simp; with_reducible rfl
      try simp only [Act.put, List.getElem_toArray, List.getElem_cons_zero, List.getElem_cons_succ, List.setIfInBounds_toArray, List.set_cons_zero, List.set_cons_succ]
      refine wpAnyY_takeC (v := ?_) [] rv11_5 rv11o_5 (fun _ _ _ h => h) (Or.inl ⟨by kernel_rfl, ?_⟩) hS ?_
      rotate_left
      · intro w' hSw; go_simp; with_reducible rfl
      try simp only [Act.put, List.getElem_toArray, List.getElem_cons_zero, List.getElem_cons_succ, List.setIfInBounds_toArray, List.set_cons_zero, List.set_cons_succ]
      refine wpAnyY_takeC (v := ?_) [] rv11_6 rv11o_6 (fun _ _ _ h => h) (Or.inl ⟨by kernel_rfl, ?_⟩) hS ?_
      rotate_left
      · intro w' hSw; have p0 := hSw.2.1.1; have p1 := hSw.2.1.2; go_simp; with_reducible rfl
      try simp only [Act.put, List.getElem_toArray, List.getElem_cons_zero, List.getElem_cons_succ, List.setIfInBounds_toArray, List.set_cons_zero, List.set_cons_succ]
      refine wpAnyY_takeC (v := ?_) [] rv11_7 rv11o_7 (fun _ _ _ h => h) (Or.inl ⟨by kernel_rfl, ?_⟩) hS ?_
      rotate_left
      · intro w' hSw; go_simp; with_reducible rfl
      try simp only [Act.put, List.getElem_toArray, List.getElem_cons_zero, List.getElem_cons_succ, List.setIfInBounds_toArray, List.set_cons_zero, List.set_cons_succ]
      refine wpAnyY_takeC (v := ?_) [] rv11_8 rv11o_8 (fun _ _ _ h => h) (Or.inl ⟨by kernel_rfl, ?_⟩) hS ?_
      rotate_left
      · intro w' hSw; go_simp; with_reducible rfl
      try simp only [Act.put, List.getElem_toArray, List.getElem_cons_zero, List.getElem_cons_succ, List.setIfInBounds_toArray, List.set_cons_zero, List.set_cons_succ]
      refine wpAnyY_takeC (v := ?_) [] rv11_9 rv11o_9 (fun _ _ _ h => h) (Or.inl ⟨by kernel_rfl, ?_⟩) hS ?_
      rotate_left
      · intro w' hSw; go_simp; with_reducible rfl
      try simp only [Act.put, List.getElem_toArray, List.getElem_cons_zero, List.getElem_cons_succ, List.setIfInBounds_toArray, List.set_cons_zero, List.set_cons_succ]
      refine wpAnyY_takeC (v := ?_) [] rv11_10 rv11o_10 (fun _ _ _ h => h) (Or.inl ⟨by kernel_rfl, ?_⟩) hS ?_
      rotate_left
      · intro w' hSw; have p0 := hSw.2.2.1; have p1 := hSw.2.2.2; go_simp; with_reducible rfl
      try simp only [Act.put, List.getElem_toArray, List.getElem_cons_zero, List.getElem_cons_succ, List.setIfInBounds_toArray, List.set_cons_zero, List.set_cons_succ]
      have ga := (G.rf wo).d
      refine wpAnyY_oneSWC rv11_11 rv11o_11 (by kernel_rfl) (fun K11 hK11 => ?_)
      go_simp
      refine (HL.out _ (gw.t ga)).mono ?_
      rintro e wc ⟨rfl, hG11⟩
      replace ga := ga.t hG11
      refine hK11.out _ _ (hSk _ ga) (fun hS => ?_)
      try simp only [Act.put, List.getElem_toArray, List.getElem_cons_zero, List.getElem_cons_succ, List.setIfInBounds_toArray, List.set_cons_zero, List.set_cons_succ]
      refine wpAnyY_takeC (v := ?_) [] rv11_12 rv11o_12 (fun _ _ _ h => h) (Or.inl ⟨by kernel_rfl, ?_⟩) hS ?_
      rotate_left
      · intro w' hSw; go_simp; with_reducible rfl
      try simp only [Act.put, List.getElem_toArray, List.getElem_cons_zero, List.getElem_cons_succ, List.setIfInBounds_toArray, List.set_cons_zero, List.set_cons_succ]
      refine wpAnyY_takeC (v := ?_) [] rv11_13 rv11o_13 (fun _ _ _ h => h) (Or.inl ⟨by kernel_rfl, ?_⟩) hS ?_
      rotate_left
      · intro w' hSw; go_simp; with_reducible rfl
      try simp only [Act.put, List.getElem_toArray, List.getElem_cons_zero, List.getElem_cons_succ, List.setIfInBounds_toArray, List.set_cons_zero, List.set_cons_succ]
      refine wpAnyY_takeC (v := ?_) [] rv11_14 rv11o_14 (fun _ _ _ h => h) (Or.inl ⟨by kernel_rfl, ?_⟩) hS ?_
      rotate_left
      · intro w' hSw; go_simp; with_reducible rfl
      try simp only [Act.put, List.getElem_toArray, List.getElem_cons_zero, List.getElem_cons_succ, List.setIfInBounds_toArray, List.set_cons_zero, List.set_cons_succ]
      refine wpAnyY_oneSW (i := 15) (by kernel_rfl) rv11o_15 (by kernel_rfl) (fun K15 hK15 => ?_)
      go_simp
      refine hK15.out _ _ (hSk _ ga) (fun hS => ?_)
      try simp only [Act.put, List.getElem_toArray, List.getElem_cons_zero, List.getElem_cons_succ, List.setIfInBounds_toArray, List.set_cons_zero, List.set_cons_succ]
      refine wpAnyY_oneW (i := 16) (by kernel_rfl) rv11o_16 (by kernel_rfl) (by kernel_rfl) (fun K16 hK16 => ?_)
      go_simp
      refine hK16.out _ _ ?_
      try simp only [Act.put, List.getElem_toArray, List.getElem_cons_zero, List.getElem_cons_succ, List.setIfInBounds_toArray, List.set_cons_zero, List.set_cons_succ]
      refine wpAnyY_done (by kernel_rfl) ?_ _
      clear hS hSk xq
      have gG := hG.t ga
      have c0w := c0q.keep ga
      have lx := c0w.lt
      have x3 : wc.cell? ⟨w.heap.size + 1, 3, none⟩ = some (.int .i64 (x : Nat)) := c0w.cell 3
      by_cases hfx : fj ≤ x
      · rw [if_pos hfx] at HAJ
        go_wp2
        go_roundw
        case rel => exact ⟨j, by omega, by rw [HFJ.out], by rw [HAJ.out], by go_num, hG.t ga⟩
        case measure => have := HJ.out; simp [intOf]; omega
      · rw [if_neg hfx] at HAJ
        go_wp2
        go_roundw
        case rel => exact ⟨j, by omega, by rw [HFJ.out], by rw [HAJ.out], by go_num, hG.t ga⟩
        case measure => have := HJ.out; simp [intOf]; omega
    · have hji : ¬ (((q + 1 : Nat) : Int)) < N := by omega
      obtain ⟨M, hM⟩ : ∃ M, M = N - 1 := ⟨_, rfl⟩
      have hqM : q = M := by omega
      subst hqM
      have xN : IntKind.i64.wrap ((N : Int) - 1) = (q : Int) := by rw [IntWalk.i64_in _ (by omega)]; omega
      have hMN : (q : Int) < N := by omega
      have xma : IntKind.i64.wrap ((m : Int) + (A : Int)) = ((m + A : Nat) : Int) := by rw [IntWalk.i64_in _ (by omega)]; rfl
      have hho := HHO.out
      have hwa := HWA.out
      have hal := HAL.out q
      rw [← hM] at hho hwa
      have hs1 := HSP.out q (by omega)
      obtain ⟨t, ht⟩ : ∃ t, t = AT q := ⟨_, rfl⟩
      rw [← ht] at hwa hal ⊢
      have hs2 := HSP.out t (by omega)
      have htN : (t : Int) < N := by omega
      obtain ⟨loM, hloM⟩ : ∃ loM, loM = lo q := ⟨_, rfl⟩
      obtain ⟨loA, hloA⟩ : ∃ loA, loA = lo t := ⟨_, rfl⟩
      obtain ⟨hiA, hhiA⟩ : ∃ hiA, hiA = hh t := ⟨_, rfl⟩
      obtain ⟨F, hF⟩ : ∃ F, F = FA q := ⟨_, rfl⟩
      obtain ⟨mA, hmA⟩ : ∃ mA, mA = m + A := ⟨_, rfl⟩
      rw [← hF] at hho hwa ⊢
      rw [← hloM] at hho hs1
      rw [← hloA] at hwa hs2
      rw [← hhiA] at hwa hs2
      rw [← hmA] at hho hwa xma
      have s1 := ((bcellB hG).1 gS _ hgS).trans hs1.1
      have s2 := ((bcellB hG).1 gS _ hgS).trans hs2.1
      have s3 := ((bcellB hG).1 gS _ hgS).trans hs2.2
      have lS := Nat.lt_of_lt_of_le hgS hG.size
      have c0q := c0.keep hG
      have lx := c0q.lt
      have x3 : wo.cell? ⟨w.heap.size + 1, 3, none⟩ = some (.int .i64 (x : Nat)) := c0q.cell 3
      have hSk18 : Hid (∀ W', G wo W' → (Blk W' (w.heap.size + 1) 43 #[.int .i64 (i : Nat), .int .i64 (m : Nat), .int .i64 (A : Nat), .int .i64 (x : Nat)] ∧ W'.cell? ⟨gS, q * 2, none⟩ = some (.int .i64 (loM : Nat)))) := fun W' h => ⟨c0q.keep h, ((bcellB h).1 gS _ lS).trans s1⟩
      have hSk19 : Hid (∀ W', G wo W' → (Blk W' (w.heap.size + 1) 43 #[.int .i64 (i : Nat), .int .i64 (m : Nat), .int .i64 (A : Nat), .int .i64 (x : Nat)] ∧ W'.cell? ⟨gS, t * 2, none⟩ = some (.int .i64 (loA : Nat)) ∧ W'.cell? ⟨gS, t * 2 + 1, none⟩ = some (.int .i64 (hiA : Nat)))) := fun W' h => ⟨c0q.keep h, ((bcellB h).1 gS _ lS).trans s2, ((bcellB h).1 gS _ lS).trans s3⟩
      clear s1 s2 s3 hs1 hs2 hloM hloA hhiA hF hmA ht hal hM hj HLN HFS HAS HFB HP4 HSP HWA HHO HLO HAL
      by_cases hfx : F ≤ x
      · have kq := hho hfx
        have k1 : decide ((loM : Int) ≤ (mA : Nat)) = true := decide_eq_true (by omega)
        have k2 : decide (loM ≤ mA) = true := decide_eq_true kq
        clear hwa hho
        go_upto_region 18 with fail
        clear x3
        refine wp_region_Y (S := fun W' => Blk W' (w.heap.size + 1) 43 #[.int .i64 (i : Nat), .int .i64 (m : Nat), .int .i64 (A : Nat), .int .i64 (x : Nat)] ∧ W'.cell? ⟨gS, q * 2, none⟩ = some (.int .i64 (loM : Nat))) 16 17 rfl (by kernel_rfl) (hSk18.out _ (G.rf _).d) (fun hS => ?_)
        change wpAnyY _ _ opsv18 _ _ _ 17 #[false, false, false, false, false, false, false, false, false, false, false, false, false, false, false, false, false] _ _
        refine wpAnyY_takeC (v := ?_) [] rv18_0 rv18o_0 (fun _ _ _ h => h) (Or.inl ⟨by kernel_rfl, ?_⟩) hS ?_
        rotate_left
        · intro w' hSw; go_simp; with_reducible rfl
        try simp only [Act.put, List.getElem_toArray, List.getElem_cons_zero, List.getElem_cons_succ, List.setIfInBounds_toArray, List.set_cons_zero, List.set_cons_succ]
        refine wpAnyY_takeC (v := ?_) [] rv18_1 rv18o_1 (fun _ _ _ h => h) (Or.inl ⟨by kernel_rfl, ?_⟩) hS ?_
        rotate_left
        · intro w' hSw; have x1 := hSw.1.cell 1; have lx := hSw.1.lt; go_simp; with_reducible rfl
        try simp only [Act.put, List.getElem_toArray, List.getElem_cons_zero, List.getElem_cons_succ, List.setIfInBounds_toArray, List.set_cons_zero, List.set_cons_succ]
        refine wpAnyY_takeC (v := ?_) [] rv18_2 rv18o_2 (fun _ _ _ h => h) (Or.inl ⟨by kernel_rfl, ?_⟩) hS ?_
        rotate_left
        · intro w' hSw; go_simp; with_reducible rfl
        try simp only [Act.put, List.getElem_toArray, List.getElem_cons_zero, List.getElem_cons_succ, List.setIfInBounds_toArray, List.set_cons_zero, List.set_cons_succ]
        refine wpAnyY_takeC (v := ?_) [] rv18_3 rv18o_3 (fun _ _ _ h => h) (Or.inl ⟨by kernel_rfl, ?_⟩) hS ?_
        rotate_left
        · intro w' hSw; have x2 := hSw.1.cell 2; have lx := hSw.1.lt; go_simp; with_reducible rfl
        try simp only [Act.put, List.getElem_toArray, List.getElem_cons_zero, List.getElem_cons_succ, List.setIfInBounds_toArray, List.set_cons_zero, List.set_cons_succ]
        refine wpAnyY_takeC (v := ?_) [] rv18_4 rv18o_4 (fun _ _ _ h => h) (Or.inl ⟨by kernel_rfl, ?_⟩) hS ?_
        rotate_left
        · intro w' hSw; go_simp; with_reducible rfl
        try simp only [Act.put, List.getElem_toArray, List.getElem_cons_zero, List.getElem_cons_succ, List.setIfInBounds_toArray, List.set_cons_zero, List.set_cons_succ]
        refine wpAnyY_takeC (v := ?_) [] rv18_5 rv18o_5 (fun _ _ _ h => h) (Or.inl ⟨by kernel_rfl, ?_⟩) hS ?_
        rotate_left
        · intro w' hSw; go_simp; with_reducible rfl
        try simp only [Act.put, List.getElem_toArray, List.getElem_cons_zero, List.getElem_cons_succ, List.setIfInBounds_toArray, List.set_cons_zero, List.set_cons_succ]
        refine wpAnyY_takeC (v := ?_) [] rv18_6 rv18o_6 (fun _ _ _ h => h) (Or.inl ⟨by kernel_rfl, ?_⟩) hS ?_
        rotate_left
        · intro w' hSw; go_simp; with_reducible rfl
        try simp only [Act.put, List.getElem_toArray, List.getElem_cons_zero, List.getElem_cons_succ, List.setIfInBounds_toArray, List.set_cons_zero, List.set_cons_succ]
        refine wpAnyY_takeC (v := ?_) [] rv18_7 rv18o_7 (fun _ _ _ h => h) (Or.inl ⟨by kernel_rfl, ?_⟩) hS ?_
        rotate_left
        · intro w' hSw; go_simp; with_reducible rfl
        try simp only [Act.put, List.getElem_toArray, List.getElem_cons_zero, List.getElem_cons_succ, List.setIfInBounds_toArray, List.set_cons_zero, List.set_cons_succ]
        refine wpAnyY_takeC (v := ?_) [] rv18_8 rv18o_8 (fun _ _ _ h => h) (Or.inl ⟨by kernel_rfl, ?_⟩) hS ?_
        rotate_left
        · intro w' hSw; go_simp; with_reducible rfl
        try simp only [Act.put, List.getElem_toArray, List.getElem_cons_zero, List.getElem_cons_succ, List.setIfInBounds_toArray, List.set_cons_zero, List.set_cons_succ]
        refine wpAnyY_takeC (v := ?_) [] rv18_9 rv18o_9 (fun _ _ _ h => h) (Or.inl ⟨by kernel_rfl, ?_⟩) hS ?_
        rotate_left
        · intro w' hSw; go_simp; with_reducible rfl
        try simp only [Act.put, List.getElem_toArray, List.getElem_cons_zero, List.getElem_cons_succ, List.setIfInBounds_toArray, List.set_cons_zero, List.set_cons_succ]
        refine wpAnyY_takeC (v := ?_) [] rv18_10 rv18o_10 (fun _ _ _ h => h) (Or.inl ⟨by kernel_rfl, ?_⟩) hS ?_
        rotate_left
        · intro w' hSw; go_simp; with_reducible rfl
        try simp only [Act.put, List.getElem_toArray, List.getElem_cons_zero, List.getElem_cons_succ, List.setIfInBounds_toArray, List.set_cons_zero, List.set_cons_succ]
        refine wpAnyY_takeC (v := ?_) [] rv18_11 rv18o_11 (fun _ _ _ h => h) (Or.inl ⟨by kernel_rfl, ?_⟩) hS ?_
        rotate_left
        · intro w' hSw; have s1 := hSw.2; go_simp; with_reducible rfl
        try simp only [Act.put, List.getElem_toArray, List.getElem_cons_zero, List.getElem_cons_succ, List.setIfInBounds_toArray, List.set_cons_zero, List.set_cons_succ]
        refine wpAnyY_takeC (v := ?_) [] rv18_12 rv18o_12 (fun _ _ _ h => h) (Or.inl ⟨by kernel_rfl, ?_⟩) hS ?_
        rotate_left
        · intro w' hSw; go_simp; with_reducible rfl
        try simp only [Act.put, List.getElem_toArray, List.getElem_cons_zero, List.getElem_cons_succ, List.setIfInBounds_toArray, List.set_cons_zero, List.set_cons_succ]
        refine wpAnyY_takeC (v := ?_) [] rv18_13 rv18o_13 (fun _ _ _ h => h) (Or.inl ⟨by kernel_rfl, ?_⟩) hS ?_
        rotate_left
        · intro w' hSw; go_simp; with_reducible rfl
        try simp only [Act.put, List.getElem_toArray, List.getElem_cons_zero, List.getElem_cons_succ, List.setIfInBounds_toArray, List.set_cons_zero, List.set_cons_succ]
        have ga := (G.rf wo).d
        refine wpAnyY_oneSWC rv18_14 rv18o_14 (by kernel_rfl) (fun K14 hK14 => ?_)
        go_simp
        refine (HWK.out _).mono ?_
        rintro e wc ⟨rfl, hG14⟩
        replace ga := ga.t hG14
        refine hK14.out _ _ (hSk18.out _ ga) (fun hS => ?_)
        try simp only [Act.put, List.getElem_toArray, List.getElem_cons_zero, List.getElem_cons_succ, List.setIfInBounds_toArray, List.set_cons_zero, List.set_cons_succ]
        refine wpAnyY_oneSW (i := 15) (by kernel_rfl) rv18o_15 (by kernel_rfl) (fun K15 hK15 => ?_)
        go_simp
        refine hK15.out _ _ (hSk18.out _ ga) (fun hS => ?_)
        try simp only [Act.put, List.getElem_toArray, List.getElem_cons_zero, List.getElem_cons_succ, List.setIfInBounds_toArray, List.set_cons_zero, List.set_cons_succ]
        refine wpAnyY_oneW (i := 16) (by kernel_rfl) rv18o_16 (by kernel_rfl) (by kernel_rfl) (fun K16 hK16 => ?_)
        go_simp
        refine hK16.out _ _ ?_
        try simp only [Act.put, List.getElem_toArray, List.getElem_cons_zero, List.getElem_cons_succ, List.setIfInBounds_toArray, List.set_cons_zero, List.set_cons_succ]
        refine wpAnyY_done (by kernel_rfl) ?_ _
        clear hS
        go_wp2_with fail
        go_ret
        exact ⟨rfl, gw.t ga⟩
      · have kq := hwa (by omega)
        have k1 : decide ((loA : Int) ≤ (mA : Nat)) = true := decide_eq_true (by omega)
        have k2 : decide (loA ≤ mA) = true := decide_eq_true kq.1
        have k3 : decide ((mA : Int) ≤ (hiA : Nat)) = true := decide_eq_true (by omega)
        have k4 : decide (mA ≤ hiA) = true := decide_eq_true kq.2
        clear hwa hho kq
        go_upto_region 19 with fail
        clear x3
        refine wp_region_Y (S := fun W' => Blk W' (w.heap.size + 1) 43 #[.int .i64 (i : Nat), .int .i64 (m : Nat), .int .i64 (A : Nat), .int .i64 (x : Nat)] ∧ W'.cell? ⟨gS, t * 2, none⟩ = some (.int .i64 (loA : Nat)) ∧ W'.cell? ⟨gS, t * 2 + 1, none⟩ = some (.int .i64 (hiA : Nat))) 27 28 rfl (by kernel_rfl) (hSk19.out _ (G.rf _).d) (fun hS => ?_)
        change wpAnyY _ _ opsv19 _ _ _ 28 #[false, false, false, false, false, false, false, false, false, false, false, false, false, false, false, false, false, false, false, false, false, false, false, false, false, false, false, false] _ _
        refine wpAnyY_takeC (v := ?_) [] rv19_0 rv19o_0 (fun _ _ _ h => h) (Or.inl ⟨by kernel_rfl, ?_⟩) hS ?_
        rotate_left
        · intro w' hSw; go_simp; with_reducible rfl
        try simp only [Act.put, List.getElem_toArray, List.getElem_cons_zero, List.getElem_cons_succ, List.setIfInBounds_toArray, List.set_cons_zero, List.set_cons_succ]
        refine wpAnyY_takeC (v := ?_) [] rv19_1 rv19o_1 (fun _ _ _ h => h) (Or.inl ⟨by kernel_rfl, ?_⟩) hS ?_
        rotate_left
        · intro w' hSw; go_simp; with_reducible rfl
        try simp only [Act.put, List.getElem_toArray, List.getElem_cons_zero, List.getElem_cons_succ, List.setIfInBounds_toArray, List.set_cons_zero, List.set_cons_succ]
        refine wpAnyY_takeC (v := ?_) [] rv19_2 rv19o_2 (fun _ _ _ h => h) (Or.inl ⟨by kernel_rfl, ?_⟩) hS ?_
        rotate_left
        · intro w' hSw; go_simp; with_reducible rfl
        try simp only [Act.put, List.getElem_toArray, List.getElem_cons_zero, List.getElem_cons_succ, List.setIfInBounds_toArray, List.set_cons_zero, List.set_cons_succ]
        refine wpAnyY_takeC (v := ?_) [] rv19_3 rv19o_3 (fun _ _ _ h => h) (Or.inl ⟨by kernel_rfl, ?_⟩) hS ?_
        rotate_left
        · intro w' hSw; go_simp; with_reducible rfl
        try simp only [Act.put, List.getElem_toArray, List.getElem_cons_zero, List.getElem_cons_succ, List.setIfInBounds_toArray, List.set_cons_zero, List.set_cons_succ]
        refine wpAnyY_takeC (v := ?_) [] rv19_4 rv19o_4 (fun _ _ _ h => h) (Or.inl ⟨by kernel_rfl, ?_⟩) hS ?_
        rotate_left
        · intro w' hSw; have s2 := hSw.2.1; go_simp; with_reducible rfl
        try simp only [Act.put, List.getElem_toArray, List.getElem_cons_zero, List.getElem_cons_succ, List.setIfInBounds_toArray, List.set_cons_zero, List.set_cons_succ]
        refine wpAnyY_takeC (v := ?_) [] rv19_5 rv19o_5 (fun _ _ _ h => h) (Or.inl ⟨by kernel_rfl, ?_⟩) hS ?_
        rotate_left
        · intro w' hSw; go_simp; with_reducible rfl
        try simp only [Act.put, List.getElem_toArray, List.getElem_cons_zero, List.getElem_cons_succ, List.setIfInBounds_toArray, List.set_cons_zero, List.set_cons_succ]
        refine wpAnyY_takeC (v := ?_) [] rv19_6 rv19o_6 (fun _ _ _ h => h) (Or.inl ⟨by kernel_rfl, ?_⟩) hS ?_
        rotate_left
        · intro w' hSw; have x1 := hSw.1.cell 1; have lx := hSw.1.lt; go_simp; with_reducible rfl
        try simp only [Act.put, List.getElem_toArray, List.getElem_cons_zero, List.getElem_cons_succ, List.setIfInBounds_toArray, List.set_cons_zero, List.set_cons_succ]
        refine wpAnyY_takeC (v := ?_) [] rv19_7 rv19o_7 (fun _ _ _ h => h) (Or.inl ⟨by kernel_rfl, ?_⟩) hS ?_
        rotate_left
        · intro w' hSw; go_simp; with_reducible rfl
        try simp only [Act.put, List.getElem_toArray, List.getElem_cons_zero, List.getElem_cons_succ, List.setIfInBounds_toArray, List.set_cons_zero, List.set_cons_succ]
        refine wpAnyY_takeC (v := ?_) [] rv19_8 rv19o_8 (fun _ _ _ h => h) (Or.inl ⟨by kernel_rfl, ?_⟩) hS ?_
        rotate_left
        · intro w' hSw; have x2 := hSw.1.cell 2; have lx := hSw.1.lt; go_simp; with_reducible rfl
        try simp only [Act.put, List.getElem_toArray, List.getElem_cons_zero, List.getElem_cons_succ, List.setIfInBounds_toArray, List.set_cons_zero, List.set_cons_succ]
        refine wpAnyY_takeC (v := ?_) [] rv19_9 rv19o_9 (fun _ _ _ h => h) (Or.inl ⟨by kernel_rfl, ?_⟩) hS ?_
        rotate_left
        · intro w' hSw; go_simp; with_reducible rfl
        try simp only [Act.put, List.getElem_toArray, List.getElem_cons_zero, List.getElem_cons_succ, List.setIfInBounds_toArray, List.set_cons_zero, List.set_cons_succ]
        refine wpAnyY_takeC (v := ?_) [] rv19_10 rv19o_10 (fun _ _ _ h => h) (Or.inl ⟨by kernel_rfl, ?_⟩) hS ?_
        rotate_left
        · intro w' hSw; go_simp; with_reducible rfl
        try simp only [Act.put, List.getElem_toArray, List.getElem_cons_zero, List.getElem_cons_succ, List.setIfInBounds_toArray, List.set_cons_zero, List.set_cons_succ]
        refine wpAnyY_takeC (v := ?_) [] rv19_11 rv19o_11 (fun _ _ _ h => h) (Or.inl ⟨by kernel_rfl, ?_⟩) hS ?_
        rotate_left
        · intro w' hSw; go_simp; with_reducible rfl
        try simp only [Act.put, List.getElem_toArray, List.getElem_cons_zero, List.getElem_cons_succ, List.setIfInBounds_toArray, List.set_cons_zero, List.set_cons_succ]
        refine wpAnyY_takeC (v := ?_) [] rv19_12 rv19o_12 (fun _ _ _ h => h) (Or.inl ⟨by kernel_rfl, ?_⟩) hS ?_
        rotate_left
        · intro w' hSw; go_simp; with_reducible rfl
        try simp only [Act.put, List.getElem_toArray, List.getElem_cons_zero, List.getElem_cons_succ, List.setIfInBounds_toArray, List.set_cons_zero, List.set_cons_succ]
        refine wpAnyY_takeC (v := ?_) [] rv19_13 rv19o_13 (fun _ _ _ h => h) (Or.inl ⟨by kernel_rfl, ?_⟩) hS ?_
        rotate_left
        · intro w' hSw; have x1 := hSw.1.cell 1; have lx := hSw.1.lt; go_simp; with_reducible rfl
        try simp only [Act.put, List.getElem_toArray, List.getElem_cons_zero, List.getElem_cons_succ, List.setIfInBounds_toArray, List.set_cons_zero, List.set_cons_succ]
        refine wpAnyY_takeC (v := ?_) [] rv19_14 rv19o_14 (fun _ _ _ h => h) (Or.inl ⟨by kernel_rfl, ?_⟩) hS ?_
        rotate_left
        · intro w' hSw; go_simp; with_reducible rfl
        try simp only [Act.put, List.getElem_toArray, List.getElem_cons_zero, List.getElem_cons_succ, List.setIfInBounds_toArray, List.set_cons_zero, List.set_cons_succ]
        refine wpAnyY_takeC (v := ?_) [] rv19_15 rv19o_15 (fun _ _ _ h => h) (Or.inl ⟨by kernel_rfl, ?_⟩) hS ?_
        rotate_left
        · intro w' hSw; have x2 := hSw.1.cell 2; have lx := hSw.1.lt; go_simp; with_reducible rfl
        try simp only [Act.put, List.getElem_toArray, List.getElem_cons_zero, List.getElem_cons_succ, List.setIfInBounds_toArray, List.set_cons_zero, List.set_cons_succ]
        refine wpAnyY_takeC (v := ?_) [] rv19_16 rv19o_16 (fun _ _ _ h => h) (Or.inl ⟨by kernel_rfl, ?_⟩) hS ?_
        rotate_left
        · intro w' hSw; go_simp; with_reducible rfl
        try simp only [Act.put, List.getElem_toArray, List.getElem_cons_zero, List.getElem_cons_succ, List.setIfInBounds_toArray, List.set_cons_zero, List.set_cons_succ]
        refine wpAnyY_takeC (v := ?_) [] rv19_17 rv19o_17 (fun _ _ _ h => h) (Or.inl ⟨by kernel_rfl, ?_⟩) hS ?_
        rotate_left
        · intro w' hSw; go_simp; with_reducible rfl
        try simp only [Act.put, List.getElem_toArray, List.getElem_cons_zero, List.getElem_cons_succ, List.setIfInBounds_toArray, List.set_cons_zero, List.set_cons_succ]
        refine wpAnyY_takeC (v := ?_) [] rv19_18 rv19o_18 (fun _ _ _ h => h) (Or.inl ⟨by kernel_rfl, ?_⟩) hS ?_
        rotate_left
        · intro w' hSw; go_simp; with_reducible rfl
        try simp only [Act.put, List.getElem_toArray, List.getElem_cons_zero, List.getElem_cons_succ, List.setIfInBounds_toArray, List.set_cons_zero, List.set_cons_succ]
        refine wpAnyY_takeC (v := ?_) [] rv19_19 rv19o_19 (fun _ _ _ h => h) (Or.inl ⟨by kernel_rfl, ?_⟩) hS ?_
        rotate_left
        · intro w' hSw; go_simp; with_reducible rfl
        try simp only [Act.put, List.getElem_toArray, List.getElem_cons_zero, List.getElem_cons_succ, List.setIfInBounds_toArray, List.set_cons_zero, List.set_cons_succ]
        refine wpAnyY_takeC (v := ?_) [] rv19_20 rv19o_20 (fun _ _ _ h => h) (Or.inl ⟨by kernel_rfl, ?_⟩) hS ?_
        rotate_left
        · intro w' hSw; go_simp; with_reducible rfl
        try simp only [Act.put, List.getElem_toArray, List.getElem_cons_zero, List.getElem_cons_succ, List.setIfInBounds_toArray, List.set_cons_zero, List.set_cons_succ]
        refine wpAnyY_takeC (v := ?_) [] rv19_21 rv19o_21 (fun _ _ _ h => h) (Or.inl ⟨by kernel_rfl, ?_⟩) hS ?_
        rotate_left
        · intro w' hSw; have s3 := hSw.2.2; go_simp; with_reducible rfl
        try simp only [Act.put, List.getElem_toArray, List.getElem_cons_zero, List.getElem_cons_succ, List.setIfInBounds_toArray, List.set_cons_zero, List.set_cons_succ]
        refine wpAnyY_takeC (v := ?_) [] rv19_22 rv19o_22 (fun _ _ _ h => h) (Or.inl ⟨by kernel_rfl, ?_⟩) hS ?_
        rotate_left
        · intro w' hSw; go_simp; with_reducible rfl
        try simp only [Act.put, List.getElem_toArray, List.getElem_cons_zero, List.getElem_cons_succ, List.setIfInBounds_toArray, List.set_cons_zero, List.set_cons_succ]
        refine wpAnyY_takeC (v := ?_) [] rv19_23 rv19o_23 (fun _ _ _ h => h) (Or.inl ⟨by kernel_rfl, ?_⟩) hS ?_
        rotate_left
        · intro w' hSw; go_simp; with_reducible rfl
        try simp only [Act.put, List.getElem_toArray, List.getElem_cons_zero, List.getElem_cons_succ, List.setIfInBounds_toArray, List.set_cons_zero, List.set_cons_succ]
        refine wpAnyY_takeC (v := ?_) [] rv19_24 rv19o_24 (fun _ _ _ h => h) (Or.inl ⟨by kernel_rfl, ?_⟩) hS ?_
        rotate_left
        · intro w' hSw; go_simp; with_reducible rfl
        try simp only [Act.put, List.getElem_toArray, List.getElem_cons_zero, List.getElem_cons_succ, List.setIfInBounds_toArray, List.set_cons_zero, List.set_cons_succ]
        have ga := (G.rf wo).d
        refine wpAnyY_oneSWC rv19_25 rv19o_25 (by kernel_rfl) (fun K25 hK25 => ?_)
        go_simp
        refine (HWK.out _).mono ?_
        rintro e wc ⟨rfl, hG25⟩
        replace ga := ga.t hG25
        refine hK25.out _ _ (hSk19.out _ ga) (fun hS => ?_)
        try simp only [Act.put, List.getElem_toArray, List.getElem_cons_zero, List.getElem_cons_succ, List.setIfInBounds_toArray, List.set_cons_zero, List.set_cons_succ]
        refine wpAnyY_oneSW (i := 26) (by kernel_rfl) rv19o_26 (by kernel_rfl) (fun K26 hK26 => ?_)
        go_simp
        refine hK26.out _ _ (hSk19.out _ ga) (fun hS => ?_)
        try simp only [Act.put, List.getElem_toArray, List.getElem_cons_zero, List.getElem_cons_succ, List.setIfInBounds_toArray, List.set_cons_zero, List.set_cons_succ]
        refine wpAnyY_oneW (i := 27) (by kernel_rfl) rv19o_27 (by kernel_rfl) (by kernel_rfl) (fun K27 hK27 => ?_)
        go_simp
        refine hK27.out _ _ ?_
        try simp only [Act.put, List.getElem_toArray, List.getElem_cons_zero, List.getElem_cons_succ, List.setIfInBounds_toArray, List.set_cons_zero, List.set_cons_succ]
        refine wpAnyY_done (by kernel_rfl) ?_ _
        clear hS
        go_wp2_with fail
        go_ret
        exact ⟨rfl, gw.t ga⟩
end Go.Proofs.Ytcekdljjmfkacaa
