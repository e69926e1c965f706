import Derived.Test.YtpjfdfddcnocpaaHb
import Derived.Maps.AppendAt
set_option linter.unusedSimpArgs false
set_option linter.unusedVariables false
namespace Go.Proofs.Ytpjfdfddcnocpaa
open Go.RowKit
attribute [local go_sem] Oper.semAt_some

set_option maxHeartbeats 2000000 in
theorem in_any (a : Option Addr) (l : List Int) (c : Nat) (n : Int) (w : World) (h : IntsAt w a l) (hl : l.length ≤ 1000000) :
    Calls Try.prog 27 #[.slice a l.length c, .int .i64 n] w fun e w' => e = .returned (.bool (l.any (· == n))) ∧ G w w' := by
  go_enter Try.func27, Try.ntmps27
  go_wp2
  go_loopw [5] (fun i wr => ∃ k : Nat, k ≤ l.length ∧ i = .int .i64 k ∧ Hid ((l.take k).any (· == n) = false) ∧ wr = w) (fun i _ => l.length - (intOf i).toNat)
  case atStart => exact ⟨0, Nat.zero_le _, rfl, rfl, rfl⟩
  case round =>
    obtain ⟨k, hk, rfl, hno, rfl⟩ := hrel
    by_cases hlt : k < l.length
    · rcases h with rfl | ⟨b, off, rfl, hb, hcell⟩
      · simp at hlt
      have hki : (k : Int) < l.length := by omega
      have hc := hcell k hlt
      have hs : (l.take (k + 1)).any (· == n) = ((l.take k).any (· == n) || (l.getD k 0 == n)) := by
        rw [List.take_succ_eq_append_getElem hlt, List.any_append]
        simp [hlt]
      rw [hno.out, Bool.false_or] at hs
      have hm : (l.getD k 0) ∈ l := by simp [hlt]
      generalize l.getD k 0 = x at *
      have HS := Lib.hid hs
      have HM := Lib.hid hm
      clear hs hm hcell
      by_cases he : x = n
      · have hfin : Hid (l.any (· == n) = true) := List.any_eq_true.2 ⟨x, HM.out, by simp [he]⟩
        have heb : (x == n) = true := by simp [he]
        clear he
        go_wp2
        go_ret
        exact ⟨by rw [hfin.out]; rfl, G.rf _⟩
      · have heb : (x == n) = false := by simp [he]
        rw [heb] at HS
        clear he
        go_wp2
        go_roundw
        case rel => exact ⟨k + 1, by omega, by go_num, HS, by first | rfl | trivial⟩
        case measure => simp [intOf]; omega
    · have hki : ¬ (k : Int) < l.length := by omega
      have : l.take k = l := List.take_of_length_le (by omega)
      rw [this] at hno
      clear this
      go_wp2
      go_ret
      exact ⟨by rw [hno.out]; rfl, G.rf _⟩

/-- two operations may come up, in any order: S is told behind each -/
theorem wpAnyY_twoSW {P : Program} {ops : Array Oper} {md : Region.Mode} {Q : Exit → Act → World → Prop} {S : World → Prop} {z : Nat} {i j : Nat} {oi oj : Oper} {fuel : Nat} {l : Array Bool} {a : Act} {w : World} (hr : Region.ready md ops l = [i, j]) (hi : ops[i]? = some oi) (hj : ops[j]? = some oj)
    (hwi : Region.wanted oi (yielded ops a.tmps) = true) (hwj : Region.wanted oj (yielded ops a.tmps) = true)
    (h1 : ∀ K' : Act → World → Prop, Shut (∀ a w, S w → (S w → wpAnyY P md ops Q S z fuel (l.setIfInBounds i true) a w) → K' a w) → Oper.wp P oi a w K' Q)
    (h2 : ∀ K' : Act → World → Prop, Shut (∀ a w, S w → (S w → wpAnyY P md ops Q S z fuel (l.setIfInBounds j true) a w) → K' a w) → Oper.wp P oj a w K' Q) :
    wpAnyY P md ops Q S z (fuel + 1) l a w := by
  refine ⟨fun h0 => (by rw [hr] at h0; cases h0), fun k hk => ?_⟩
  rw [hr] at hk
  have hk2 : k = i ∨ k = j := by simpa using hk
  rcases hk2 with rfl | rfl
  · exact wpOp_step hi (fun K' hK => by rw [if_pos hwi]; exact h1 K' (fun a w hS hW => hK a w ⟨fun _ => hS, hW hS⟩))
  · exact wpOp_step hj (fun K' hK => by rw [if_pos hwj]; exact h2 K' (fun a w hS hW => hK a w ⟨fun _ => hS, hW hS⟩))
/-- what Within says of a loft: 1 surely, 2 maybe, 0 neither -/
def wk (o : Nat) (reach : Int) (lo hi : Nat → Nat) (j : Nat) : Nat := if j = o then 0 else if (hi j : Int) ≤ reach then 1 else if (lo j : Int) ≤ reach then 2 else 0
def selW (f : Nat → Nat) (c k : Nat) : List Nat := (List.range k).filter fun j => f j == c
theorem selW_succ (f : Nat → Nat) (c k : Nat) : selW f c (k + 1) = if f k = c then selW f c k ++ [k] else selW f c k := by
  unfold selW
  rw [List.range_succ, List.filter_append, List.filter_cons]
  by_cases h : f k = c <;> simp [h]
theorem selW_len (f : Nat → Nat) (c k : Nat) : (selW f c k).length ≤ k := by
  have := List.length_filter_le (fun j => f j == c) (List.range k)
  unfold selW
  rw [List.length_range] at this
  exact this
theorem selW_two (f : Nat → Nat) (k : Nat) : (selW f 1 k).length + (selW f 2 k).length ≤ k := by
  induction k with
  | zero => simp [selW]
  | succ k ih =>
    rw [selW_succ, selW_succ]
    by_cases h1 : f k = 1
    · rw [if_pos h1, if_neg (by omega), List.length_append]; simp; omega
    · rw [if_neg h1]
      split
      · rw [List.length_append]; simp; omega
      · omega
theorem mem_selW {f : Nat → Nat} {c k j : Nat} : j ∈ selW f c k ↔ j < k ∧ f j = c := by
  unfold selW
  rw [List.mem_filter]
  simp

def WithinPost (w : World) (A B : List Nat) (e : Ending) (w' : World) : Prop := ∃ v1 v2, e = .returned (.tuple #[v1, v2, .int .i64 0]) ∧ w'.ownsRow w.heap.size 3 1 v1 A.length (natV A) ∧ w'.ownsRow w.heap.size 3 1 v2 B.length (natV B) ∧ G w w'
def apart (v1 v2 : Value) : Prop := ∀ g, v1.ownBlock = some g → v2.ownBlock = some g → False

theorem res26 (tmps : Array Value) (w : World) (a b c : Value) (h6 : tmps.getD 6 undef = a) (h7 : tmps.getD 7 undef = b) (h8 : tmps.getD 8 undef = c) :
    (results Try.f26 tmps).run Try.prog w = .ok (.tuple #[a, b, c]) w := by
  have hr : Try.f26.results = #[.tmp 6, .tmp 7, .tmp 8] := rfl
  have h6' : tmps[6]?.getD undef = a := by simpa using h6
  have h7' : tmps[7]?.getD undef = b := by simpa using h7
  have h8' : tmps[8]?.getD undef = c := by simpa using h8
  simp only [results, hr]
  go_simp
theorem apart.symm {v1 v2 : Value} (h : apart v1 v2) : apart v2 v1 := fun g h1 h2 => h g h2 h1
theorem within_grow {w2 WX w4 : World} {v1 v1' v2 : Value} {n1 n2 z : Nat} {xs1 xs2 : List Value} (hG : G w2 WX) (h1 : WX.ownsRow w2.heap.size 3 1 v1 n1 xs1) (h2 : WX.ownsRow w2.heap.size 3 1 v2 n2 xs2) (hap : apart v1 v2)
    (hg : WX.grownBy w4 v1.ownBlock) (hz : z = WX.heap.size) (hat : v1'.ownBlock = v1.ownBlock ∨ v1'.ownBlock = some z) :
    w4.ownsRow w2.heap.size 3 1 v2 n2 xs2 ∧ apart v1' v2 ∧ G w2 w4 := by
  refine ⟨h2.kept hg ?_, fun g e1 e2 => ?_, (Fr.grown (G.fr (R := fun _ => False) hG) hg (fun g e => .inr (own_base h1 e))).toG (fun _ _ h => h)⟩
  · cases hv : v2.ownBlock with
    | none => exact .inl rfl
    | some g => exact .inr (fun e => hap g e.symm hv)
  · rcases hat with e | e
    · exact hap g (e ▸ e1) e2
    · rw [e] at e1
      obtain rfl : z = g := by injection e1
      rcases h2.2 with ⟨rfl, _⟩ | ⟨g', cap, cur, rfl, _, hb, _⟩
      · cases e2
      · have h3 := (Array.getElem?_eq_some_iff.1 hb).1
        have e3 : g' = z := by injection e2
        omega

section
variable (north wrong reach : Int) (cols lofts o : Nat) (east : List Int) (svs : List Sv) (ea sa : Option Addr) (ec sc : Nat) (w : World)
set_option maxRecDepth 100000 in
set_option maxHeartbeats 4000000 in
theorem Within_ok (he : IntsAt w ea east) (hs : SvsAt w sa svs) (hk : checkE north cols east lofts svs wrong = 0) (hw : ¬ wrong < fewSum north cols east svs lofts) (ho : o < lofts) (hr : 0 ≤ reach ∧ reach ≤ 100000000)
    (lo hi : Nat → Nat) (hlo : ∀ j, j < lofts → lo j = rnd 0 (loQ north east o j (truthsOf (spotsOf north cols east svs) [o, j] (wrong - fewSum north cols east svs lofts))).toNat)
    (hhi : ∀ j, j < lofts → hi j = rnd 0 (hiQ north east o j (truthsOf (spotsOf north cols east svs) [o, j] (wrong - fewSum north cols east svs lofts))).toNat) :
    Calls Try.prog 26 #[.agg #[.int .i64 north, .int .i64 cols, .slice ea east.length ec, .int .i64 lofts, .slice sa svs.length sc, .int .i64 wrong], .int .i64 o, .int .i64 reach] w
      (WithinPost w (selW (wk o reach lo hi) 1 lofts) (selW (wk o reach lo hi) 2 lofts)) := by
  obtain ⟨hv, hl2, hso⟩ := checkE_zero hk
  have hvb := vm_bounds hv
  have hQ := fun (W : World) (hW : G w W) (g : Nat) (hg : Blk W g 3 #[.int .i64 o]) => question_ok north wrong cols lofts east svs ea sa ec sc true [(o : Int)] (some ⟨g, 0, none⟩) 1 W (he.below hW) (hs.below hW)
    (.inr ⟨g, 0, rfl, hg.lt, fun k hk2 => by
      rw [hg.cell]
      match k, hk2 with
      | 0, _ => rfl⟩) (by simp) hk
  have hD : (true && ([(o : Int)].all fun n => isInB n 0 (lofts - 1))) = true := by simp [isInB]; omega
  rw [hD] at hQ
  have HQ := Lib.hid hQ
  have hdi := fun (W : World) (hW : G w W) (O j : Nat) (hj : j < lofts) (h1 : Opened W O north wrong cols lofts (.slice ea east.length ec) (.slice sa svs.length sc) (fewSum north cols east svs lofts) (spotsOf north cols east svs)) =>
    distance_any north wrong cols lofts o j east svs ea sa ec sc O (.func (.func 63) #[] #[]) 0 W (he.below hW) hv hl2 h1 ho hj ⟨63, #[], rfl, enters_of Try.func63 (by kernel_rfl) rfl, fun W n hW h0 h1 => down_any n W ⟨h0, h1⟩⟩ (truths_ne (ls := [o, j]) hk hw)
  have HDI : Hid (∀ (W : World), G w W → ∀ (O j : Nat), j < lofts → Opened W O north wrong cols lofts (.slice ea east.length ec) (.slice sa svs.length sc) (fewSum north cols east svs lofts) (spotsOf north cols east svs) →
      Calls Try.prog 59 #[.pointer (some ⟨O, 0, none⟩), .int .i64 o, .int .i64 j, .func (.func 63) #[] #[]] W fun e w' => e = .returned (.agg #[.int .i64 (lo j : Nat), .int .i64 (hi j : Nat)]) ∧ G W w') := fun W hW O j hj h1 => by
    rw [hlo j hj, hhi j hj]
    exact hdi W hW O j hj h1
  have hrb : isInB reach 0 100000000 = true := by simp [isInB]; omega
  obtain ⟨f, hf⟩ : ∃ f, f = wk o reach lo hi := ⟨_, rfl⟩
  rw [← hf]
  have HF : Hid (∀ j, f j = wk o reach lo hi j) := fun j => by rw [hf]
  have HP : Hid (∀ w' v1 v2, w'.ownsRow w.heap.size 3 1 v1 (selW f 1 lofts).length (natV (selW f 1 lofts)) → w'.ownsRow w.heap.size 3 1 v2 (selW f 2 lofts).length (natV (selW f 2 lofts)) → G w w' → WithinPost w (selW f 1 lofts) (selW f 2 lofts) (.returned (.tuple #[v1, v2, .int .i64 0])) w') := fun w' v1 v2 h1 h2 h3 => ⟨v1, v2, rfl, h1, h2, h3⟩
  generalize WithinPost w (selW f 1 lofts) (selW f 2 lofts) = PP at *
  have hl8 : lofts ≤ 8 := by omega
  clear hQ hdi hlo hhi hf hv hso hD hk hvb
  have hG1 : G w (w.alloc (.cells #[.int .i64 north, .int .i64 cols, .slice ea east.length ec, .int .i64 lofts, .slice sa svs.length sc, .int .i64 wrong] 25)) := (G.rf _).a _
  have B0 := Blk.new w 25 #[.int .i64 north, .int .i64 cols, .slice ea east.length ec, .int .i64 lofts, .slice sa svs.length sc, .int .i64 wrong]
  have m0 := B0.cell 0
  have m1 := B0.cell 1
  have m2 := B0.cell 2
  have m3 := B0.cell 3
  have m4 := B0.cell 4
  have m5 := B0.cell 5
  have l0 := B0.lt
  go_enter Try.func26, Try.ntmps26
  go_wp2_with fail
  clear m0 m1 m2 m3 m4 m5
  refine wp_region_Y (S := fun W' => Blk W' w.heap.size 25 #[.int .i64 north, .int .i64 cols, .slice ea east.length ec, .int .i64 lofts, .slice sa svs.length sc, .int .i64 wrong]) 11 12 rfl (by kernel_rfl) (B0.keep (G.rf _).d) (fun hS => ?_)
  have hGd := hG1.d
  have Bd := B0.keep (G.rf _).d
  refine wpAnyY_take (i := 0) (v := ?_) rfl (by kernel_rfl) (by kernel_rfl) (by kernel_rfl) (by kernel_rfl) (fun _ _ _ h => h) (Or.inl ⟨by kernel_rfl, ?_⟩) (by assumption) ?_
  rotate_left
  · intro w' hSw; have i0 := hSw.cell 0; have i1 := hSw.cell 1; have i2 := hSw.cell 2; have i3 := hSw.cell 3; have i4 := hSw.cell 4; have i5 := hSw.cell 5; go_simp; with_reducible rfl
  try simp only [Act.put, List.setIfInBounds_toArray, List.set_cons_zero, List.set_cons_succ]
  refine wpAnyY_take (i := 1) (v := ?_) rfl (by kernel_rfl) (by kernel_rfl) (by kernel_rfl) (by kernel_rfl) (fun _ _ _ h => h) (Or.inl ⟨by kernel_rfl, ?_⟩) (by assumption) ?_
  rotate_left
  · intro w' hSw; go_simp; with_reducible rfl
  try simp only [Act.put, List.setIfInBounds_toArray, List.set_cons_zero, List.set_cons_succ]
  refine wpAnyY_take (i := 2) (v := ?_) rfl (by kernel_rfl) (by kernel_rfl) (by kernel_rfl) (by kernel_rfl) (fun _ _ _ h => h) (Or.inl ⟨by kernel_rfl, ?_⟩) (by assumption) ?_
  rotate_left
  · intro w' hSw; go_simp; with_reducible rfl
  try simp only [Act.put, List.setIfInBounds_toArray, List.set_cons_zero, List.set_cons_succ]
  refine wpAnyY_take (i := 4) (v := ?_) rfl (by kernel_rfl) (by kernel_rfl) (by kernel_rfl) (by kernel_rfl) (fun _ _ _ h => h) (Or.inl ⟨by kernel_rfl, ?_⟩) (by assumption) ?_
  rotate_left
  · intro w' hSw; go_simp; with_reducible rfl
  try simp only [Act.put, List.setIfInBounds_toArray, List.set_cons_zero, List.set_cons_succ]
  refine wpAnyY_twoSW (i := 3) (j := 5) (by kernel_rfl) rfl rfl (by kernel_rfl) (by kernel_rfl) (fun K3 hK3 => ?_) (fun K5 hK5 => ?_)
  · go_simp
    refine (isIn_any _ _ _ _).mono ?_
    rw [hrb]
    rintro e wa ⟨rfl, hGa⟩
    refine hK3.out _ _ (Bd.keep hGa) (fun hS => ?_)
    try simp only [Act.put, List.setIfInBounds_toArray, List.set_cons_zero, List.set_cons_succ]
    refine wpAnyY_oneSW (i := 5) (by kernel_rfl) rfl (by kernel_rfl) (fun K5 hK5 => ?_)
    go_simp
    refine hK5.out _ _ ((Bd.keep hGa).alloc _) (fun hS => ?_)
    try simp only [Act.put, List.setIfInBounds_toArray, List.set_cons_zero, List.set_cons_succ]
    have hGb : G w (wa.alloc (.cells #[.int .i64 o] 3)) := (hGd.t hGa).a _
    have bg : Blk (wa.alloc (.cells #[.int .i64 o] 3)) wa.heap.size 3 #[.int .i64 o] := Blk.new _ _ _
    have Bb := (Bd.keep hGa).alloc (.cells #[.int .i64 o] 3)
    clear hGa hK3 hK5
    generalize hwb : wa.alloc (.cells #[.int .i64 o] 3) = wb at *
    refine wpAnyY_oneSW (i := 6) (by kernel_rfl) rfl (by kernel_rfl) (fun K6 hK6 => ?_)
    go_simp
    refine (HQ.out _ hGb _ bg).mono ?_
    rintro e w2 ⟨hGx, hp⟩
    rw [if_neg (by simp), if_neg (by omega)] at hp
    obtain ⟨O, hOl, rfl, hOp⟩ := hp
    refine hK6.out _ _ (Bb.keep hGx) (fun hS => ?_)
    try simp only [Act.put, List.setIfInBounds_toArray, List.set_cons_zero, List.set_cons_succ]
    refine wpAnyY_take (i := 7) (v := ?_) rfl (by kernel_rfl) (by kernel_rfl) (by kernel_rfl) (by kernel_rfl) (fun _ _ _ h => h) (Or.inl ⟨by kernel_rfl, ?_⟩) (by assumption) ?_
    rotate_left
    · intro w' hSw; go_simp; with_reducible rfl
    try simp only [Act.put, List.setIfInBounds_toArray, List.set_cons_zero, List.set_cons_succ]
    refine wpAnyY_take (i := 8) (v := ?_) rfl (by kernel_rfl) (by kernel_rfl) (by kernel_rfl) (by kernel_rfl) (fun _ _ _ h => h) (Or.inl ⟨by kernel_rfl, ?_⟩) (by assumption) ?_
    rotate_left
    · intro w' hSw; go_simp; with_reducible rfl
    try simp only [Act.put, List.setIfInBounds_toArray, List.set_cons_zero, List.set_cons_succ]
    refine wpAnyY_take (i := 9) (v := ?_) rfl (by kernel_rfl) (by kernel_rfl) (by kernel_rfl) (by kernel_rfl) (fun _ _ _ h => h) (Or.inl ⟨by kernel_rfl, ?_⟩) (by assumption) ?_
    rotate_left
    · intro w' hSw; go_simp; with_reducible rfl
    try simp only [Act.put, List.setIfInBounds_toArray, List.set_cons_zero, List.set_cons_succ]
    refine wpAnyY_take (i := 10) (v := ?_) rfl (by kernel_rfl) (by kernel_rfl) (by kernel_rfl) (by kernel_rfl) (fun _ _ _ h => h) (Or.inl ⟨by kernel_rfl, ?_⟩) (by assumption) ?_
    rotate_left
    · intro w' hSw; go_simp; with_reducible rfl
    try simp only [Act.put, List.setIfInBounds_toArray, List.set_cons_zero, List.set_cons_succ]
    refine wpAnyY_oneW (i := 11) (by kernel_rfl) rfl (by kernel_rfl) (by kernel_rfl) (fun K11 hK11 => ?_)
    go_simp
    refine hK11.out _ _ ?_
    try simp only [Act.put, List.setIfInBounds_toArray, List.set_cons_zero, List.set_cons_succ]
    refine wpAnyY_done (by kernel_rfl) ?_ _
    have hG2 := hGb.t hGx
    have b2 := Bb.keep hGx
    have m3 := b2.cell 3
    have hOp := hOp
    have lb := b2.lt
    clear hS Bb hGx bg hGb Bd hGd HQ hK6 hK11 B0 hG1 l0
    go_wp2
    obtain ⟨i0, hi0, hz0, hz1, hz2⟩ := info_parts info3
    go_loopw [6, 7, 27] (fun s m i wr => ∃ k : Nat, k ≤ lofts ∧ i = .int .i64 k ∧ wr.ownsRow w2.heap.size 3 1 s (selW f 1 k).length (natV (selW f 1 k)) ∧ wr.ownsRow w2.heap.size 3 1 m (selW f 2 k).length (natV (selW f 2 k)) ∧ Hid (apart s m) ∧ G w2 wr) (fun _ _ i _ => lofts - (intOf i).toNat)
    case atStart => exact ⟨0, Nat.zero_le _, rfl, World.ownsRow_nil _ _ _ _, World.ownsRow_nil _ _ _ _, (fun g h _ => by cases h), G.rf _⟩
    case round =>
      obtain ⟨k, hk, rfl, hown1, hown2, hap, hGr⟩ := hrel
      have HO1 := Lib.hid hown1
      have HO2 := Lib.hid hown2
      clear hown1 hown2
      have hl1 := selW_len f 1 k
      have hl2 := selW_len f 2 k
      by_cases hlt : k < lofts
      · have hki : (k : Int) < lofts := by omega
        have hfk := HF.out k
        have hs1 := selW_succ f 1 k
        have hs2 := selW_succ f 2 k
        by_cases hko : k = o
        · have hkob : ((k : Int) == o) = true := by simp [hko]
          have hf0 : f k = 0 := by rw [hfk]; unfold wk; rw [if_pos hko]
          rw [hf0, if_neg (by omega)] at hs1 hs2
          have HS1 := Lib.hid hs1
          have HS2 := Lib.hid hs2
          clear hs1 hs2 hfk hf0 hko
          go_wp2
          go_roundw
          case rel => exact ⟨k + 1, by omega, by go_num, by rw [HS1.out]; exact HO1.out, by rw [HS2.out]; exact HO2.out, hap, hGr⟩
          case measure => simp [intOf]; omega
        · have hkob : ((k : Int) == o) = false := by simp; omega
          have HD := Lib.hid (fun (W : World) (hW : G wr W) => HDI.out W (hG2.t (hGr.t hW)) O k hlt (by obtain ⟨slv, h1, h2⟩ := hOp; exact ⟨slv, h1.keep (hGr.t hW), fun j hj => (h2 j hj).of (fun g cur hb => hb.keep (hGr.t hW))⟩))
          by_cases h1 : (hi k : Int) ≤ reach
          · have hf1 : f k = 1 := by rw [hfk]; unfold wk; rw [if_neg hko, if_pos h1]
            rw [hf1] at hs1 hs2
            rw [if_pos rfl] at hs1
            rw [if_neg (by omega)] at hs2
            have HS1 := Lib.hid hs1
            have HS2 := Lib.hid hs2
            clear hs1 hs2 hfk hf1 hko
            go_wp2_with (first | (go_at_call 59; refine (HD.out _ (G.rf _)).mono ?_; rintro e w3 ⟨rfl, hG3⟩) | (at_builtin; refine wpList_append_own_at _ rfl _ _ 22 rfl w2.heap.size 3 i0 (.int .i64 0) 1 8 Try.underlying22 hi0 hz0 hz1 hz2 rfl (by decide) _ (selW f 1 k).length (natV (selW f 1 k)) rfl ?hown ⟨_, 0, none⟩ 1 1 [.int .i64 k] rfl rfl ?hcell (by simp [Value.oneCell']) (by unfold maxLen; omega) (by omega) ?hbase ?hrest))
            case hown => exact own_G (own_G HO1.out hG3) (((G.rf _).a _).a _)
            case hcell =>
              have hh := cell_one_new (w3.alloc (.cells #[.int .i64 (lo k : Nat), .int .i64 (hi k : Nat)] 46)) 3 (.int .i64 k)
              rw [show (w3.alloc (.cells #[.int .i64 (lo k : Nat), .int .i64 (hi k : Nat)] 46)).heap.size = w3.heap.size + 1 by simp] at hh
              exact hh
            case hbase => exact (((hGr.t hG3).a _).a _).size
            case hrest =>
              intro v' w4 hown' hg4 hnil4 hat4
              have gX : G w3 ((w3.alloc (.cells #[.int .i64 (lo k : Nat), .int .i64 (hi k : Nat)] 46)).alloc (.cells #[.int .i64 k] 3)) := ((G.rf _).a _).a _
              obtain ⟨y1, y2, y3⟩ := within_grow ((hGr.t hG3).t gX) (own_G (own_G HO1.out hG3) gX) (own_G (own_G HO2.out hG3) gX) hap hg4 (by simp) hat4
              have HN := Lib.hid hown'
              have HY1 := Lib.hid y1
              have HY2 := Lib.hid y2
              have HY3 := Lib.hid y3
              clear hown' hg4 hnil4 hat4 y1 y2 y3 gX
              go_wp2
              go_roundw
              case rel => exact ⟨k + 1, by omega, by go_num, by rw [HS1.out]; simpa [natV] using HN.out, by rw [HS2.out]; exact HY1.out, HY2.out, HY3.out⟩
              case measure => simp [intOf]; omega
          · by_cases h2 : (lo k : Int) ≤ reach
            · have hf1 : f k = 2 := by rw [hfk]; unfold wk; rw [if_neg hko, if_neg h1, if_pos h2]
              rw [hf1] at hs1 hs2
              rw [if_neg (by omega)] at hs1
              rw [if_pos rfl] at hs2
              have HS1 := Lib.hid hs1
              have HS2 := Lib.hid hs2
              clear hs1 hs2 hfk hf1 hko
              go_wp2_with (first | (go_at_call 59; refine (HD.out _ (G.rf _)).mono ?_; rintro e w3 ⟨rfl, hG3⟩) | (at_builtin; refine wpList_append_own_at _ rfl _ _ 22 rfl w2.heap.size 3 i0 (.int .i64 0) 1 8 Try.underlying22 hi0 hz0 hz1 hz2 rfl (by decide) _ (selW f 2 k).length (natV (selW f 2 k)) rfl ?hown ⟨_, 0, none⟩ 1 1 [.int .i64 k] rfl rfl ?hcell (by simp [Value.oneCell']) (by unfold maxLen; omega) (by omega) ?hbase ?hrest))
              case hown => exact own_G (own_G HO2.out hG3) (((G.rf _).a _).a _)
              case hcell =>
                have hh := cell_one_new (w3.alloc (.cells #[.int .i64 (lo k : Nat), .int .i64 (hi k : Nat)] 46)) 3 (.int .i64 k)
                rw [show (w3.alloc (.cells #[.int .i64 (lo k : Nat), .int .i64 (hi k : Nat)] 46)).heap.size = w3.heap.size + 1 by simp] at hh
                exact hh
              case hbase => exact (((hGr.t hG3).a _).a _).size
              case hrest =>
                intro v' w4 hown' hg4 hnil4 hat4
                have gX : G w3 ((w3.alloc (.cells #[.int .i64 (lo k : Nat), .int .i64 (hi k : Nat)] 46)).alloc (.cells #[.int .i64 k] 3)) := ((G.rf _).a _).a _
                obtain ⟨y1, y2, y3⟩ := within_grow ((hGr.t hG3).t gX) (own_G (own_G HO2.out hG3) gX) (own_G (own_G HO1.out hG3) gX) (apart.symm hap) hg4 (by simp) hat4
                have HN := Lib.hid hown'
                have HY1 := Lib.hid y1
                have HY2 := Lib.hid y2
                have HY3 := Lib.hid y3
                clear hown' hg4 hnil4 hat4 y1 y2 y3 gX
                go_wp2
                go_roundw
                case rel => exact ⟨k + 1, by omega, by go_num, by rw [HS1.out]; exact HY1.out, by rw [HS2.out]; simpa [natV] using HN.out, (HY2.out).symm, HY3.out⟩
                case measure => simp [intOf]; omega
            · have hf1 : f k = 0 := by rw [hfk]; unfold wk; rw [if_neg hko, if_neg h1, if_neg h2]
              rw [hf1, if_neg (by omega)] at hs1 hs2
              have HS1 := Lib.hid hs1
              have HS2 := Lib.hid hs2
              clear hs1 hs2 hfk hf1 hko
              go_wp2_with (go_at_call 59; refine (HD.out _ (G.rf _)).mono ?_; rintro e w3 ⟨rfl, hG3⟩)
              go_roundw
              case rel => exact ⟨k + 1, by omega, by go_num, by rw [HS1.out]; exact own_G HO1.out (hG3.a _), by rw [HS2.out]; exact own_G HO2.out (hG3.a _), hap, (hGr.t hG3).a _⟩
              case measure => simp [intOf]; omega
      · obtain rfl : k = lofts := by omega
        have hki : ¬ ((k : Nat) : Int) < k := by omega
        have HFn := Lib.hid (HP.out wr _ _ (own_weaken HO1.out hG2.size) (own_weaken HO2.out hG2.size) (hG2.t hGr))
        go_wp2
        exact bodyPost_ret (res26 _ _ _ _ _ rfl rfl rfl) rfl HFn.out
  · go_simp
    refine hK5.out _ _ (Bd.alloc _) (fun hS => ?_)
    try simp only [Act.put, List.setIfInBounds_toArray, List.set_cons_zero, List.set_cons_succ]
    refine wpAnyY_oneSW (i := 3) (by kernel_rfl) rfl (by kernel_rfl) (fun K3 hK3 => ?_)
    go_simp
    refine (isIn_any _ _ _ _).mono ?_
    rw [hrb]
    rintro e wb ⟨rfl, hGa⟩
    refine hK3.out _ _ ((Bd.alloc _).keep hGa) (fun hS => ?_)
    try simp only [Act.put, List.setIfInBounds_toArray, List.set_cons_zero, List.set_cons_succ]
    have hGb : G w wb := (hGd.a _).t hGa
    have bg : Blk wb (w.heap.size + 1) 3 #[.int .i64 o] := ((Blk.new1 w (.cells #[.int .i64 north, .int .i64 cols, .slice ea east.length ec, .int .i64 lofts, .slice sa svs.length sc, .int .i64 wrong] 25) 3 #[.int .i64 o]).keep (G.rf _).d).keep hGa
    have Bb := (Bd.alloc _).keep hGa
    refine wpAnyY_oneSW (i := 6) (by kernel_rfl) rfl (by kernel_rfl) (fun K6 hK6 => ?_)
    go_simp
    refine (HQ.out _ hGb _ bg).mono ?_
    rintro e w2 ⟨hGx, hp⟩
    rw [if_neg (by simp), if_neg (by omega)] at hp
    obtain ⟨O, hOl, rfl, hOp⟩ := hp
    refine hK6.out _ _ (Bb.keep hGx) (fun hS => ?_)
    try simp only [Act.put, List.setIfInBounds_toArray, List.set_cons_zero, List.set_cons_succ]
    refine wpAnyY_take (i := 7) (v := ?_) rfl (by kernel_rfl) (by kernel_rfl) (by kernel_rfl) (by kernel_rfl) (fun _ _ _ h => h) (Or.inl ⟨by kernel_rfl, ?_⟩) (by assumption) ?_
    rotate_left
    · intro w' hSw; go_simp; with_reducible rfl
    try simp only [Act.put, List.setIfInBounds_toArray, List.set_cons_zero, List.set_cons_succ]
    refine wpAnyY_take (i := 8) (v := ?_) rfl (by kernel_rfl) (by kernel_rfl) (by kernel_rfl) (by kernel_rfl) (fun _ _ _ h => h) (Or.inl ⟨by kernel_rfl, ?_⟩) (by assumption) ?_
    rotate_left
    · intro w' hSw; go_simp; with_reducible rfl
    try simp only [Act.put, List.setIfInBounds_toArray, List.set_cons_zero, List.set_cons_succ]
    refine wpAnyY_take (i := 9) (v := ?_) rfl (by kernel_rfl) (by kernel_rfl) (by kernel_rfl) (by kernel_rfl) (fun _ _ _ h => h) (Or.inl ⟨by kernel_rfl, ?_⟩) (by assumption) ?_
    rotate_left
    · intro w' hSw; go_simp; with_reducible rfl
    try simp only [Act.put, List.setIfInBounds_toArray, List.set_cons_zero, List.set_cons_succ]
    refine wpAnyY_take (i := 10) (v := ?_) rfl (by kernel_rfl) (by kernel_rfl) (by kernel_rfl) (by kernel_rfl) (fun _ _ _ h => h) (Or.inl ⟨by kernel_rfl, ?_⟩) (by assumption) ?_
    rotate_left
    · intro w' hSw; go_simp; with_reducible rfl
    try simp only [Act.put, List.setIfInBounds_toArray, List.set_cons_zero, List.set_cons_succ]
    refine wpAnyY_oneW (i := 11) (by kernel_rfl) rfl (by kernel_rfl) (by kernel_rfl) (fun K11 hK11 => ?_)
    go_simp
    refine hK11.out _ _ ?_
    try simp only [Act.put, List.setIfInBounds_toArray, List.set_cons_zero, List.set_cons_succ]
    refine wpAnyY_done (by kernel_rfl) ?_ _
    have hG2 := hGb.t hGx
    have b2 := Bb.keep hGx
    have m3 := b2.cell 3
    have hOp := hOp
    have lb := b2.lt
    clear hS Bb hGx bg hGb Bd hGd HQ hK6 hK11 B0 hG1 l0
    go_wp2
    obtain ⟨i0, hi0, hz0, hz1, hz2⟩ := info_parts info3
    go_loopw [6, 7, 27] (fun s m i wr => ∃ k : Nat, k ≤ lofts ∧ i = .int .i64 k ∧ wr.ownsRow w2.heap.size 3 1 s (selW f 1 k).length (natV (selW f 1 k)) ∧ wr.ownsRow w2.heap.size 3 1 m (selW f 2 k).length (natV (selW f 2 k)) ∧ Hid (apart s m) ∧ G w2 wr) (fun _ _ i _ => lofts - (intOf i).toNat)
    case atStart => exact ⟨0, Nat.zero_le _, rfl, World.ownsRow_nil _ _ _ _, World.ownsRow_nil _ _ _ _, (fun g h _ => by cases h), G.rf _⟩
    case round =>
      obtain ⟨k, hk, rfl, hown1, hown2, hap, hGr⟩ := hrel
      have HO1 := Lib.hid hown1
      have HO2 := Lib.hid hown2
      clear hown1 hown2
      have hl1 := selW_len f 1 k
      have hl2 := selW_len f 2 k
      by_cases hlt : k < lofts
      · have hki : (k : Int) < lofts := by omega
        have hfk := HF.out k
        have hs1 := selW_succ f 1 k
        have hs2 := selW_succ f 2 k
        by_cases hko : k = o
        · have hkob : ((k : Int) == o) = true := by simp [hko]
          have hf0 : f k = 0 := by rw [hfk]; unfold wk; rw [if_pos hko]
          rw [hf0, if_neg (by omega)] at hs1 hs2
          have HS1 := Lib.hid hs1
          have HS2 := Lib.hid hs2
          clear hs1 hs2 hfk hf0 hko
          go_wp2
          go_roundw
          case rel => exact ⟨k + 1, by omega, by go_num, by rw [HS1.out]; exact HO1.out, by rw [HS2.out]; exact HO2.out, hap, hGr⟩
          case measure => simp [intOf]; omega
        · have hkob : ((k : Int) == o) = false := by simp; omega
          have HD := Lib.hid (fun (W : World) (hW : G wr W) => HDI.out W (hG2.t (hGr.t hW)) O k hlt (by obtain ⟨slv, h1, h2⟩ := hOp; exact ⟨slv, h1.keep (hGr.t hW), fun j hj => (h2 j hj).of (fun g cur hb => hb.keep (hGr.t hW))⟩))
          by_cases h1 : (hi k : Int) ≤ reach
          · have hf1 : f k = 1 := by rw [hfk]; unfold wk; rw [if_neg hko, if_pos h1]
            rw [hf1] at hs1 hs2
            rw [if_pos rfl] at hs1
            rw [if_neg (by omega)] at hs2
            have HS1 := Lib.hid hs1
            have HS2 := Lib.hid hs2
            clear hs1 hs2 hfk hf1 hko
            go_wp2_with (first | (go_at_call 59; refine (HD.out _ (G.rf _)).mono ?_; rintro e w3 ⟨rfl, hG3⟩) | (at_builtin; refine wpList_append_own_at _ rfl _ _ 22 rfl w2.heap.size 3 i0 (.int .i64 0) 1 8 Try.underlying22 hi0 hz0 hz1 hz2 rfl (by decide) _ (selW f 1 k).length (natV (selW f 1 k)) rfl ?hown ⟨_, 0, none⟩ 1 1 [.int .i64 k] rfl rfl ?hcell (by simp [Value.oneCell']) (by unfold maxLen; omega) (by omega) ?hbase ?hrest))
            case hown => exact own_G (own_G HO1.out hG3) (((G.rf _).a _).a _)
            case hcell =>
              have hh := cell_one_new (w3.alloc (.cells #[.int .i64 (lo k : Nat), .int .i64 (hi k : Nat)] 46)) 3 (.int .i64 k)
              rw [show (w3.alloc (.cells #[.int .i64 (lo k : Nat), .int .i64 (hi k : Nat)] 46)).heap.size = w3.heap.size + 1 by simp] at hh
              exact hh
            case hbase => exact (((hGr.t hG3).a _).a _).size
            case hrest =>
              intro v' w4 hown' hg4 hnil4 hat4
              have gX : G w3 ((w3.alloc (.cells #[.int .i64 (lo k : Nat), .int .i64 (hi k : Nat)] 46)).alloc (.cells #[.int .i64 k] 3)) := ((G.rf _).a _).a _
              obtain ⟨y1, y2, y3⟩ := within_grow ((hGr.t hG3).t gX) (own_G (own_G HO1.out hG3) gX) (own_G (own_G HO2.out hG3) gX) hap hg4 (by simp) hat4
              have HN := Lib.hid hown'
              have HY1 := Lib.hid y1
              have HY2 := Lib.hid y2
              have HY3 := Lib.hid y3
              clear hown' hg4 hnil4 hat4 y1 y2 y3 gX
              go_wp2
              go_roundw
              case rel => exact ⟨k + 1, by omega, by go_num, by rw [HS1.out]; simpa [natV] using HN.out, by rw [HS2.out]; exact HY1.out, HY2.out, HY3.out⟩
              case measure => simp [intOf]; omega
          · by_cases h2 : (lo k : Int) ≤ reach
            · have hf1 : f k = 2 := by rw [hfk]; unfold wk; rw [if_neg hko, if_neg h1, if_pos h2]
              rw [hf1] at hs1 hs2
              rw [if_neg (by omega)] at hs1
              rw [if_pos rfl] at hs2
              have HS1 := Lib.hid hs1
              have HS2 := Lib.hid hs2
              clear hs1 hs2 hfk hf1 hko
              go_wp2_with (first | (go_at_call 59; refine (HD.out _ (G.rf _)).mono ?_; rintro e w3 ⟨rfl, hG3⟩) | (at_builtin; refine wpList_append_own_at _ rfl _ _ 22 rfl w2.heap.size 3 i0 (.int .i64 0) 1 8 Try.underlying22 hi0 hz0 hz1 hz2 rfl (by decide) _ (selW f 2 k).length (natV (selW f 2 k)) rfl ?hown ⟨_, 0, none⟩ 1 1 [.int .i64 k] rfl rfl ?hcell (by simp [Value.oneCell']) (by unfold maxLen; omega) (by omega) ?hbase ?hrest))
              case hown => exact own_G (own_G HO2.out hG3) (((G.rf _).a _).a _)
              case hcell =>
                have hh := cell_one_new (w3.alloc (.cells #[.int .i64 (lo k : Nat), .int .i64 (hi k : Nat)] 46)) 3 (.int .i64 k)
                rw [show (w3.alloc (.cells #[.int .i64 (lo k : Nat), .int .i64 (hi k : Nat)] 46)).heap.size = w3.heap.size + 1 by simp] at hh
                exact hh
              case hbase => exact (((hGr.t hG3).a _).a _).size
              case hrest =>
                intro v' w4 hown' hg4 hnil4 hat4
                have gX : G w3 ((w3.alloc (.cells #[.int .i64 (lo k : Nat), .int .i64 (hi k : Nat)] 46)).alloc (.cells #[.int .i64 k] 3)) := ((G.rf _).a _).a _
                obtain ⟨y1, y2, y3⟩ := within_grow ((hGr.t hG3).t gX) (own_G (own_G HO2.out hG3) gX) (own_G (own_G HO1.out hG3) gX) (apart.symm hap) hg4 (by simp) hat4
                have HN := Lib.hid hown'
                have HY1 := Lib.hid y1
                have HY2 := Lib.hid y2
                have HY3 := Lib.hid y3
                clear hown' hg4 hnil4 hat4 y1 y2 y3 gX
                go_wp2
                go_roundw
                case rel => exact ⟨k + 1, by omega, by go_num, by rw [HS1.out]; exact HY1.out, by rw [HS2.out]; simpa [natV] using HN.out, (HY2.out).symm, HY3.out⟩
                case measure => simp [intOf]; omega
            · have hf1 : f k = 0 := by rw [hfk]; unfold wk; rw [if_neg hko, if_neg h1, if_neg h2]
              rw [hf1, if_neg (by omega)] at hs1 hs2
              have HS1 := Lib.hid hs1
              have HS2 := Lib.hid hs2
              clear hs1 hs2 hfk hf1 hko
              go_wp2_with (go_at_call 59; refine (HD.out _ (G.rf _)).mono ?_; rintro e w3 ⟨rfl, hG3⟩)
              go_roundw
              case rel => exact ⟨k + 1, by omega, by go_num, by rw [HS1.out]; exact own_G HO1.out (hG3.a _), by rw [HS2.out]; exact own_G HO2.out (hG3.a _), hap, (hGr.t hG3).a _⟩
              case measure => simp [intOf]; omega
      · obtain rfl : k = lofts := by omega
        have hki : ¬ ((k : Nat) : Int) < k := by omega
        have HFn := Lib.hid (HP.out wr _ _ (own_weaken HO1.out hG2.size) (own_weaken HO2.out hG2.size) (hG2.t hGr))
        go_wp2
        exact bodyPost_ret (res26 _ _ _ _ _ rfl rfl rfl) rfl HFn.out
end
end Go.Proofs.Ytpjfdfddcnocpaa
