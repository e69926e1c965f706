import Derived.Test.YtcekdljjmfkacaaGreatMc
import Derived.Test.YtcekdljjmfkacaaGreatMe
set_option linter.unusedSimpArgs false
set_option linter.unusedVariables false
namespace Go.Proofs.YtcekdljjmfkacaaGreat
open Go.RowKit Go.Shelf
attribute [local go_sem] Oper.semAt_some wide_fn wide_dep wideR_fn wideR_dep
/-- three blocks stay -/
def K3 (a b c : Nat) (W W' : World) : Prop := KB a W W' ∧ KB b W W' ∧ KB c W W'
theorem K3.rf (a b c : Nat) (W : World) : K3 a b c W W := ⟨KB.rf _ _, KB.rf _ _, KB.rf _ _⟩
theorem K3.t {a b c : Nat} {A B C : World} (h : K3 a b c A B) (k : K3 a b c B C) : K3 a b c A C := ⟨h.1.t k.1, h.2.1.t k.2.1, h.2.2.t k.2.2⟩
/-- how many hours are yielded -/
def hrsN (lo hi H : Nat) : Nat := if hi / 60 < lo / 60 then 0 else if H ≤ lo / 60 then 1 else min (hi / 60) H - lo / 60 + 1
def hrsL (lo hi H : Nat) : List Nat := (List.range (hrsN lo hi H)).map fun j => lo / 60 + j
theorem hrsL_len (lo hi H : Nat) : (hrsL lo hi H).length = hrsN lo hi H := by simp [hrsL]
theorem hrsL_take {lo hi H y : Nat} (h : y < hrsN lo hi H) : (hrsL lo hi H).take (y + 1) = (hrsL lo hi H).take y ++ [lo / 60 + y] := by
  have hl := hrsL_len lo hi H
  rw [List.take_succ_eq_append_getElem (by omega)]
  simp [hrsL]
set_option maxRecDepth 100000 in
set_option maxHeartbeats 4000000 in
theorem hours_in (F' : Fence) (n : Nat) (h101 : F'.fn 108) (hro : F'.round = none) (hn : 1 ≤ n) (l B3 B2 F lo hi H : Nat) (FC : Array Value) (hlo : lo ≤ 100000000000) (hhi : hi ≤ 100000000000)
    (J Jx : List Nat → World → Prop)
    (hY : ∀ pre x W, x ≤ 100000000000 → J pre W → pre.length < (hrsL lo hi H).length → YieldAt F' (n - 1) Tryz.prog l #[.int .i64 (x : Nat)] W fun e W' =>
      (e = .returned (.bool true) ∧ J (pre ++ [x]) W' ∧ K3 B3 B2 F W W') ∨ (e = .returned (.bool false) ∧ Jx (pre ++ [x]) W'))
    (W : World) (hB3 : Blk W B3 30 #[.int .i64 (lo : Nat), .int .i64 (hi : Nat)]) (hB2 : Blk W B2 87 #[.pointer (some ⟨F, 0, none⟩)]) (hF : Blk W F 104 FC) (h15 : FC[15]? = some (.int .i64 (H : Nat))) (h0 : J [] W) :
    CallsIn F' n Tryz.prog 108 #[.func (.yield l) #[] #[], .pointer (some ⟨B3, 0, none⟩), .pointer (some ⟨B2, 0, none⟩)] W fun e W' => (∃ v, e = .returned v) ∧
      ((∃ ys, ys = hrsL lo hi H ∧ J ys W') ∨ (∃ pre, pre <+: hrsL lo hi H ∧ Jx pre W')) := by
  have c0 : W.cell? ⟨B3, 0, none⟩ = some (.int .i64 (lo : Nat)) := hB3.cell 0
  have xd : IntKind.i64.wrap ((lo : Int) / 60) = ((lo / 60 : Nat) : Int) := wrap_div2 lo 60 (by omega)
  obtain ⟨lq, hlq⟩ : ∃ lq, lq = lo / 60 := ⟨_, rfl⟩
  obtain ⟨hq, hhq⟩ : ∃ hq, hq = hi / 60 := ⟨_, rfl⟩
  have xh : IntKind.i64.wrap ((hi : Int) / 60) = ((hi / 60 : Nat) : Int) := wrap_div2 hi 60 (by omega)
  have lqb : lq ≤ 100000000000 := by rw [hlq]; exact Nat.le_trans (Nat.div_le_self _ _) hlo
  have hqb : hq ≤ 100000000000 := by rw [hhq]; exact Nat.le_trans (Nat.div_le_self _ _) hhi
  have HN : Hid (hrsN lo hi H = if hq < lq then 0 else if H ≤ lq then 1 else min hq H - lq + 1) := by unfold hrsN Hid; rw [hlq, hhq]
  have HTK : Hid (∀ y, y < hrsN lo hi H → (hrsL lo hi H).take (y + 1) = (hrsL lo hi H).take y ++ [lq + y]) := fun y hy => by rw [hlq]; exact hrsL_take hy
  have HLL := Lib.hid (hrsL_len lo hi H)
  rw [← hlq] at xd
  rw [← hhq] at xh
  clear hlq hhq
  generalize hrsL lo hi H = LS at *
  generalize hrsN lo hi H = N at *
  refine callsIn_of_wp Tryz.func108 rfl h101 ?_ hro
  simp only [Tryz.ntmps108, List.size_toArray, List.length_cons, List.length_nil, Nat.reduceAdd, Nat.reduceSub, Array.replicate_succ, Array.replicate_zero, List.push_toArray, List.append_toArray, List.nil_append, List.cons_append]
  gi_wp2
  gi_loopw [4] (fun i wr => ∃ y : Nat, y ≤ N ∧ (y = 0 ∨ lq + y ≤ H) ∧ i = .int .i64 ((lq + y : Nat) : Int) ∧ J (LS.take y) wr ∧ K3 B3 B2 F W wr)
    (fun i _ => hq + 1 - (intOf i).toNat)
  case atStart => exact ⟨0, Nat.zero_le _, .inl rfl, by simp, h0, K3.rf _ _ _ _⟩
  case round =>
    obtain ⟨y, hy, hyH, rfl, hJs, hk⟩ := hrel
    have d1 : wr.cell? ⟨B3, 1, none⟩ = some (.int .i64 (hi : Nat)) := (World.cell?_of_block (a := ⟨B3, 1, none⟩) hk.1).trans (hB3.cell 1)
    obtain ⟨z, hz⟩ : ∃ z, z = lq + y := ⟨_, rfl⟩
    rw [← hz]
    by_cases hle : z ≤ hq
    · have hlei : (z : Int) ≤ hq := by omega
      have hyN : y < N := by
        have := HN.out
        split at this
        · omega
        · split at this <;> omega
      have hpl : (LS.take y).length < LS.length := by
        have := HLL.out
        rw [List.length_take]
        omega
      have hsn := HTK.out y hyN
      rw [← hz] at hsn
      have HSN := Lib.hid hsn
      have x5 : IntKind.i64.wrap ((z : Int) + 1) = ((z + 1 : Nat) : Int) := by rw [IntWalk.i64_in _ (by omega)]; rfl
      obtain ⟨fn, tmps, assign, body, hy', hR⟩ := hY _ z _ (by omega) hJs hpl
      have HZ := Lib.hid hz
      clear hsn hz
      gi_wp2
      refine hR.mono ?_
      rintro e W3 (⟨rfl, hJ3, hk3⟩ | ⟨rfl, hJx3⟩)
      · have hkk := hk.t hk3
        have f2 : W3.cell? ⟨B2, 0, none⟩ = some (.pointer (some ⟨F, 0, none⟩)) := (World.cell?_of_block (a := ⟨B2, 0, none⟩) hkk.2.1).trans (hB2.cell 0)
        have f15 : W3.cell? ⟨F, 15, none⟩ = some (.int .i64 (H : Nat)) := (World.cell?_of_block (a := ⟨F, 15, none⟩) hkk.2.2).trans ((hF.cell 15).trans h15)
        clear d1
        by_cases hH : H ≤ z
        · have hHi : (H : Int) ≤ z := by omega
          have hend : (LS.take y ++ [z]) = LS := by
            rw [← HSN.out]
            refine List.take_of_length_le ?_
            have h1 := HLL.out
            have h2 := HN.out
            have h3 := HZ.out
            split at h2
            · omega
            · split at h2 <;> omega
          rw [hend] at hJ3
          gi_wp2
          refine bodyPost_ret (results_none rfl _ _ _) rfl ?_
          exact ⟨⟨_, rfl⟩, .inl ⟨_, rfl, hJ3⟩⟩
        · have hHi : ¬ (H : Int) ≤ z := by omega
          gi_wp2
          go_roundw
          case rel => exact ⟨y + 1, by omega, .inr (by have := HZ.out; omega), by rw [show ((lq + (y + 1) : Nat) : Int) = (z : Int) + 1 by have := HZ.out; omega], by rw [HZ.out] at HSN; rw [HTK.out y hyN, ← HZ.out]; exact hJ3, hkk⟩
          case measure => simp [intOf]; omega
      · clear d1
        gi_wp2
        refine bodyPost_ret (results_none rfl _ _ _) rfl ?_
        exact ⟨⟨_, rfl⟩, .inr ⟨_, by rw [← HSN.out]; exact List.take_prefix _ _, hJx3⟩⟩
    · have hlei : ¬ (z : Int) ≤ hq := by omega
      have hta : LS.take y = LS := by
        refine List.take_of_length_le ?_
        have h1 := HLL.out
        have h2 := HN.out
        split at h2
        · omega
        · split at h2 <;> omega
      rw [hta] at hJs
      gi_wp2
      go_end0
      first | exact ⟨⟨_, rfl⟩, .inl hJs⟩ | exact .inl hJs | exact hJs
end Go.Proofs.YtcekdljjmfkacaaGreat
set_option linter.unusedSimpArgs false
set_option linter.unusedVariables false
namespace Go.Proofs.YtcekdljjmfkacaaGreat
open Go.RowKit Go.Shelf
attribute [local go_sem] Oper.semAt_some wide_fn wide_dep wideR_fn wideR_dep
section
variable {F : Fence} {n : Nat} {P : Program}
/-- a range over a function whose one loop variable is a slot; three blocks stay while the rounds go on -/
theorem rangeFunc_three {α : Type} {g : Operand} {tv : Tmp} {assign body : Code} {Q : Exit → Act → World → Prop} {a : Act} {w : World}
    (hro : F.round = none) (h1 : 1 ≤ n) {gf : Nat} {lb : Array Value} (hg : a.eval g = .func (.func gf) #[] lb) (hFg : F.fn gf) (eg : ∀ args w, (callFunc gf args).run P w = .ok (.enter gf args) w)
    {ev : α → Value} {B1 B2 B3 : Nat} {S Sp : List α → Prop} {N : Nat} {w0 : World} (hseq : SeqStopsK F (n - 1) P gf lb (fun x => #[ev x]) (K3 B1 B2 B3) S Sp N w0)
    (hB1 : B1 < w.heap.size) (hB2 : B2 < w.heap.size) (hB3 : B3 < w.heap.size) (hb0 : Below w0.heap.size w0 w)
    (I : List α → World → Prop) (Ix : Code → List α → World → Prop) (hI : OwnFrom w.heap.size I) (hIx : ∀ c, OwnFrom w.heap.size (Ix c)) (h0 : I [] w)
    (tb : Tmp)
    (hassign : ∀ (l : Nat) (x : α) (W : World) (K : Act → World → Prop), K { tmps := (a.tmps.setIfInBounds tv (ev x)).setIfInBounds tb (ev x), defers := [] } W →
      assign.wpIn (F.inRound l) (n - 1 - 1) P (Exit.then K (fun _ _ _ => False)) { tmps := a.tmps.setIfInBounds tv (ev x), defers := [] } W)
    (hbody : ∀ (l : Nat) (pre : List α) (x : α) (W : World), w.heap.size ≤ l → (∃ r, W.heap[l]? = some (.loop r)) → I pre W → pre.length < N →
      body.wpIn (F.inRound l) (n - 1 - 1) P (ownPostG w.heap.size (K3 B1 B2 B3) I Ix (pre ++ [x]) W) { tmps := (a.tmps.setIfInBounds tv (ev x)).setIfInBounds tb (ev x), defers := [] } W)
    (hdone : ∀ (D : Nat) (xs : List α) (W : World), w.heap.size ≤ D → S xs → I xs W → W.heap[D]? = some (.deferred (some [])) → Q .normal { a with defers := { target := .collected D, args := #[] } :: a.defers } W)
    (hstop : ∀ (D : Nat) (c : Code) (pre : List α) (W : World), w.heap.size ≤ D → Sp pre → Ix c pre W → W.heap[D]? = some (.deferred (some [])) → c.wpIn F n P Q { a with defers := { target := .collected D, args := #[] } :: a.defers } W) :
    (Code.rangeFunc g #[tv] assign body).wpIn F n P Q a w := by
  refine wpIn_rangeFunc_ownH hro h1 hg hFg eg hseq (fun h k => K3.t h k) (fun W l o o' hl h1 h2 h3 => ⟨KB.b hB1 W l o o' hl h1 h2 h3, KB.b hB2 W l o o' hl h1 h2 h3, KB.b hB3 W l o o' hl h1 h2 h3⟩) hb0 (fun _ => rfl) I Ix hI hIx h0
    (fun x a' _ => a' = { tmps := (a.tmps.setIfInBounds tv (ev x)).setIfInBounds tb (ev x), defers := [] })
    ?_ ?_ ?_ hdone hstop
  · rintro x a' _ X Y row h _ _
    exact h
  · intro l pre x W K hi hK
    have e : ((#[tv] : Array Tmp).zip #[ev x]).foldl (fun t (p, v) => t.setIfInBounds p v) a.tmps = a.tmps.setIfInBounds tv (ev x) := by simp
    rw [e]
    exact hassign l x W K (hK _ _ ((KeepsOthers.refl W).from _) (K3.rf _ _ _ _) hi rfl)
  · rintro l pre x a' W hl hr hi rfl hN
    exact hbody l pre x W hl hr hi hN
end
theorem hours_any (F lo hi : Nat) (w : World) : Calls Tryz.prog 89 #[.pointer (some ⟨F, 0, none⟩), .agg #[.int .i64 (lo : Nat), .int .i64 (hi : Nat)]] w fun e w' =>
    e = .returned (.func (.func 108) #[] #[.pointer (some ⟨w.heap.size + 1, 0, none⟩), .pointer (some ⟨w.heap.size, 0, none⟩)]) ∧ w' = (w.alloc (.cells #[.pointer (some ⟨F, 0, none⟩)] 87)).alloc (.cells #[.int .i64 (lo : Nat), .int .i64 (hi : Nat)] 30) := by
  go_enter Tryz.func89, Tryz.ntmps89
  go_wp2
  go_ret
  exact ⟨rfl, rfl⟩
/-- an hour, not too late -/
abbrev Hr : Type := { x : Nat // x ≤ 100000000000 }
theorem hours_stops (n : Nat) (hn : 1 ≤ n) (B3 B2 F lo hi H : Nat) (FC : Array Value) (hlo : lo ≤ 100000000000) (hhi : hi ≤ 100000000000) (w : World) (hB3 : Blk w B3 30 #[.int .i64 (lo : Nat), .int .i64 (hi : Nat)]) (hB2 : Blk w B2 87 #[.pointer (some ⟨F, 0, none⟩)]) (hF : Blk w F 104 FC) (h15 : FC[15]? = some (.int .i64 (H : Nat))) :
    SeqStopsK Fence.wide n Tryz.prog 108 #[.pointer (some ⟨B3, 0, none⟩), .pointer (some ⟨B2, 0, none⟩)] (fun x : Hr => #[.int .i64 (x.1 : Nat)]) (K3 B3 B2 F) (fun ys => ys.map (·.1) = hrsL lo hi H) (fun pre => pre.map (·.1) <+: hrsL lo hi H) (hrsL lo hi H).length w :=
  fun l J Jx W hW _ _ hY h0 => (hours_in Fence.wide n trivial rfl hn l B3 B2 F lo hi H FC hlo hhi (fun ls W => ∃ xs : List Hr, xs.map (·.1) = ls ∧ J xs W) (fun ls W => ∃ xs : List Hr, xs.map (·.1) = ls ∧ Jx xs W)
    (fun pre x W' hx ⟨xs, e, hJ⟩ hl => (hY xs ⟨x, hx⟩ W' hJ (by rw [← e, List.length_map] at hl; exact hl)).mono fun e' W2 h => by
      rcases h with ⟨h1, h2, h3⟩ | ⟨h1, h2⟩
      · exact .inl ⟨h1, ⟨_, by rw [List.map_append, e]; rfl, h2⟩, h3⟩
      · exact .inr ⟨h1, ⟨_, by rw [List.map_append, e]; rfl, h2⟩⟩)
    W (hB3.keep hW) (hB2.keep hW) (hF.keep hW) h15 ⟨[], rfl, h0⟩).mono fun e W' h => by
      obtain ⟨hv, h⟩ := h
      refine ⟨hv, ?_⟩
      rcases h with ⟨ys, rfl, xs, h1, h2⟩ | ⟨pre, hp, xs, h1, h2⟩
      · exact .inl ⟨xs, h1, h2⟩
      · exact .inr ⟨xs, by dsimp only; rw [h1]; exact hp, h2⟩
end Go.Proofs.YtcekdljjmfkacaaGreat
set_option linter.unusedSimpArgs false
set_option linter.unusedVariables false
namespace Go.Proofs.YtcekdljjmfkacaaGreat
open Go.RowKit Go.Shelf
attribute [local go_sem] Oper.semAt_some wide_fn wide_dep wideR_fn wideR_dep
theorem resBool (tmps : Array Value) (w : World) (g : Nat) (b : Bool) (h : tmps.getD 6 undef = .pointer (some ⟨g, 0, none⟩)) (c0 : w.cell? ⟨g, 0, none⟩ = some (.bool b)) :
    (results Tryz.f85 tmps).run Tryz.prog w = .ok (.bool b) w := by
  have hr : Tryz.f85.results = #[.cell 6 4] := rfl
  have h' : tmps[6]?.getD undef = .pointer (some ⟨g, 0, none⟩) := by simpa using h
  simp only [results, hr]
  go_simp
section
variable (m cnt F lo hi H px py : Nat) (lw lg lh : Int) (FC : Array Value) (S : Int → Int → Int → Option Sk) (w : World)
set_option maxRecDepth 100000 in
set_option maxHeartbeats 8000000 in
theorem isOutside_in (n : Nat) (hn : 4 ≤ n) (hB : Blk w F 104 FC) (h12 : FC[12]? = some (.int .i64 lw)) (h13 : FC[13]? = some (.int .i64 lg)) (h14 : FC[14]? = some (.int .i64 lh)) (h15 : FC[15]? = some (.int .i64 (H : Nat))) (h18 : FC[18]? = some (.map (some m))) (hW : WMap w m cnt S)
    (hpx : px ≤ 1000) (hpy : py ≤ 1000) (hlo : lo ≤ 100000000000) (hhi : hi ≤ 100000000000) :
    CallsIn Fence.wide n Tryz.prog 85 #[.pointer (some ⟨F, 0, none⟩), .agg #[.int .i64 (px : Nat), .int .i64 (py : Nat)], .agg #[.int .i64 (lo : Nat), .int .i64 (hi : Nat)]] w fun e w' =>
      e = .returned (.bool ((hrsL lo hi H).all fun t => skOut ((S px py t).getD skAny) (skLim lw lg lh))) ∧ G w w' := by
  obtain ⟨p, hp⟩ : ∃ p : Nat → Bool, p = fun t : Nat => skOut ((S (px : Nat) (py : Nat) (t : Nat)).getD skAny) (skLim lw lg lh) := ⟨_, rfl⟩
  rw [← hp]
  have HP0 := Lib.hid hp
  clear hp
  have HL := Lib.hid (fun W : World => limitsOf_any lw lg lh W)
  have b96 : Blk ((((w.alloc (.cells #[.pointer (some ⟨F, 0, none⟩)] 87)).alloc (.cells #[.int .i64 (px : Nat), .int .i64 (py : Nat)] 27)).alloc (.cells #[.int .i64 (lo : Nat), .int .i64 (hi : Nat)] 30)).alloc (.cells #[.bool false] 4)) w.heap.size 87 #[.pointer (some ⟨F, 0, none⟩)] := (((Blk.new w 87 _).alloc _).alloc _).alloc _
  have b27 : Blk ((((w.alloc (.cells #[.pointer (some ⟨F, 0, none⟩)] 87)).alloc (.cells #[.int .i64 (px : Nat), .int .i64 (py : Nat)] 27)).alloc (.cells #[.int .i64 (lo : Nat), .int .i64 (hi : Nat)] 30)).alloc (.cells #[.bool false] 4)) (w.heap.size + 1) 27 #[.int .i64 (px : Nat), .int .i64 (py : Nat)] := ((Blk.new1 w _ 27 _).alloc _).alloc _
  have b30 : Blk ((((w.alloc (.cells #[.pointer (some ⟨F, 0, none⟩)] 87)).alloc (.cells #[.int .i64 (px : Nat), .int .i64 (py : Nat)] 27)).alloc (.cells #[.int .i64 (lo : Nat), .int .i64 (hi : Nat)] 30)).alloc (.cells #[.bool false] 4)) (w.heap.size + 1 + 1) 30 #[.int .i64 (lo : Nat), .int .i64 (hi : Nat)] := (Blk.new2 w _ _ 30 _).alloc _
  have b4 : Blk ((((w.alloc (.cells #[.pointer (some ⟨F, 0, none⟩)] 87)).alloc (.cells #[.int .i64 (px : Nat), .int .i64 (py : Nat)] 27)).alloc (.cells #[.int .i64 (lo : Nat), .int .i64 (hi : Nat)] 30)).alloc (.cells #[.bool false] 4)) (w.heap.size + 1 + 1 + 1) 4 #[.bool false] := by
    have h := Blk.new (((w.alloc (.cells #[.pointer (some ⟨F, 0, none⟩)] 87)).alloc (.cells #[.int .i64 (px : Nat), .int .i64 (py : Nat)] 27)).alloc (.cells #[.int .i64 (lo : Nat), .int .i64 (hi : Nat)] 30)) 4 #[.bool false]
    simpa using h
  have g0 : G w ((((w.alloc (.cells #[.pointer (some ⟨F, 0, none⟩)] 87)).alloc (.cells #[.int .i64 (px : Nat), .int .i64 (py : Nat)] 27)).alloc (.cells #[.int .i64 (lo : Nat), .int .i64 (hi : Nat)] 30)).alloc (.cells #[.bool false] 4)) := ((((G.rf w).a _).a _).a _).a _
  have hB4 := hB.keep g0
  have c12 := (hB4.cell 12).trans h12
  have c13 := (hB4.cell 13).trans h13
  have c14 := (hB4.cell 14).trans h14
  have lF := hB4.lt
  unfold skLim Sk.v at HL
  refine callsIn_of_wp_marks Tryz.func85 rfl trivial ?_ rfl
  simp only [Tryz.ntmps85, List.size_toArray, List.length_cons, List.length_nil, Nat.reduceAdd, Nat.reduceSub, Array.replicate_succ, Array.replicate_zero, List.push_toArray, List.append_toArray, List.nil_append, List.cons_append]
  gi_wp2_with (first | (gi_at_call 88; refine (callsIn_wide.2 (HL.out _)).mono ?_; rintro e w1 ⟨rfl, hG1⟩; clear c12 c13 c14 lF; replace b96 := b96.keep hG1; replace b27 := b27.keep hG1; replace b30 := b30.keep hG1; replace b4 := b4.keep hG1; replace hB4 := hB4.keep hG1; replace g0 := g0.t hG1; clear hG1; have e0 := b96.cell 0; have le := b96.lt; have d0 := b30.cell 0; have d1 := b30.cell 1; have ld := b30.lt) | (gi_at_call 89; refine (callsIn_wide.2 (hours_any F lo hi _)).mono ?_; rintro e w2 ⟨rfl, rfl⟩))
  have nG : G w1 (((w1.alloc (.cells (skLim lw lg lh).v 93)).alloc (.cells #[.pointer (some ⟨F, 0, none⟩)] 87)).alloc (.cells #[.int .i64 (lo : Nat), .int .i64 (hi : Nat)] 30)) := (((G.rf w1).a _).a _).a _
  have bK : Blk (((w1.alloc (.cells (skLim lw lg lh).v 93)).alloc (.cells #[.pointer (some ⟨F, 0, none⟩)] 87)).alloc (.cells #[.int .i64 (lo : Nat), .int .i64 (hi : Nat)] 30)) w1.heap.size 93 (skLim lw lg lh).v := ((Blk.new w1 93 _).alloc _).alloc _
  have bF : Blk (((w1.alloc (.cells (skLim lw lg lh).v 93)).alloc (.cells #[.pointer (some ⟨F, 0, none⟩)] 87)).alloc (.cells #[.int .i64 (lo : Nat), .int .i64 (hi : Nat)] 30)) (w1.heap.size + 1) 87 #[.pointer (some ⟨F, 0, none⟩)] := (Blk.new1 w1 _ 87 _).alloc _
  have bM : Blk (((w1.alloc (.cells (skLim lw lg lh).v 93)).alloc (.cells #[.pointer (some ⟨F, 0, none⟩)] 87)).alloc (.cells #[.int .i64 (lo : Nat), .int .i64 (hi : Nat)] 30)) (w1.heap.size + 1 + 1) 30 #[.int .i64 (lo : Nat), .int .i64 (hi : Nat)] := Blk.new2 w1 _ _ 30 _
  clear e0 le d0 d1 ld
  change Code.wpIn _ _ _ _ _ _ (((w1.alloc (.cells (skLim lw lg lh).v 93)).alloc (.cells #[.pointer (some ⟨F, 0, none⟩)] 87)).alloc (.cells #[.int .i64 (lo : Nat), .int .i64 (hi : Nat)] 30))
  generalize ((w1.alloc (.cells (skLim lw lg lh).v 93)).alloc (.cells #[.pointer (some ⟨F, 0, none⟩)] 87)).alloc (.cells #[.int .i64 (lo : Nat), .int .i64 (hi : Nat)] 30) = wR at *
  replace b96 := b96.keep nG; replace b27 := b27.keep nG; replace b4 := b4.keep nG; replace hB4 := hB4.keep nG; replace g0 := g0.t nG
  obtain ⟨nK, hnK⟩ : ∃ nK, nK = w1.heap.size := ⟨_, rfl⟩
  rw [← hnK] at bK bF bM ⊢
  clear hnK b30 nG
  have hWR := hW.keep g0
  have hseq := hours_stops (n - 1) (by omega) (nK + 1 + 1) (nK + 1) F lo hi H FC hlo hhi wR bM bF hB4 h15
  have HSky := Lib.hid (fun (W : World) (hG : G wR W) (t : Nat) (ht : t ≤ 100000000000) => skyAt_any m cnt F FC S (px : Nat) (py : Nat) (t : Nat) W (hB4.keep hG) h18 (hWR.keep hG) (by unfold i64b; omega) (by unfold i64b; omega) (by unfold i64b; omega))
  have HOut := Lib.hid (fun (a : Sk) (W : World) => isOutsideS_any a (skLim lw lg lh) W)
  clear hW hWR h12 h13 h14 h15 h18 HL
  have n4R := b4.lt
  have n4w : w.heap.size ≤ w.heap.size + 1 + 1 + 1 := by omega
  have gwR := g0.size
  obtain ⟨n4, hn4⟩ : ∃ n4, n4 = w.heap.size + 1 + 1 + 1 := ⟨_, rfl⟩
  rw [← hn4] at b4 n4R n4w ⊢
  clear hn4
  refine rangeFunc_three (F := Fence.wide) (α := Hr) (gf := 108) (lb := #[.pointer (some ⟨nK + 1 + 1, 0, none⟩), .pointer (some ⟨nK + 1, 0, none⟩)]) rfl (by omega) rfl trivial (enters_of Tryz.func108 (by kernel_rfl) rfl)
    (ev := fun x => .int .i64 (x.1 : Nat)) (B1 := nK + 1 + 1) (B2 := nK + 1) (B3 := F) hseq bM.lt bF.lt hB4.lt (Below.refl _ _)
    (fun pre W => G wR W ∧ (pre.map (·.1)).all p = true) (fun c pre W => c = .ret ∧ G w W ∧ Blk W n4 4 #[.bool false] ∧ (pre.map (·.1)).all p = false) ?hI ?hIx ?h0 8 ?assign ?body ?done ?stop
  case hI =>
    rintro pre X Y row ⟨h, hq⟩ hg hrow
    exact ⟨((G.fr (R := fun _ => False) h).grown hg (fun g e => .inr (hrow g e).1)).toG (fun _ _ h => h), hq⟩
  case hIx =>
    rintro c pre X Y row ⟨hc, h, hb, hq⟩ hg hrow
    exact ⟨hc, ((G.fr (R := fun _ => False) h).grown hg (fun g e => .inr (by have := (hrow g e).1; omega))).toG (fun _ _ h => h), hb.grown hg (fun e => by have := (hrow n4 e.symm).1; omega), hq⟩
  case h0 => exact ⟨G.rf _, rfl⟩
  case assign =>
    intro l x W K hK
    gi_wp2
    exact hK
  case body =>
    rintro l pre x W hl hrec ⟨hG, hq⟩ hN
    obtain ⟨t, ht⟩ := x
    have hSk : ∀ W', G W W' → (Blk W' w.heap.size 87 #[.pointer (some ⟨F, 0, none⟩)] ∧ Blk W' (w.heap.size + 1) 27 #[.int .i64 (px : Nat), .int .i64 (py : Nat)] ∧ Blk W' nK 93 (skLim lw lg lh).v) := fun W' h => ⟨b96.keep (hG.t h), b27.keep (hG.t h), bK.keep (hG.t h)⟩
    have HS := Lib.hid (fun (W' : World) (h : G W W') => HSky.out W' (hG.t h) t ht)
    clear HSky hseq
    obtain ⟨sk, hsk⟩ : ∃ sk, sk = (S (px : Nat) (py : Nat) (t : Nat)).getD skAny := ⟨_, rfl⟩
    have hpt : p t = skOut sk (skLim lw lg lh) := by rw [HP0.out, hsk]
    rw [← hsk] at HS
    have HSK := Lib.hid hsk
    obtain ⟨b, hb⟩ : ∃ b, b = skOut sk (skLim lw lg lh) := ⟨_, rfl⟩
    rw [← hb] at hpt
    have HO := Lib.hid (fun W' : World => HOut.out sk W')
    rw [← hb] at HO
    have HPT := Lib.hid hpt
    clear hsk hb hpt HOut
    gi_wp2
    refine wpIn_region_Y (l := some l) (S := fun W' => Blk W' w.heap.size 87 #[.pointer (some ⟨F, 0, none⟩)] ∧ Blk W' (w.heap.size + 1) 27 #[.int .i64 (px : Nat), .int .i64 (py : Nat)] ∧ Blk W' nK 93 (skLim lw lg lh).v) 7 8 rfl (by kernel_rfl) (fun ⟨_, _, h⟩ => h) (by kernel_rfl) (hSk _ (G.rf _).d) (fun hS => ?_)
    refine wpAnyY_take (i := 0) (v := ?_) rfl (by kernel_rfl) (by kernel_rfl) (by kernel_rfl) (by kernel_rfl) (fun _ _ _ h => h) (Or.inl ⟨by kernel_rfl, ?_⟩) hS ?_
    rotate_left
    · intro w' hSw; have e0 := hSw.1.cell 0; go_simp; with_reducible rfl
    try simp only [Act.put, List.getElem_toArray, List.getElem_cons_zero, List.getElem_cons_succ, List.setIfInBounds_toArray, List.set_cons_zero, List.set_cons_succ]
    refine wpAnyY_take (i := 1) (v := ?_) rfl (by kernel_rfl) (by kernel_rfl) (by kernel_rfl) (by kernel_rfl) (fun _ _ _ h => h) (Or.inl ⟨by kernel_rfl, ?_⟩) hS ?_
    rotate_left
    · intro w' hSw; have e0 := hSw.2.1.cell 0; have e1 := hSw.2.1.cell 1; go_simp; with_reducible rfl
    try simp only [Act.put, List.getElem_toArray, List.getElem_cons_zero, List.getElem_cons_succ, List.setIfInBounds_toArray, List.set_cons_zero, List.set_cons_succ]
    refine wpAnyY_take (i := 2) (v := ?_) rfl (by kernel_rfl) (by kernel_rfl) (by kernel_rfl) (by kernel_rfl) (fun _ _ _ h => h) (Or.inl ⟨by kernel_rfl, ?_⟩) hS ?_
    rotate_left
    · intro w' hSw; go_simp; with_reducible rfl
    try simp only [Act.put, List.getElem_toArray, List.getElem_cons_zero, List.getElem_cons_succ, List.setIfInBounds_toArray, List.set_cons_zero, List.set_cons_succ]
    refine wpAnyY_take (i := 3) (v := ?_) rfl (by kernel_rfl) (by kernel_rfl) (by kernel_rfl) (by kernel_rfl) (fun _ _ _ h => h) (Or.inl ⟨by kernel_rfl, ?_⟩) hS ?_
    rotate_left
    · intro w' hSw; go_simp; with_reducible rfl
    try simp only [Act.put, List.getElem_toArray, List.getElem_cons_zero, List.getElem_cons_succ, List.setIfInBounds_toArray, List.set_cons_zero, List.set_cons_succ]
    refine wpAnyY_take (i := 5) (v := .agg (skLim lw lg lh).v) rfl (by kernel_rfl) (by kernel_rfl) (by kernel_rfl) (by kernel_rfl) (fun _ _ _ h => h) (Or.inl ⟨by kernel_rfl, ?_⟩) hS ?_
    · intro w' hSw; exact load102 w' nK 7 _ _ rfl (by kernel_rfl) hSw.2.2
    try simp only [Act.put, List.getElem_toArray, List.getElem_cons_zero, List.getElem_cons_succ, List.setIfInBounds_toArray, List.set_cons_zero, List.set_cons_succ]
    have gd := (G.rf W).d
    refine wpAnyY_oneSW (i := 4) (by kernel_rfl) rfl (by kernel_rfl) (fun K4 hK4 => ?_)
    go_simp
    refine (HS.out _ gd).mono ?_
    rintro e w5 ⟨rfl, hG5⟩
    replace gd := gd.t hG5
    refine hK4.out _ _ (hSk _ gd) (fun hS => ?_)
    try simp only [Act.put, List.getElem_toArray, List.getElem_cons_zero, List.getElem_cons_succ, List.setIfInBounds_toArray, List.set_cons_zero, List.set_cons_succ]
    refine wpAnyY_oneSW (i := 6) (by kernel_rfl) rfl (by kernel_rfl) (fun K6 hK6 => ?_)
    go_simp
    refine (HO.out _).mono ?_
    rintro e w6 ⟨rfl, hG6⟩
    replace gd := gd.t hG6
    refine hK6.out _ _ (hSk _ gd) (fun hS => ?_)
    try simp only [Act.put, List.getElem_toArray, List.getElem_cons_zero, List.getElem_cons_succ, List.setIfInBounds_toArray, List.set_cons_zero, List.set_cons_succ]
    refine wpAnyY_oneW (i := 7) (by kernel_rfl) rfl (by kernel_rfl) (by kernel_rfl) (fun K7 hK7 => ?_)
    go_simp
    refine hK7.out _ _ ?_
    try simp only [Act.put, List.getElem_toArray, List.getElem_cons_zero, List.getElem_cons_succ, List.setIfInBounds_toArray, List.set_cons_zero, List.set_cons_succ]
    refine wpAnyY_done (by kernel_rfl) ?_ _
    clear hS hSk hK4 hK6 hK7 HS HO hG5 hG6
    have hKf : KeepsFrom wR.heap.size W w6 := (G.fr (R := fun _ => False) gd).keeps (fun i h => h.elim) _
    have hGz := hG.t gd
    cases b
    · have hb4 := b4.keep hGz
      have f0 := hb4.cell 0
      have z0 := hb4.frozen 0
      have l0 := hb4.lt
      gi_wp2
      refine ⟨((G.fr (R := fun i => i = n4) gd).s (p := ⟨n4, 0, none⟩) (.inl rfl) _).keeps (fun i h _ => ⟨_, _, _, by subst h; exact b4.keep hG⟩) _, rfl, (g0.t hGz).s (p := ⟨n4, 0, none⟩) n4w _, hb4.set_ 0 (.bool false), ?_⟩
      rw [List.map_append, List.all_append]
      simp [HPT.out]
    · gi_wp2
      refine ⟨hKf, ⟨gd.block _ (Nat.lt_of_lt_of_le bM.lt hG.size), gd.block _ (Nat.lt_of_lt_of_le bF.lt hG.size), gd.block _ (Nat.lt_of_lt_of_le hB4.lt hG.size)⟩, hGz, ?_⟩
      rw [List.map_append, List.all_append, hq]
      simp [HPT.out]
  case done =>
    rintro D xs W hD hxs ⟨hG, hq⟩ hDef
    have hb4 := b4.keep hG
    have f0 := hb4.cell 0
    have z0 := hb4.frozen 0
    have l0 := hb4.lt
    have hall : (hrsL lo hi H).all p = true := by rw [← hxs]; exact hq
    have HALL := Lib.hid hall
    clear hall hseq HSky HOut
    gi_wp2
    have hDn : D ≠ n4 := by omega
    have hX : ((W.setCell ⟨n4, 0, none⟩ (.bool true))).heap[D]? = some (.deferred (some [])) := (Below.heap_setCell W ⟨n4, 0, none⟩ (.bool true) D hDn).trans hDef
    have hGX : G w (W.setCell ⟨n4, 0, none⟩ (.bool true)) := (g0.t hG).s (p := ⟨n4, 0, none⟩) n4w _
    have hBX : Blk (W.setCell ⟨n4, 0, none⟩ (.bool true)) n4 4 #[.bool true] := hb4.set_ 0 (.bool true)
    generalize (W.setCell ⟨n4, 0, none⟩ (.bool true)) = X at *
    refine ⟨by simp, .inl ⟨_, _, rfl, run_takeDeferred hX, ?_⟩⟩
    have hbp : Blk (X.putObj D (.deferred none)) n4 4 #[.bool true] := (World.putObj_heap_other (Ne.symm hDn)).trans hBX
    refine ⟨_, resBool _ _ n4 true rfl (hbp.cell 0), by rw [HALL.out], ?_⟩
    have hf : Fr (fun i => i = D) X (X.putObj D (.deferred none)) := ⟨rfl, rfl, rfl, by simp [World.putObj], fun i _ hn => World.putObj_heap_other hn⟩
    refine ((G.fr (R := fun _ => False) hGX).t2 hf (fun i hi h => ?_)).toG (fun _ _ h => h)
    omega
  case stop =>
    rintro D c pre W hD hpre ⟨rfl, hG, hb, hq⟩ hDef
    have hall : (hrsL lo hi H).all p = false := by
      obtain ⟨r, hr⟩ := hpre
      rw [← hr, List.all_append, hq]
      rfl
    have HALL := Lib.hid hall
    clear hall hseq HSky HOut
    gi_wp2
    have hDn : D ≠ n4 := by omega
    have hX : W.heap[D]? = some (.deferred (some [])) := hDef
    have hGX : G w W := hG
    have hBX : Blk W n4 4 #[.bool false] := hb
    refine ⟨by simp, .inl ⟨_, _, rfl, run_takeDeferred hX, ?_⟩⟩
    have hbp : Blk (W.putObj D (.deferred none)) n4 4 #[.bool false] := (World.putObj_heap_other (Ne.symm hDn)).trans hBX
    refine ⟨_, resBool _ _ n4 false rfl (hbp.cell 0), by rw [HALL.out], ?_⟩
    have hf : Fr (fun i => i = D) W (W.putObj D (.deferred none)) := ⟨rfl, rfl, rfl, by simp [World.putObj], fun i _ hn => World.putObj_heap_other hn⟩
    refine ((G.fr (R := fun _ => False) hGX).t2 hf (fun i hi h => ?_)).toG (fun _ _ h => h)
    omega
end
end Go.Proofs.YtcekdljjmfkacaaGreat
