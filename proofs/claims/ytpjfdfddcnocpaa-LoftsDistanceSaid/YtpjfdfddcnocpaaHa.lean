import Derived.Test.YtpjfdfddcnocpaaKd
import Derived.Test.YtpjfdfddcnocpaaHm
import Derived.BigQuiet
import Derived.Deep.QuietTactic
set_option linter.unusedSimpArgs false
set_option linter.unusedVariables false
namespace Go.Proofs.Ytpjfdfddcnocpaa
open Go.RowKit Go.Shelf
attribute [local go_sem] Oper.semAt_some wide_fn wide_dep wideR_fn wideR_dep

theorem w6_spec (w : World) (c0 c1 c2 c3 c4 c5 : Array Value) (t0 t1 t2 t3 t4 t5 : TypeId) (n0 : Nat) (hn0 : n0 = w.heap.size) (W0 : World)
    (h : W0 = ((((((w.alloc (.cells c0 t0)).alloc (.cells c1 t1)).alloc (.cells c2 t2)).alloc (.cells c3 t3)).alloc (.cells c4 t4)).alloc (.cells c5 t5))) :
    G w W0 ∧ W0.heap.size = n0 + 6 ∧ Blk W0 n0 t0 c0 ∧ Blk W0 (n0 + 1) t1 c1 ∧ Blk W0 (n0 + 2) t2 c2 ∧ Blk W0 (n0 + 3) t3 c3 ∧ Blk W0 (n0 + 4) t4 c4 ∧ Blk W0 (n0 + 5) t5 c5 := by
  subst h
  refine ⟨((((((G.rf w).a _).a _).a _).a _).a _).a _, by simp [hn0], ?_, ?_, ?_, ?_, ?_, ?_⟩
  · exact (((((Blk.newAt hn0.symm _ _).alloc _).alloc _).alloc _).alloc _).alloc _
  · exact ((((Blk.newAt (by simp [hn0]) _ _).alloc _).alloc _).alloc _).alloc _
  · exact (((Blk.newAt (by simp [hn0]) _ _).alloc _).alloc _).alloc _
  · exact ((Blk.newAt (by simp [hn0]) _ _).alloc _).alloc _
  · exact (Blk.newAt (by simp [hn0]) _ _).alloc _
  · exact Blk.newAt (by simp [hn0]) _ _
theorem res65 (tmps : Array Value) (w : World) (g : Nat) (x : Bool) (h : tmps.getD 4 undef = .pointer (some ⟨g, 0, none⟩)) (c0 : w.cell? ⟨g, 0, none⟩ = some (.bool x)) :
    (results Try.f65 tmps).run Try.prog w = .ok (.bool x) w := by
  have hr : Try.f65.results = #[.cell 4 4] := rfl
  have h' : tmps[4]?.getD undef = .pointer (some ⟨g, 0, none⟩) := by simpa using h
  simp only [results, hr]
  go_simp

def R0 (i : Nat) (t : TypeId) : Prop := False
theorem truths_good1 {rows : Nat → List Sp} {l : Nat} {sp : Int} {cols er : Nat} (hr : ∀ s ∈ rows l, s.x < cols ∧ s.y < er) {f : At} (h : f ∈ truthsOf rows [l] sp) : (f l).1 < cols ∧ (f l).2 < er := by
  obtain ⟨s, hs, _, e⟩ := settleL_more rows _ _ _ f h l (namesOf_mem' (by simp))
  have := hr s hs
  rw [e]
  exact this
def heldF (north : Int) (east : List Int) (s : Sv) (l : Nat) (L : List At) : Bool := L.any fun f => holdsB north east s (f l).1 (f l).2
theorem heldF_snoc (north : Int) (east : List Int) (s : Sv) (l : Nat) (L : List At) (f : At) : heldF north east s l (L ++ [f]) = (heldF north east s l L || holdsB north east s (f l).1 (f l).2) := by simp [heldF]
def HoldX (R : Nat) (W0 : World) (north : Int) (east : List Int) (s : Sv) (l : Nat) (c : Code) (L : List At) (W : World) : Prop := c = .ret ∧ heldF north east s l L = true ∧ Fr (fun i => i = R) W0 W ∧ Blk W R 4 #[.bool true]

set_option maxRecDepth 100000 in
set_option maxHeartbeats 4000000 in
theorem canHold_in (n : Nat) (hn : 4 ≤ n) (north wrong : Int) (cols lofts l : Nat) (east : List Int) (svs : List Sv) (ea sa : Option Addr) (ec sc O fs : Nat) (slv : Nat → Value) (rows : Nat → List Sp) (s : Sv) (hsl : s.loft = l) (w : World)
    (he : IntsAt w ea east) (hv : validMapB north cols east lofts wrong = true) (hso : svOk cols east.length lofts s = true) (hf : fs ≤ 128)
    (hO : Blk w O 91 (oc north cols (.slice ea east.length ec) lofts (.slice sa svs.length sc) wrong fs slv)) (hSp : ∀ j, j < lofts → SpotsAt w (slv j) (rows j))
    (hrl : ∀ j, j < lofts → (rows j).length ≤ 100) (hrg : ∀ l, l < lofts → ∀ s ∈ rows l, s.x < cols ∧ s.y < east.length) (hll : l < lofts) :
    CallsIn Fence.wide n Try.prog 65 #[.pointer (some ⟨O, 0, none⟩), .agg #[.int .i64 l, .int .i64 s.kind, .int .i64 s.xl, .int .i64 s.xh, .int .i64 s.yl, .int .i64 s.yh, .int .i64 s.ax, .int .i64 s.ay, .int .i64 s.dl, .int .i64 s.dh]] w fun e w' =>
      e = .returned (.bool (heldF north east s l (truthsOf rows [l] (wrong - fs)))) ∧ G w w' := by
  have hvb := vm_bounds hv
  obtain ⟨L, hL⟩ : ∃ L, truthsOf rows [l] (wrong - fs) = L := ⟨_, rfl⟩
  rw [hL]
  obtain ⟨ans, hans⟩ : ∃ ans, heldF north east s l L = ans := ⟨_, rfl⟩
  rw [hans]
  obtain ⟨n0, hn0⟩ : ∃ n0, n0 = w.heap.size := ⟨_, rfl⟩
  have hl8 : ((l : Nat) : Int) < 8 := by omega
  have hHo := fun (W : World) (hW : G w W) (x : Int) (q : Nat) (hp : isPlaceB cols east.length x q = true) => holds_any north cols lofts wrong x q east s ea ec (.slice sa svs.length sc) W (he.below hW) hv hso hp
  rw [hsl] at hHo
  have HHo := Lib.hid hHo
  clear hHo
  refine callsIn_of_wp_marks Try.func65 rfl trivial ?_ rfl
  simp only [Try.ntmps65, List.size_toArray, List.length_cons, List.length_nil, Nat.reduceAdd, Nat.reduceSub, Array.replicate_succ, Array.replicate_zero, List.push_toArray, List.append_toArray, List.nil_append, List.cons_append]
  gi_wp2_with (gi_at_call 58; refine (callsIn_wide.2 (truths_any _ _ _ _ _)).mono ?_; rintro e w' ⟨rfl, rfl⟩)
  simp only [Nat.add_assoc, Nat.reduceAdd]
  rw [← hn0]
  generalize hW0 : ((((((w.alloc (.cells #[.pointer (some ⟨O, 0, none⟩)] 75)).alloc (.cells #[.int .i64 l, .int .i64 s.kind, .int .i64 s.xl, .int .i64 s.xh, .int .i64 s.yl, .int .i64 s.yh, .int .i64 s.ax, .int .i64 s.ay, .int .i64 s.dl, .int .i64 s.dh] 56)).alloc (.cells #[.bool false] 4)).alloc (.cells #[.int .i64 l] 3)).alloc (.cells #[.pointer (some ⟨O, 0, none⟩)] 75)).alloc (.cells #[.slice (some ⟨n0 + 3, 0, none⟩) 1 1] 22)) = W0
  obtain ⟨g0, z0, b0, b1, b2, b3, b4, b5⟩ := w6_spec w _ _ _ _ _ _ _ _ _ _ _ _ n0 hn0 W0 hW0.symm
  clear hW0
  have HN0 := Lib.hid hn0
  clear hn0
  have hseq := truths_seq (n - 1) R0 O (n0 + 4) (n0 + 5) (n0 + 3) 0 1 [l] north wrong cols lofts (.slice ea east.length ec) (.slice sa svs.length sc) fs slv rows W0 (by omega) hrl
    (fun i h => h) (fun i h => h) (fun i h => h) (fun i _ h => h) (by omega) hf (by simp) (by simp) (by simp [hll])
    ⟨⟨hO.keep g0, fun j hj => (hSp j hj).of (fun g cur hb => hb.keep g0)⟩, b4, b5, by omega, by
      intro k hk
      have hk2 : k < 1 := by simpa using hk
      rw [b3.cell]
      match k, hk2 with
      | 0, _ => rfl⟩
  have hgood : ∀ f ∈ truthsOf rows [l] (wrong - fs), (f l).1 < cols ∧ (f l).2 < east.length := fun f hf => truths_good1 (hrg l hll) hf
  rw [hL] at hseq hgood
  have HANS := Lib.hid hans
  clear hans hL hrl hrg hSp hvb he hsl
  refine rangeFunc_T (F := Fence.wide) (α := { f : At // f ∈ L }) (T := T2) (gf := 88) (lb := #[.pointer (some ⟨n0 + 5, 0, none⟩), .pointer (some ⟨n0 + 4, 0, none⟩)]) rfl (by omega) rfl trivial (enters_of Try.func88 (by kernel_rfl) rfl)
    (ev := fun x => .agg (pc x.1)) (Kp := KC R0) hseq (Below.refl _ _) (fun h k => KC.t h k) (fun W l o o' _ h1 h2 => KC.put W l o o' h1 h2) (fun W o => G.kc ((G.rf W).a o))
    (fun pre W => heldF north east s l (pre.map (·.1)) = false ∧ Fr (fun _ => False) W0 W) (fun c pre W => HoldX (n0 + 2) W0 north east s l c (pre.map (·.1)) W) ?hI ?hIx ?hIT ?hIxT ?h0 5 82 (fun x => pc x.1) ?assign ?body ?done ?stop
  case hI => exact fun s' X Y row h hg hr => ⟨h.1, h.2.grown hg (fun g e => .inr (hr g e).1)⟩
  case hIx => exact fun c s' X Y row ⟨h1, h2, h3, h4⟩ hg hr => ⟨h1, h2, h3.grown hg (fun g e => .inr (hr g e).1), h4.grown hg (fun e => by have := (hr _ e.symm).1; omega)⟩
  case hIT =>
    rintro B hB s' X Y ⟨h1, h3⟩ hk
    exact ⟨h1, h3.kt hk hB⟩
  case hIxT =>
    rintro c B hB s' X Y ⟨h1, h2, h3, h4⟩ hk
    exact ⟨h1, h2, h3.kt hk hB, hk.blk h4 (.inl (by omega))⟩
  case h0 => exact ⟨rfl, Fr.rf _ _⟩
  case assign =>
    intro l x W K hK
    unfold pc at hK ⊢
    gi_wp2
    exact hK
  case body =>
    rintro lp pre x Bp W ⟨i1, hfr⟩ hBp bP hN
    have hG0 : G W0 W := hfr.toG (fun _ _ h => h)
    have hGW : G w W := g0.t hG0
    obtain ⟨ga1, ga2⟩ := hgood x.1 x.2
    obtain ⟨pa1, pa2⟩ := pc_get x.1 (l := l) (by omega)
    have hp : isPlaceB cols east.length (x.1 l).1 (x.1 l).2 = true := by simp [isPlaceB, isInB]; omega
    have eO := hO.keep hGW
    have e0 := (b0.keep hG0).gw 0 rfl
    have e1 := b1.keep hG0
    have s0 := e1.gw 0 rfl
    have s1 := e1.gw 1 rfl
    have s2 := e1.gw 2 rfl
    have s3 := e1.gw 3 rfl
    have s4 := e1.gw 4 rfl
    have s5 := e1.gw 5 rfl
    have s6 := e1.gw 6 rfl
    have s7 := e1.gw 7 rfl
    have s8 := e1.gw 8 rfl
    have s9 := e1.gw 9 rfl
    have o0 := eO.gw 0 rfl
    have o1 := eO.gw 1 rfl
    have o2 := eO.gw 2 rfl
    have o3 := eO.gw 3 rfl
    have o4 := eO.gw 4 rfl
    have o5 := eO.gw 5 rfl
    have p1 := bP.gw _ pa1
    have p2 := bP.gw _ pa2
    have eR := b2.keep hG0
    have hsn := heldF_snoc north east s l (pre.map (·.1)) x.1
    rw [i1, Bool.false_or] at hsn
    have hmap : (pre ++ [x]).map (·.1) = pre.map (·.1) ++ [x.1] := by simp
    have HM := Lib.hid hmap
    have HSN := Lib.hid hsn
    have HFR := Lib.hid hfr
    have HH2 := fun (W' : World) (hW : G w W') => HHo.out W' hW _ _ hp
    clear hmap hsn hfr i1 hseq b0 b1 b2 b3 b4 b5 HHo hgood e1 eO hO
    generalize x.1 = f at *
    cases hh : holdsB north east s (f l).1 (f l).2
    all_goals
      rw [hh] at HH2 HSN
      have HH := Lib.hid HH2
      clear HH2 hh
      gi_wp2
      refine wpIn_region_quiet_GR (l := some lp) (by kernel_rfl) (fun ⟨_, _, h⟩ => h) (by kernel_rfl) (by kernel_rfl) ?_
      repeat (quiet_step (first | (go_at_call 95; exact Calls.gq (HH.out _ (hGW.t (GW.g _))))))
      refine wpQuiet_nil ?_
      intro _ hw'
      obtain ⟨y, rfl⟩ := hw'
      clear e0 s0 s1 s2 s3 s4 s5 s6 s7 s8 s9 o0 o1 o2 o3 o4 o5 p1 p2
      have gy := y.g
      have eR2 := eR.keep gy
      have d0 := eR2.cell 0
      have z0 := eR2.frozen 0
      have lR := eR2.lt
      gi_wp2
    · exact ⟨(G.fr (R := fun _ => False) gy).keeps (fun i h _ => h.elim) _, G.kc gy, by rw [HM.out]; exact HSN.out, HFR.out.g gy⟩
    · exact ⟨((G.fr (R := fun i => i = n0 + 2) gy).s (.inl rfl) _).keeps (fun i hi _ => hi ▸ ⟨_, _, _, eR⟩) _, rfl, by rw [HM.out]; exact HSN.out, Fr.s (R := fun i => i = n0 + 2) ((HFR.out.mono (fun i _ h => h.elim)).g gy) (.inl rfl) _, eR2.set_ 0 _⟩
  case done =>
    rintro D xs W hD hxs ⟨hi, hfr⟩ hDef
    have hxs : xs.map (·.1) = L := hxs
    rw [hxs, HANS.out] at hi
    subst hi
    have hG0 : G W0 W := hfr.toG (fun _ _ h => h)
    have eR := b2.keep hG0
    have d0 := eR.cell 0
    have z1 := eR.frozen 0
    have lR := eR.lt
    have hne : n0 + 2 ≠ D := by omega
    have hwn : w.heap.size ≤ n0 := by have := HN0.out; omega
    have hg := g0.t hG0
    clear hseq hgood b0 b1 b2 b3 b4 b5 hfr
    gi_wp2
    have hDef2 : (W.setCell ⟨n0 + 2, 0, none⟩ (.bool false)).heap[D]? = some (.deferred (some [])) := (Below.heap_setCell _ _ _ _ (fun e => hne e.symm)).trans hDef
    refine ⟨by simp, .inl ⟨_, _, rfl, run_takeDeferred hDef2, ?_⟩⟩
    have eR3 : Blk ((W.setCell ⟨n0 + 2, 0, none⟩ (.bool false)).putObj D (.deferred none)) (n0 + 2) 4 #[.bool false] := (World.putObj_heap_other hne).trans (eR.set_ 0 _)
    have hf : Fr (fun i => i = D) (W.setCell ⟨n0 + 2, 0, none⟩ (.bool false)) ((W.setCell ⟨n0 + 2, 0, none⟩ (.bool false)).putObj D (.deferred none)) := ⟨rfl, rfl, rfl, by simp [World.putObj], fun i _ hn => World.putObj_heap_other hn⟩
    refine ⟨_, res65 _ _ (n0 + 2) _ rfl (eR3.cell 0), rfl, ?_⟩
    exact ((G.fr (R := fun _ => False) (hg.s (by simp; omega) _)).t2 hf (fun i hi h => by omega)).toG (fun _ _ h => h)
  case stop =>
    rintro D c pre W hD hSp ⟨rfl, hany, hfr, eR⟩ hDef
    have hSp : pre.map (·.1) <+: L := hSp
    have ha : ans = true := by
      rw [← HANS.out]
      obtain ⟨f, hf, e⟩ := List.any_eq_true.1 hany
      exact List.any_eq_true.2 ⟨f, hSp.subset hf, e⟩
    subst ha
    have hne : n0 + 2 ≠ D := by omega
    have hwn : w.heap.size ≤ n0 := by have := HN0.out; omega
    have hg : G w W := ((G.fr (R := fun _ => False) g0).t2 hfr (fun i hi h => by omega)).toG (fun _ _ h => h)
    clear hseq hgood b0 b1 b2 b3 b4 b5 hfr
    gi_wp2
    refine ⟨by simp, .inl ⟨_, _, rfl, run_takeDeferred hDef, ?_⟩⟩
    have eR3 : Blk (W.putObj D (.deferred none)) (n0 + 2) 4 #[.bool true] := (World.putObj_heap_other hne).trans eR
    have hf : Fr (fun i => i = D) W (W.putObj D (.deferred none)) := ⟨rfl, rfl, rfl, by simp [World.putObj], fun i _ hn => World.putObj_heap_other hn⟩
    refine ⟨_, res65 _ _ (n0 + 2) _ rfl (eR3.cell 0), rfl, ?_⟩
    exact ((G.fr (R := fun _ => False) hg).t2 hf (fun i hi h => by omega)).toG (fun _ _ h => h)
end Go.Proofs.Ytpjfdfddcnocpaa
