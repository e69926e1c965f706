import Derived.Test.YtpjfdfddcnocpaaTq
set_option linter.unusedSimpArgs false
set_option linter.unusedVariables false
namespace Go.Proofs.Ytpjfdfddcnocpaa
open Go.RowKit Go.Shelf
attribute [local go_sem] Oper.semAt_some wide_fn wide_dep wideR_fn wideR_dep

/-- the blocks of low and high -/
def Rd (n0 : Nat) (i : Nat) (t : TypeId) : Prop := t = 3 ∧ (i = n0 + 4 ∨ i = n0 + 5)
def DistI (n0 : Nat) (W0 : World) (north : Int) (east : List Int) (a b : Nat) (L : List At) (W : World) : Prop :=
  Blk W (n0 + 4) 3 #[.int .i64 (loQ north east a b L)] ∧ Blk W (n0 + 5) 3 #[.int .i64 (hiQ north east a b L)] ∧ Fr (fun i => i = n0 + 4 ∨ i = n0 + 5) W0 W
theorem distI_own (n0 : Nat) (W0 : World) (north : Int) (east : List Int) (a b : Nat) (hz : n0 + 9 ≤ W0.heap.size) (L : List At) {X Y : World} {row : Option Nat} (h : DistI n0 W0 north east a b L X) (hg : X.grownBy Y row) (hr : ∀ g, row = some g → W0.heap.size ≤ g) : DistI n0 W0 north east a b L Y := by
  obtain ⟨h1, h2, h3⟩ := h
  exact ⟨h1.grown hg (fun e => by have := hr _ e.symm; omega), h2.grown hg (fun e => by have := hr _ e.symm; omega), h3.grown hg (fun g e => .inr (hr g e))⟩

theorem Blk.newAt {X : World} {k : Nat} (h : X.heap.size = k) (t : TypeId) (cs : Array Value) : Blk (X.alloc (.cells cs t)) k t cs := h ▸ Blk.new X t cs
theorem w9_spec (w : World) (c0 c1 c2 c3 c4 c5 c6 c7 c8 : Array Value) (t0 t1 t2 t3 t4 t5 t6 t7 t8 : TypeId) (n0 : Nat) (hn0 : n0 = w.heap.size) (W0 : World)
    (h : W0 = (((((((((w.alloc (.cells c0 t0)).alloc (.cells c1 t1)).alloc (.cells c2 t2)).alloc (.cells c3 t3)).alloc (.cells c4 t4)).alloc (.cells c5 t5)).alloc (.cells c6 t6)).alloc (.cells c7 t7)).alloc (.cells c8 t8))) :
    G w W0 ∧ W0.heap.size = n0 + 9 ∧ Blk W0 n0 t0 c0 ∧ Blk W0 (n0 + 1) t1 c1 ∧ Blk W0 (n0 + 2) t2 c2 ∧ Blk W0 (n0 + 3) t3 c3 ∧ Blk W0 (n0 + 4) t4 c4 ∧ Blk W0 (n0 + 5) t5 c5 ∧ Blk W0 (n0 + 6) t6 c6 ∧ Blk W0 (n0 + 7) t7 c7 ∧ Blk W0 (n0 + 8) t8 c8 := by
  subst h
  refine ⟨((((((((((G.rf w).a _).a _).a _).a _).a _).a _).a _).a _).a _), by simp [hn0], ?_, ?_, ?_, ?_, ?_, ?_, ?_, ?_, ?_⟩
  · exact ((((((((Blk.newAt hn0.symm _ _).alloc _).alloc _).alloc _).alloc _).alloc _).alloc _).alloc _).alloc _
  · exact (((((((Blk.newAt (by simp [hn0]) _ _).alloc _).alloc _).alloc _).alloc _).alloc _).alloc _).alloc _
  · exact ((((((Blk.newAt (by simp [hn0]) _ _).alloc _).alloc _).alloc _).alloc _).alloc _).alloc _
  · exact (((((Blk.newAt (by simp [hn0]) _ _).alloc _).alloc _).alloc _).alloc _).alloc _
  · exact ((((Blk.newAt (by simp [hn0]) _ _).alloc _).alloc _).alloc _).alloc _
  · exact (((Blk.newAt (by simp [hn0]) _ _).alloc _).alloc _).alloc _
  · exact ((Blk.newAt (by simp [hn0]) _ _).alloc _).alloc _
  · exact (Blk.newAt (by simp [hn0]) _ _).alloc _
  · exact Blk.newAt (by simp [hn0]) _ _
theorem KC.setR {R : Nat → TypeId → Prop} {A B : World} {g i : Nat} {t : TypeId} {cs : Array Value} (h : KC R A B) (b : Blk B g t cs) (hr : R g t) (v : Value) : KC R A (B.setCell ⟨g, i, none⟩ v) :=
  ⟨by have := h.size; simpa [World.setCell] using this, fun k c t' f hk hn => by
    have h1 := h.block k c t' f hk hn
    refine (Below.heap_setCell B _ v k (fun e => ?_)).trans h1
    have e' : k = g := e
    rw [e', show B.heap[g]? = _ from b] at h1
    cases h1
    exact hn (e' ▸ hr)⟩

theorem res59 (tmps : Array Value) (w : World) (g : Nat) (x y : Int) (h : tmps.getD 8 undef = .pointer (some ⟨g, 0, none⟩)) (c0 : w.cell? ⟨g, 0, none⟩ = some (.int .i64 x)) (c1 : w.cell? ⟨g, 1, none⟩ = some (.int .i64 y)) :
    (results Try.f59 tmps).run Try.prog w = .ok (.agg #[.int .i64 x, .int .i64 y]) w := by
  have hr : Try.f59.results = #[.cell 8 46] := rfl
  have h' : tmps[8]?.getD undef = .pointer (some ⟨g, 0, none⟩) := by simpa using h
  simp only [results, hr]
  go_simp

set_option maxRecDepth 100000 in
set_option maxHeartbeats 4000000 in
theorem distance_in (n : Nat) (hn : 4 ≤ n) (north wrong : Int) (cols lofts a b : Nat) (east : List Int) (svs : List Sv) (ea sa : Option Addr) (ec sc O fs : Nat) (slv : Nat → Value) (rows : Nat → List Sp) (fv : Value) (rule : Int) (w : World)
    (he : IntsAt w ea east) (hv : validMapB north cols east lofts wrong = true) (hf : fs ≤ 128)
    (hO : Blk w O 91 (oc north cols (.slice ea east.length ec) lofts (.slice sa svs.length sc) wrong fs slv)) (hSp : ∀ j, j < lofts → SpotsAt w (slv j) (rows j))
    (hrl : ∀ j, j < lofts → (rows j).length ≤ 100) (hrg : ∀ l, l < lofts → ∀ s ∈ rows l, s.x < cols ∧ s.y < east.length) (ha : a < lofts) (hb : b < lofts) (hR : RoundAt w fv rule) (hne : truthsOf rows [a, b] (wrong - fs) ≠ []) :
    CallsIn Fence.wide n Try.prog 59 #[.pointer (some ⟨O, 0, none⟩), .int .i64 a, .int .i64 b, fv] w fun e w' =>
      e = .returned (.agg #[.int .i64 (rnd rule (loQ north east a b (truthsOf rows [a, b] (wrong - fs))).toNat), .int .i64 (rnd rule (hiQ north east a b (truthsOf rows [a, b] (wrong - fs))).toNat)]) ∧ G w w' := by
  obtain ⟨gf, flb, rfl, feg, hRC⟩ := hR
  have HRC := Lib.hid hRC
  clear hRC
  have hvb := vm_bounds hv
  obtain ⟨n0, hn0⟩ : ∃ n0, n0 = w.heap.size := ⟨_, rfl⟩
  have hal : ((a : Nat) : Int) < 8 := by omega
  have hbl : ((b : Nat) : Int) < 8 := by omega
  refine callsIn_of_wp_marks Try.func59 rfl trivial ?_ rfl
  simp only [Try.ntmps59, List.size_toArray, List.length_cons, List.length_nil, Nat.reduceAdd, Nat.reduceSub, Array.replicate_succ, Array.replicate_zero, List.push_toArray, List.append_toArray, List.nil_append, List.cons_append]
  gi_wp2_with (gi_at_call 58; refine (callsIn_wide.2 (truths_any _ _ _ _ _)).mono ?_; rintro e w' ⟨rfl, rfl⟩)
  simp only [Nat.add_assoc, Nat.reduceAdd]
  rw [← hn0]
  generalize hW0 : (((((((((w.alloc (.cells #[.pointer (some ⟨O, 0, none⟩)] 75)).alloc (.cells #[.int .i64 a] 3)).alloc (.cells #[.int .i64 b] 3)).alloc (.cells #[.int .i64 0, .int .i64 0] 46)).alloc (.cells #[.int .i64 9223372036854775807] 3)).alloc (.cells #[.int .i64 0] 3)).alloc (.cells #[.int .i64 a, .int .i64 b] 3)).alloc (.cells #[.pointer (some ⟨O, 0, none⟩)] 75)).alloc (.cells #[.slice (some ⟨n0 + 6, 0, none⟩) 2 2] 22)) = W0
  obtain ⟨g0, z0, b0, b1, b2, b3, b4, b5, b6, b7, b8⟩ := w9_spec w _ _ _ _ _ _ _ _ _ _ _ _ _ _ _ _ _ _ n0 hn0 W0 hW0.symm
  clear hW0
  have hGof : ∀ W, Fr (fun i => i = n0 + 4 ∨ i = n0 + 5) W0 W → G w W := fun W hfr => ((G.fr g0).t hfr).toG (fun i hi h => by omega)
  have HN0 := Lib.hid hn0
  clear hn0
  have hseq := truths_seq (n - 1) (Rd n0) O (n0 + 7) (n0 + 8) (n0 + 6) 0 2 [a, b] north wrong cols lofts (.slice ea east.length ec) (.slice sa svs.length sc) fs slv rows W0 (by omega) hrl
    (fun i h => absurd h.1 (by decide)) (fun i h => absurd h.1 (by decide)) (fun i h => absurd h.1 (by decide)) (fun i hi h => by have := h.2; omega) (by omega) hf (by simp) (by simp) (by simp [ha, hb])
    ⟨⟨hO.keep g0, fun j hj => (hSp j hj).of (fun g cur hb => hb.keep g0)⟩, b7, b8, by omega, by
      intro k hk
      have hk2 : k < 2 := by simpa using hk
      rw [b6.cell]
      match k, hk2 with
      | 0, _ => rfl
      | 1, _ => rfl⟩
  have hgood : ∀ f ∈ truthsOf rows [a, b] (wrong - fs), ((f a).1 < cols ∧ (f a).2 < east.length) ∧ ((f b).1 < cols ∧ (f b).2 < east.length) := fun f hf => truths_good (fun l hl => hrg l (by rcases hl with rfl | rfl <;> assumption)) hf
  generalize hL : truthsOf rows [a, b] (wrong - fs) = L at *
  have HL := Lib.hid hL
  clear hL
  refine rangeFunc_T (F := Fence.wide) (α := { f : At // f ∈ L }) (T := T2) (gf := 88) (lb := #[.pointer (some ⟨n0 + 8, 0, none⟩), .pointer (some ⟨n0 + 7, 0, none⟩)]) rfl (by omega) rfl trivial (enters_of Try.func88 (by kernel_rfl) rfl)
    (ev := fun x => .agg (pc x.1)) (Kp := KC (Rd n0)) hseq (Below.refl _ _) (fun h k => KC.t h k) (fun W l o o' _ h1 h2 => KC.put W l o o' h1 h2) (fun W o => G.kc ((G.rf W).a o))
    (fun pre W => DistI n0 W0 north east a b (pre.map (·.1)) W) (fun _ _ _ => False) ?hI (fun _ _ _ _ _ h _ _ => h) ?hIT (fun _ _ _ _ _ _ h _ => h) ?h0 11 82 (fun x => pc x.1) ?assign ?body ?done ?stop
  case hI => exact fun s X Y row h hg hr => distI_own n0 W0 north east a b (by omega) _ h hg (fun g e => (hr g e).1)
  case hIT =>
    rintro B hB s X Y ⟨h1, h2, h3⟩ hk
    exact ⟨hk.blk h1 (.inl (by omega)), hk.blk h2 (.inl (by omega)), h3.kt hk hB⟩
  case h0 => exact ⟨b4, b5, Fr.rf _ _⟩
  case assign =>
    intro l x W K hK
    unfold pc at hK ⊢
    gi_wp2
    exact hK
  case body =>
    rintro l pre x Bp W ⟨i1, i2, hfr⟩ hBp bP hN
    have hG0 : G w W := hGof W hfr
    obtain ⟨⟨ga1, ga2⟩, ⟨gb1, gb2⟩⟩ := hgood x.1 x.2
    have hSQ := fun (W' : World) (hW' : G W W') => square_any north cols lofts wrong ((x.1 a).1 : Int) ((x.1 b).1 : Int) (x.1 a).2 (x.1 b).2 east ea ec (.slice sa svs.length sc) W' (he.below (hG0.t hW')) hv ga2 gb2 (by simp [isInB]; omega) (by simp [isInB]; omega)
    have hsn1 := loQ_snoc north east a b (pre.map (·.1)) x.1
    have hsn2 := hiQ_snoc north east a b (pre.map (·.1)) x.1
    have hq2 : sqI north east ((x.1 a).1 : Int) ((x.1 a).2 : Int) ((x.1 b).1 : Int) ((x.1 b).2 : Int) = q2 north east a b x.1 := rfl
    simp only [hq2] at hSQ
    generalize q2 north east a b x.1 = q at hsn1 hsn2 hSQ
    have HSQ := Lib.hid hSQ
    have HS1 := Lib.hid hsn1
    have HS2 := Lib.hid hsn2
    clear hSQ hsn1 hsn2 hq2 hgood hseq hne HRC hrl hrg hSp
    have e0 := hfr.blk b0 (by omega)
    have e1 := hfr.blk b1 (by omega)
    have e2 := hfr.blk b2 (by omega)
    have eO := hO.keep hG0
    obtain ⟨pa1, pa2⟩ := pc_get x.1 (l := a) (by omega)
    obtain ⟨pb1, pb2⟩ := pc_get x.1 (l := b) (by omega)
    clear b0 b1 b2 b3 b4 b5 b6 b7 b8 hO he hvb
    gi_wp2
    refine wpIn_region_Y (l := some l) (S := G W) 10 12 rfl (by kernel_rfl) (fun ⟨_, _, h⟩ => h) (by kernel_rfl) (G.rf W).d (fun hS => ?_)
    have fO : ∀ W', G W W' → W'.cell? ⟨n0, 0, none⟩ = some (.pointer (some ⟨O, 0, none⟩)) := fun W' h => (e0.keep h).cell 0
    have fa : ∀ W', G W W' → W'.cell? ⟨n0 + 1, 0, none⟩ = some (.int .i64 a) := fun W' h => (e1.keep h).cell 0
    have fb : ∀ W', G W W' → W'.cell? ⟨n0 + 2, 0, none⟩ = some (.int .i64 b) := fun W' h => (e2.keep h).cell 0
    have fM0 : ∀ W', G W W' → W'.cell? ⟨O, 0, none⟩ = some (.int .i64 north) := fun W' h => (eO.keep h).cell 0
    have fM1 : ∀ W', G W W' → W'.cell? ⟨O, 1, none⟩ = some (.int .i64 cols) := fun W' h => (eO.keep h).cell 1
    have fM2 : ∀ W', G W W' → W'.cell? ⟨O, 2, none⟩ = some (.slice ea east.length ec) := fun W' h => (eO.keep h).cell 2
    have fM3 : ∀ W', G W W' → W'.cell? ⟨O, 3, none⟩ = some (.int .i64 lofts) := fun W' h => (eO.keep h).cell 3
    have fM4 : ∀ W', G W W' → W'.cell? ⟨O, 4, none⟩ = some (.slice sa svs.length sc) := fun W' h => (eO.keep h).cell 4
    have fM5 : ∀ W', G W W' → W'.cell? ⟨O, 5, none⟩ = some (.int .i64 wrong) := fun W' h => (eO.keep h).cell 5
    have fP1 : ∀ W', G W W' → W'.cell? ⟨Bp, a * 2, none⟩ = some (.int .i64 (x.1 a).1) := fun W' h => ((bP.keep h).cell _).trans pa1
    have fP2 : ∀ W', G W W' → W'.cell? ⟨Bp, a * 2 + 1, none⟩ = some (.int .i64 (x.1 a).2) := fun W' h => ((bP.keep h).cell _).trans pa2
    have fP3 : ∀ W', G W W' → W'.cell? ⟨Bp, b * 2, none⟩ = some (.int .i64 (x.1 b).1) := fun W' h => ((bP.keep h).cell _).trans pb1
    have fP4 : ∀ W', G W W' → W'.cell? ⟨Bp, b * 2 + 1, none⟩ = some (.int .i64 (x.1 b).2) := fun W' h => ((bP.keep h).cell _).trans pb2
    clear pa1 pa2 pb1 pb2 e0 e1 e2 eO
    have HX : Hid (∃ f, x.1 = f) := ⟨_, rfl⟩
    generalize hxf : x.1 = f at ga1 ga2 gb1 gb2 bP HS1 HS2 HSQ fP1 fP2 fP3 fP4 ⊢
    replace HX := Lib.hid hxf
    clear hxf
    refine wpAnyY_take (i := 0) (v := ?_) rfl (by kernel_rfl) (by kernel_rfl) (by kernel_rfl) (by kernel_rfl) (fun _ _ _ h => h) (Or.inl ⟨by kernel_rfl, ?_⟩) (by assumption) ?_
    rotate_left
    · intro w' hSw; go_simp; with_reducible rfl
    try simp only [Act.put, List.setIfInBounds_toArray, List.set_cons_zero, List.set_cons_succ]
    refine wpAnyY_take (i := 1) (v := ?_) rfl (by kernel_rfl) (by kernel_rfl) (by kernel_rfl) (by kernel_rfl) (fun _ _ _ h => h) (Or.inl ⟨by kernel_rfl, ?_⟩) (by assumption) ?_
    rotate_left
    · intro w' hSw; go_simp; with_reducible rfl
    try simp only [Act.put, List.setIfInBounds_toArray, List.set_cons_zero, List.set_cons_succ]
    refine wpAnyY_take (i := 2) (v := ?_) rfl (by kernel_rfl) (by kernel_rfl) (by kernel_rfl) (by kernel_rfl) (fun _ _ _ h => h) (Or.inl ⟨by kernel_rfl, ?_⟩) (by assumption) ?_
    rotate_left
    · intro w' hSw; go_simp; with_reducible rfl
    try simp only [Act.put, List.setIfInBounds_toArray, List.set_cons_zero, List.set_cons_succ]
    refine wpAnyY_take (i := 3) (v := ?_) rfl (by kernel_rfl) (by kernel_rfl) (by kernel_rfl) (by kernel_rfl) (fun _ _ _ h => h) (Or.inl ⟨by kernel_rfl, ?_⟩) (by assumption) ?_
    rotate_left
    · intro w' hSw; go_simp; with_reducible rfl
    try simp only [Act.put, List.setIfInBounds_toArray, List.set_cons_zero, List.set_cons_succ]
    refine wpAnyY_take (i := 4) (v := ?_) rfl (by kernel_rfl) (by kernel_rfl) (by kernel_rfl) (by kernel_rfl) (fun _ _ _ h => h) (Or.inl ⟨by kernel_rfl, ?_⟩) (by assumption) ?_
    rotate_left
    · intro w' hSw; go_simp; with_reducible rfl
    try simp only [Act.put, List.setIfInBounds_toArray, List.set_cons_zero, List.set_cons_succ]
    refine wpAnyY_take (i := 5) (v := ?_) rfl (by kernel_rfl) (by kernel_rfl) (by kernel_rfl) (by kernel_rfl) (fun _ _ _ h => h) (Or.inl ⟨by kernel_rfl, ?_⟩) (by assumption) ?_
    rotate_left
    · intro w' hSw; go_simp; with_reducible rfl
    try simp only [Act.put, List.setIfInBounds_toArray, List.set_cons_zero, List.set_cons_succ]
    refine wpAnyY_take (i := 6) (v := ?_) rfl (by kernel_rfl) (by kernel_rfl) (by kernel_rfl) (by kernel_rfl) (fun _ _ _ h => h) (Or.inl ⟨by kernel_rfl, ?_⟩) (by assumption) ?_
    rotate_left
    · intro w' hSw; go_simp; with_reducible rfl
    try simp only [Act.put, List.setIfInBounds_toArray, List.set_cons_zero, List.set_cons_succ]
    refine wpAnyY_take (i := 7) (v := ?_) rfl (by kernel_rfl) (by kernel_rfl) (by kernel_rfl) (by kernel_rfl) (fun _ _ _ h => h) (Or.inl ⟨by kernel_rfl, ?_⟩) (by assumption) ?_
    rotate_left
    · intro w' hSw; go_simp; with_reducible rfl
    try simp only [Act.put, List.setIfInBounds_toArray, List.set_cons_zero, List.set_cons_succ]
    refine wpAnyY_take (i := 8) (v := ?_) rfl (by kernel_rfl) (by kernel_rfl) (by kernel_rfl) (by kernel_rfl) (fun _ _ _ h => h) (Or.inl ⟨by kernel_rfl, ?_⟩) (by assumption) ?_
    rotate_left
    · intro w' hSw; go_simp; with_reducible rfl
    try simp only [Act.put, List.setIfInBounds_toArray, List.set_cons_zero, List.set_cons_succ]
    refine wpAnyY_take (i := 9) (v := ?_) rfl (by kernel_rfl) (by kernel_rfl) (by kernel_rfl) (by kernel_rfl) (fun _ _ _ h => h) (Or.inl ⟨by kernel_rfl, ?_⟩) (by assumption) ?_
    rotate_left
    · intro w' hSw; go_simp; with_reducible rfl
    try simp only [Act.put, List.setIfInBounds_toArray, List.set_cons_zero, List.set_cons_succ]
    refine wpAnyY_oneW (i := 10) (by kernel_rfl) rfl (by kernel_rfl) (by kernel_rfl) (fun K10 hK10 => ?_)
    go_simp
    refine (HSQ.out _ (G.rf W).d).mono ?_
    rintro e w2 ⟨rfl, hG2⟩
    have hGx : G W w2 := (G.rf W).d.t hG2
    clear fO fa fb fM0 fM1 fM2 fM3 fM4 fM5 fP1 fP2 fP3 fP4 hS hG2
    refine hK10.out _ _ ?_
    try simp only [Act.put, List.setIfInBounds_toArray, List.set_cons_zero, List.set_cons_succ]
    refine wpAnyY_oneW (i := 11) (by kernel_rfl) rfl (by kernel_rfl) (by kernel_rfl) (fun K11 hK11 => ?_)
    go_simp
    refine hK11.out _ _ ?_
    try simp only [Act.put, List.setIfInBounds_toArray, List.set_cons_zero, List.set_cons_succ]
    refine wpAnyY_done (by kernel_rfl) ?_ _
    have j1 := i1.keep hGx
    have j2 := i2.keep hGx
    generalize loQ north east a b (pre.map (·.1)) = lo at *
    generalize hiQ north east a b (pre.map (·.1)) = hi at *
    gi_wp2
    refine wpIn_region_Y (l := some l) (S := fun W' => Blk W' (n0 + 5) 3 #[.int .i64 hi]) 7 8 rfl (by kernel_rfl) (fun ⟨_, _, h⟩ => h) (by kernel_rfl) (j2.keep (G.rf w2).d) (fun hS => ?_)
    refine wpAnyY_take (i := 1) (v := ?_) rfl (by kernel_rfl) (by kernel_rfl) (by kernel_rfl) (by kernel_rfl) (fun _ _ _ h => h) (Or.inl ⟨by kernel_rfl, ?_⟩) (by assumption) ?_
    rotate_left
    · intro w' hSw; have := hSw.cell 0; go_simp; with_reducible rfl
    try simp only [Act.put, List.setIfInBounds_toArray, List.set_cons_zero, List.set_cons_succ]
    refine wpAnyY_take (i := 3) (v := ?_) rfl (by kernel_rfl) (by kernel_rfl) (by kernel_rfl) (by kernel_rfl) (fun _ _ _ h => h) (Or.inl ⟨by kernel_rfl, ?_⟩) (by assumption) ?_
    rotate_left
    · intro w' hSw; have := hSw.cell 0; go_simp; with_reducible rfl
    try simp only [Act.put, List.setIfInBounds_toArray, List.set_cons_zero, List.set_cons_succ]
    refine wpAnyY_take (i := 4) (v := ?_) rfl (by kernel_rfl) (by kernel_rfl) (by kernel_rfl) (by kernel_rfl) (fun _ _ _ h => h) (Or.inl ⟨by kernel_rfl, ?_⟩) (by assumption) ?_
    rotate_left
    · intro w' hSw; have := hSw.cell 0; go_simp; with_reducible rfl
    try simp only [Act.put, List.setIfInBounds_toArray, List.set_cons_zero, List.set_cons_succ]
    refine wpAnyY_take (i := 5) (v := ?_) rfl (by kernel_rfl) (by kernel_rfl) (by kernel_rfl) (by kernel_rfl) (fun _ _ _ h => h) (Or.inl ⟨by kernel_rfl, ?_⟩) (by assumption) ?_
    rotate_left
    · intro w' hSw; have := hSw.cell 0; go_simp; with_reducible rfl
    try simp only [Act.put, List.setIfInBounds_toArray, List.set_cons_zero, List.set_cons_succ]
    have c1 : w2.cell? ⟨n0 + 4, 0, none⟩ = some (.int .i64 lo) := j1.cell 0
    have z1 := j1.frozen 0
    have z2 := j2.frozen 0
    have l1 := j1.lt
    have l2 := j2.lt
    refine wpAnyY_oneSW (i := 0) (by kernel_rfl) rfl (by kernel_rfl) (fun K0 hK0 => ?_)
    go_simp
    refine hK0.out _ _ hS (fun _ => ?_)
    try simp only [Act.put, List.setIfInBounds_toArray, List.set_cons_zero, List.set_cons_succ]
    refine wpAnyY_oneSW (i := 2) (by kernel_rfl) rfl (by kernel_rfl) (fun K2 hK2 => ?_)
    go_simp
    refine hK2.out _ _ hS (fun _ => ?_)
    try simp only [Act.put, List.setIfInBounds_toArray, List.set_cons_zero, List.set_cons_succ]
    refine wpAnyY_oneSW (i := 6) (by kernel_rfl) rfl (by kernel_rfl) (fun K6 hK6 => ?_)
    go_simp
    have k1 := j1.set_ 0 (.int .i64 (min lo q))
    have k2 : Blk (w2.setCell ⟨n0 + 4, 0, none⟩ (.int .i64 (min lo q))) (n0 + 5) 3 #[.int .i64 hi] := j2.far (by simp) _
    have r1 : Fr (fun i => i = n0 + 4 ∨ i = n0 + 5) W (w2.setCell ⟨n0 + 4, 0, none⟩ (.int .i64 (min lo q))) := (G.fr hGx).s (.inl (.inl rfl)) _
    have q1 : KC (Rd n0) W (w2.setCell ⟨n0 + 4, 0, none⟩ (.int .i64 (min lo q))) := (G.kc hGx).setR j1 ⟨rfl, .inl rfl⟩ _
    generalize w2.setCell ⟨n0 + 4, 0, none⟩ (.int .i64 (min lo q)) = w3 at *
    refine hK6.out _ _ (k2.keep (G.rf w3).d) (fun _ => ?_)
    try simp only [Act.put, List.setIfInBounds_toArray, List.set_cons_zero, List.set_cons_succ]
    have z3 := k2.frozen 0
    have c3 : w3.cell? ⟨n0 + 5, 0, none⟩ = some (.int .i64 hi) := k2.cell 0
    have l3 := k2.lt
    refine wpAnyY_oneW (i := 7) (by kernel_rfl) rfl (by kernel_rfl) (by kernel_rfl) (fun K7 hK7 => ?_)
    go_simp
    have m1 : Blk (w3.setCell ⟨n0 + 5, 0, none⟩ (.int .i64 (max hi q))) (n0 + 4) 3 #[.int .i64 (min lo q)] := k1.far (by simp) _
    have m2 := k2.set_ 0 (.int .i64 (max hi q))
    have r2 : Fr (fun i => i = n0 + 4 ∨ i = n0 + 5) W (w3.setCell ⟨n0 + 5, 0, none⟩ (.int .i64 (max hi q))) := r1.s (.inl (.inr rfl)) _
    have q2' : KC (Rd n0) W (w3.setCell ⟨n0 + 5, 0, none⟩ (.int .i64 (max hi q))) := q1.setR k2 ⟨rfl, .inr rfl⟩ _
    generalize w3.setCell ⟨n0 + 5, 0, none⟩ (.int .i64 (max hi q)) = w4 at *
    refine hK7.out _ _ ?_
    refine wpAnyY_done (by kernel_rfl) ?_ _
    have hfin : KeepsFrom W0.heap.size W w4.drew ∧ KC (Rd n0) W w4.drew ∧ DistI n0 W0 north east a b ((pre ++ [x]).map (·.1)) w4.drew := by
      refine ⟨r2.d.keeps (fun i hi _ => ?_) _, q2'.t (G.kc (G.rf w4).d), ?_, ?_, hfr.t r2.d⟩
      · rcases hi with rfl | rfl
        · exact ⟨_, _, _, i1⟩
        · exact ⟨_, _, _, i2⟩
      · rw [List.map_append, List.map_singleton, HX.out, HS1.out]
        exact m1.keep (G.rf w4).d
      · rw [List.map_append, List.map_singleton, HX.out, HS2.out]
        exact m2.keep (G.rf w4).d
    gi_wp2
    exact hfin
  case done =>
    rintro D xs W hD hxs ⟨i1, i2, hfr⟩ hDef
    have hxs : xs.map (·.1) = L := hxs
    rw [hxs] at i1 i2
    have hG0 : G w W := hGof W hfr
    have hqb : ∀ f ∈ L, 0 ≤ q2 north east a b f ∧ q2 north east a b f ≤ 2592000000000000 := fun f hf => by
      obtain ⟨⟨ga1, ga2⟩, ⟨gb1, gb2⟩⟩ := hgood f hf
      exact sq_bd hv ga2 gb2 (by simp [isInB]; omega) (by simp [isInB]; omega)
    have lb := loQ_bd L 9223372036854775807 hqb (by omega)
    have hb2 := hiQ_bd L 0 hqb (by omega) (by omega)
    have lb2 := lb.2 (.inr hne)
    replace lb := lb.1
    rw [show L.foldl (fun m f => min m (q2 north east a b f)) 9223372036854775807 = loQ north east a b L from rfl] at lb lb2
    rw [show L.foldl (fun m f => max m (q2 north east a b f)) 0 = hiQ north east a b L from rfl] at hb2
    have e3 := hfr.blk b3 (by omega)
    generalize hlo1 : loQ north east a b L = lo at *
    generalize hhi1 : hiQ north east a b L = hi at *
    have HLo := Lib.hid hlo1
    have HHi := Lib.hid hhi1
    clear hlo1 hhi1
    clear b0 b1 b2 b3 b4 b5 b6 b7 b8 hgood hqb hseq hne hO he hvb hrl hrg hSp hGof
    gi_wp2
    refine wpIn_region_Y (l := none) (S := fun W' => Blk W' (n0 + 4) 3 #[.int .i64 lo] ∧ Blk W' (n0 + 5) 3 #[.int .i64 hi]) 7 8 rfl (by kernel_rfl) (fun ⟨_, _, h⟩ => by rcases h with h | h <;> cases h.1) (by kernel_rfl) ⟨i1.keep (G.rf W).d, i2.keep (G.rf W).d⟩ (fun hS => ?_)
    have f1 : ∀ W', (Blk W' (n0 + 4) 3 #[.int .i64 lo] ∧ Blk W' (n0 + 5) 3 #[.int .i64 hi]) → W'.cell? ⟨n0 + 4, 0, none⟩ = some (.int .i64 lo) := fun W' h => h.1.cell 0
    have f2 : ∀ W', (Blk W' (n0 + 4) 3 #[.int .i64 lo] ∧ Blk W' (n0 + 5) 3 #[.int .i64 hi]) → W'.cell? ⟨n0 + 5, 0, none⟩ = some (.int .i64 hi) := fun W' h => h.2.cell 0
    refine wpAnyY_take (i := 0) (v := ?_) rfl (by kernel_rfl) (by kernel_rfl) (by kernel_rfl) (by kernel_rfl) (fun _ _ _ h => h) (Or.inl ⟨by kernel_rfl, ?_⟩) (by assumption) ?_
    rotate_left
    · intro w' hSw; go_simp; with_reducible rfl
    try simp only [Act.put, List.setIfInBounds_toArray, List.set_cons_zero, List.set_cons_succ]
    refine wpAnyY_take (i := 1) (v := ?_) rfl (by kernel_rfl) (by kernel_rfl) (by kernel_rfl) (by kernel_rfl) (fun _ _ _ h => h) (Or.inl ⟨by kernel_rfl, ?_⟩) (by assumption) ?_
    rotate_left
    · intro w' hSw; go_simp; with_reducible rfl
    try simp only [Act.put, List.setIfInBounds_toArray, List.set_cons_zero, List.set_cons_succ]
    refine wpAnyY_take (i := 3) (v := ?_) rfl (by kernel_rfl) (by kernel_rfl) (by kernel_rfl) (by kernel_rfl) (fun _ _ _ h => h) (Or.inl ⟨by kernel_rfl, ?_⟩) (by assumption) ?_
    rotate_left
    · intro w' hSw; go_simp; with_reducible rfl
    try simp only [Act.put, List.setIfInBounds_toArray, List.set_cons_zero, List.set_cons_succ]
    refine wpAnyY_take (i := 4) (v := ?_) rfl (by kernel_rfl) (by kernel_rfl) (by kernel_rfl) (by kernel_rfl) (fun _ _ _ h => h) (Or.inl ⟨by kernel_rfl, ?_⟩) (by assumption) ?_
    rotate_left
    · intro w' hSw; go_simp; with_reducible rfl
    try simp only [Act.put, List.setIfInBounds_toArray, List.set_cons_zero, List.set_cons_succ]
    refine wpAnyY_oneSW (i := 2) (by kernel_rfl) rfl (by kernel_rfl) (fun K2 hK2 => ?_)
    go_simp
    refine (HRC.out W.drew lo hG0.d lb (by omega)).mono ?_
    rintro e w2 ⟨rfl, hG2⟩
    have i1 := (i1.keep (G.rf W).d).keep hG2
    have i2 := (i2.keep (G.rf W).d).keep hG2
    have e3 := (e3.keep (G.rf W).d).keep hG2
    have hDef : w2.heap[D]? = some (.deferred (some [])) := (hG2.block D (Array.getElem?_eq_some_iff.1 hDef).1).trans hDef
    have hfr : Fr (fun i => i = n0 + 4 ∨ i = n0 + 5) W0 w2 := hfr.d.g hG2
    have hG0 : G w w2 := hG0.d.t hG2
    clear hG2 hS
    refine hK2.out _ _ ⟨i1, i2⟩ (fun hS => ?_)
    try simp only [Act.put, List.setIfInBounds_toArray, List.set_cons_zero, List.set_cons_succ]
    refine wpAnyY_oneSW (i := 5) (by kernel_rfl) rfl (by kernel_rfl) (fun K5 hK5 => ?_)
    go_simp
    refine (HRC.out w2 hi hG0 hb2.1 (by omega)).mono ?_
    rintro e w3 ⟨rfl, hG2⟩
    have i1 := i1.keep hG2
    have i2 := i2.keep hG2
    have e3 := e3.keep hG2
    have hDef : w3.heap[D]? = some (.deferred (some [])) := (hG2.block D (Array.getElem?_eq_some_iff.1 hDef).1).trans hDef
    have hfr : Fr (fun i => i = n0 + 4 ∨ i = n0 + 5) W0 w3 := hfr.g hG2
    have hG0 : G w w3 := hG0.t hG2
    clear hG2 hS
    refine hK5.out _ _ ⟨i1, i2⟩ (fun hS => ?_)
    try simp only [Act.put, List.setIfInBounds_toArray, List.set_cons_zero, List.set_cons_succ]
    refine wpAnyY_oneSW (i := 6) (by kernel_rfl) rfl (by kernel_rfl) (fun K6 hK6 => ?_)
    go_simp
    refine hK6.out _ _ ⟨i1, i2⟩ (fun _ => ?_)
    try simp only [Act.put, List.setIfInBounds_toArray, List.set_cons_zero, List.set_cons_succ]
    have d0 : w3.cell? ⟨n0 + 3, 0, none⟩ = some (.int .i64 0) := e3.cell 0
    have d1 : w3.cell? ⟨n0 + 3, 1, none⟩ = some (.int .i64 0) := e3.cell 1
    have z0 := e3.frozen 0
    have z1 := e3.frozen 1
    have l3 := e3.lt
    refine wpAnyY_oneW (i := 7) (by kernel_rfl) rfl (by kernel_rfl) (by kernel_rfl) (fun K7 hK7 => ?_)
    go_simp
    have e5 := (e3.set_ 0 (.int .i64 (rnd rule lo.toNat))).set_ 1 (.int .i64 (rnd rule hi.toNat))
    have hDef : ((w3.setCell ⟨n0 + 3, 0, none⟩ (.int .i64 (rnd rule lo.toNat))).setCell ⟨n0 + 3, 1, none⟩ (.int .i64 (rnd rule hi.toNat))).heap[D]? = some (.deferred (some [])) :=
      (Below.heap_setCell _ _ _ _ (by simp; omega)).trans ((Below.heap_setCell _ _ _ _ (by simp; omega)).trans hDef)
    have hG0 : G w ((w3.setCell ⟨n0 + 3, 0, none⟩ (.int .i64 (rnd rule lo.toNat))).setCell ⟨n0 + 3, 1, none⟩ (.int .i64 (rnd rule hi.toNat))) := (hG0.s (by have := HN0.out; simp; omega) _).s (by have := HN0.out; simp; omega) _
    have hD2 : w.heap.size ≤ D := by have := HN0.out; omega
    clear d0 d1 z0 z1 l3 i1 i2 hfr e3 f1 f2
    refine hK7.out _ _ ?_
    clear hK7 hK6 hK5 hK2
    generalize (w3.setCell ⟨n0 + 3, 0, none⟩ (.int .i64 (rnd rule lo.toNat))).setCell ⟨n0 + 3, 1, none⟩ (.int .i64 (rnd rule hi.toNat)) = w4 at *
    have d0 : w4.cell? ⟨n0 + 3, 0, none⟩ = some (.int .i64 (rnd rule lo.toNat)) := e5.cell 0
    have d1 : w4.cell? ⟨n0 + 3, 1, none⟩ = some (.int .i64 (rnd rule hi.toNat)) := e5.cell 1
    refine wpAnyY_done (by kernel_rfl) ?_ _
    gi_wp2
    refine ⟨by simp, .inl ⟨_, _, rfl, run_takeDeferred hDef, ?_⟩⟩
    have hf : Fr (fun i => i = D) w4 (w4.putObj D (.deferred none)) := ⟨rfl, rfl, rfl, by simp [World.putObj], fun i _ hn => World.putObj_heap_other hn⟩
    have e6 := hf.blk e5 (by omega)
    have hG5 : G w (w4.putObj D (.deferred none)) := ((G.fr (R := fun _ => False) hG0).t2 hf (fun i hi h => by omega)).toG (fun _ _ h => h)
    exact ⟨_, res59 _ _ (n0 + 3) _ _ rfl (e6.cell 0) (e6.cell 1), by rw [HL.out, HLo.out, HHi.out], hG5⟩
  case stop =>
    rintro D c pre W _ _ h _
    exact h.elim
end Go.Proofs.Ytpjfdfddcnocpaa
