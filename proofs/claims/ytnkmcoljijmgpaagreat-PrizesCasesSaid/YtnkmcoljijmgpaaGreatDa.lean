import Derived.ChangeOld
import Derived.Test.YtnkmcoljijmgpaaGreatCf
set_option linter.unusedSimpArgs false
set_option linter.unusedVariables false
namespace Go.Proofs.YtnkmcoljijmgpaaGreat
open Go.RowKit Go.Shelf Go.ChangeShapes Go.WideShapes Go.ChangeAt
attribute [local go_sem] Oper.semAt_some
set_option maxRecDepth 100000
/-- a slice that is nil has no capacity -/
def Ra.Nil (r : Ra) : Prop := (r.ta = none → r.tc = 0) ∧ (∀ i, i < r.racers.length → (r.racers.getD i default).pa = none → (r.racers.getD i default).pc = 0) ∧ ∀ i, i < r.pools.length → (r.pools.getD i default).ta = none → (r.pools.getD i default).tc = 0
section
variable {H : Type} {enc : TypeId × Value → H} {w : World} {fuel : Nat}
theorem ints_ofCN {cs : List Value} {x : DataW H × List MemPlace} (h : DataW.trod enc Tryz.prog w 0 (fun _ => true) true fuel 24 cs = some x) :
    ∃ (a : Option Addr) (cap : Nat) (l : List Int), cs = [.slice a l.length cap] ∧ (IntsAt w a l ∧ (a = none → cap = 0)) ∧ l.length ≤ cap := by
  rcases open_ints Tryz.underlying24 Tryz.underlying3 k3 h with ⟨rfl, _⟩ | ⟨a, len, cap, zs, rfl, hlc, hl, hm, hz, _, hcell, _⟩
  · exact ⟨none, 0, [], rfl, ⟨.inl rfl, fun _ => rfl⟩, by simp⟩
  · simp at hz
    have hlen : (zs.take len).length = len := by simp; omega
    refine ⟨some a, cap, zs.take len, by rw [hlen], ⟨?_, fun h => by cases h⟩, by omega⟩
    rcases Nat.eq_zero_or_pos len with h0 | h0
    · left; simp [h0]
    · right
      have c0 := hcell 0 (by omega)
      obtain ⟨b, off, spot⟩ := a
      have hspot : spot = none := by simpa [Addr.add] using World.cell?_spot c0
      subst hspot
      refine ⟨b, off, rfl, lt_of_cell (by simpa [Addr.add] using c0), fun k hk => ?_⟩
      have ck := hcell k (by omega)
      have hk2 : k < len := by omega
      have hk3 : k < zs.length := by omega
      rw [add_none] at ck
      simp [hk3] at ck
      simp [hk2, hk3, ck]
theorem racer_ofN {cs : List Value} {x : DataW H × List MemPlace} (h : DataW.trod enc Tryz.prog w 0 (fun _ => true) true fuel 60 cs = some x) :
    ∃ y : Rc, cs = y.v.toList ∧ (IntsAt w y.pa y.pools ∧ (y.pa = none → y.pc = 0)) := by
  obtain ⟨xs, n, _, rfl, hl, hlen, hf⟩ := DataW.trod_struct Tryz.underlying60 h
  rw [k60] at hl
  match cs, hl, xs, hlen with
  | [c0, c1, c2, c3, c4], _, [y0, y1, y2, y3, y4], _ =>
    have h0 := hf 0 _ rfl
    have h1 := hf 1 _ rfl
    have h2 := hf 2 _ rfl
    have h3 := hf 3 _ rfl
    have h4 := hf 4 _ rfl
    simp [k3, k24] at h0 h1 h2 h3 h4
    obtain ⟨a0, e0, _, _⟩ := DataW.trod_int Tryz.underlying3 h0
    obtain ⟨a1, e1, _, _⟩ := DataW.trod_int Tryz.underlying3 h1
    obtain ⟨a2, e2, _, _⟩ := DataW.trod_int Tryz.underlying3 h2
    obtain ⟨a3, e3, _, _⟩ := DataW.trod_int Tryz.underlying3 h3
    obtain ⟨ea, ec, l, e4, g4, _⟩ := ints_ofCN h4
    simp at e0 e1 e2 e3 e4
    subst e0 e1 e2 e3 e4
    exact ⟨⟨a0, a1, a2, a3, ea, ec, l⟩, rfl, g4⟩
theorem pool_of8N {cs : List Value} {x : DataW H × List MemPlace} (h : DataW.trod enc Tryz.prog w 0 (fun _ => true) true fuel 42 cs = some x) :
    ∃ y : Po, cs = y.v.toList ∧ (IntsAt w y.ta y.table ∧ (y.ta = none → y.tc = 0)) := by
  obtain ⟨xs, n, _, rfl, hl, hlen, hf⟩ := DataW.trod_struct Tryz.underlying42 h
  rw [k42] at hl
  match cs, hl, xs, hlen with
  | [c0, c1, c2, c3, c4, c5], _, [y0, y1, y2, y3, y4, y5], _ =>
    have h0 := hf 0 _ rfl
    have h1 := hf 1 _ rfl
    have h2 := hf 2 _ rfl
    have h3 := hf 3 _ rfl
    have h4 := hf 4 _ rfl
    have h5 := hf 5 _ rfl
    simp [k3, k24, k4] at h0 h1 h2 h3 h4 h5
    obtain ⟨a0, e0, _, _⟩ := DataW.trod_int Tryz.underlying3 h0
    obtain ⟨a1, e1, _, _⟩ := DataW.trod_int Tryz.underlying3 h1
    obtain ⟨a2, e2, _, _⟩ := DataW.trod_int Tryz.underlying3 h2
    obtain ⟨ea, ec, l, e3, g3, _⟩ := ints_ofCN h3
    obtain ⟨a4, e4, _, _⟩ := DataW.trod_int Tryz.underlying3 h4
    obtain ⟨b5, e5, _⟩ := DataW.trod_bool Tryz.underlying4 h5
    simp at e0 e1 e2 e3 e4 e5
    subst e0 e1 e2 e3 e4 e5
    exact ⟨⟨a0, a1, a2, ea, ec, l, a4, b5⟩, rfl, g3⟩
end
section
variable {H : Type} {enc : TypeId × Value → H} {w : World} {fuel : Nat}
theorem racers_ofN {cs : List Value} {x : DataW H × List MemPlace} (h : DataW.trod enc Tryz.prog w 0 (fun _ => true) true fuel 22 cs = some x) :
    ∃ (a : Option Addr) (cap : Nat) (l : List Rc), cs = [.slice a l.length cap] ∧ (RcsAt w a l ∧ ∀ i, i < l.length → (l.getD i default).pa = none → (l.getD i default).pc = 0) ∧ l.length ≤ cap := by
  rcases Deep.open_slice Tryz.underlying22 h with ⟨rfl, _⟩ | ⟨a, len, cap, m, n, D, Pl, rfl, hlc, hl, hm, hmm, _, hel⟩
  · exact ⟨none, 0, [], rfl, ⟨⟨.inl rfl, fun i hi => by simp at hi⟩, fun i hi => by simp at hi⟩, by simp⟩
  · simp at hmm
    rcases Nat.eq_zero_or_pos len with h0 | h0
    · subst h0
      exact ⟨some a, cap, [], rfl, ⟨⟨.inl rfl, fun i hi => by simp at hi⟩, fun i hi => by simp at hi⟩, by simp⟩
    · have hspot : a.spot = none := by
        obtain ⟨cs', h1, h2⟩ := hel 0 (by omega)
        obtain ⟨s, rfl, _⟩ := racer_ofN h2
        obtain ⟨_, _, hc⟩ := World.cells?_some h1
        rw [k60] at hc
        have c0 := hc 0 (by omega)
        simpa [Addr.add] using World.cell?_spot c0
      obtain ⟨b, off, spot⟩ := a
      simp only at hspot
      subst hspot
      have key : ∀ i, ∃ s : Rc, i < len → (∀ r, r < 5 → w.cell? ⟨b, off + i * 5 + r, none⟩ = s.v[r]?) ∧ (IntsAt w s.pa s.pools ∧ (s.pa = none → s.pc = 0)) := fun i => by
        by_cases hi : i < len
        · obtain ⟨cs', h1, h2⟩ := hel i (by omega)
          obtain ⟨s, rfl, hs⟩ := racer_ofN h2
          obtain ⟨_, _, hc⟩ := World.cells?_some h1
          rw [k60] at hc
          simp only [add_none] at hc
          refine ⟨s, fun _ => ⟨fun r hr => ?_, hs⟩⟩
          have := hc r hr
          rw [this]
          obtain ⟨s0, s1, s2, s3, s4, s5, s6⟩ := s
          match r, hr with
          | 0, _ => rfl
          | 1, _ => rfl
          | 2, _ => rfl
          | 3, _ => rfl
          | 4, _ => rfl
        · exact ⟨default, fun h => absurd h hi⟩
      obtain ⟨f, hf⟩ := Classical.axiomOfChoice key
      have hlen : ((List.range len).map f).length = len := by simp
      have hget : ∀ k, k < len → ((List.range len).map f).getD k default = f k := fun k hk => by simp [List.getD_eq_getElem?_getD, hk]
      refine ⟨some ⟨b, off, none⟩, cap, (List.range len).map f, by rw [hlen], ⟨⟨.inr ⟨b, off, rfl, lt_of_cell ((hf 0 h0).1 0 (by omega)), fun k hk r hr => ?_⟩, fun k hk => ?_⟩, fun k hk => ?_⟩, by omega⟩
      · rw [hlen] at hk
        rw [hget k hk]
        exact (hf k hk).1 r hr
      · rw [hlen] at hk
        rw [hget k hk]
        exact (hf k hk).2.1
      · rw [hlen] at hk
        rw [hget k hk]
        exact (hf k hk).2.2
end
section
variable {H : Type} {enc : TypeId × Value → H} {w : World} {fuel : Nat}
theorem pools_of8N {cs : List Value} {x : DataW H × List MemPlace} (h : DataW.trod enc Tryz.prog w 0 (fun _ => true) true fuel 23 cs = some x) :
    ∃ (a : Option Addr) (cap : Nat) (l : List Po), cs = [.slice a l.length cap] ∧ (PosAt w a l ∧ ∀ i, i < l.length → (l.getD i default).ta = none → (l.getD i default).tc = 0) ∧ l.length ≤ cap := by
  rcases Deep.open_slice Tryz.underlying23 h with ⟨rfl, _⟩ | ⟨a, len, cap, m, n, D, Pl, rfl, hlc, hl, hm, hmm, _, hel⟩
  · exact ⟨none, 0, [], rfl, ⟨⟨.inl rfl, fun i hi => by simp at hi⟩, fun i hi => by simp at hi⟩, by simp⟩
  · simp at hmm
    rcases Nat.eq_zero_or_pos len with h0 | h0
    · subst h0
      exact ⟨some a, cap, [], rfl, ⟨⟨.inl rfl, fun i hi => by simp at hi⟩, fun i hi => by simp at hi⟩, by simp⟩
    · have hspot : a.spot = none := by
        obtain ⟨cs', h1, h2⟩ := hel 0 (by omega)
        obtain ⟨s, rfl, _⟩ := pool_of8N h2
        obtain ⟨_, _, hc⟩ := World.cells?_some h1
        rw [k42] at hc
        have c0 := hc 0 (by omega)
        simpa [Addr.add] using World.cell?_spot c0
      obtain ⟨b, off, spot⟩ := a
      simp only at hspot
      subst hspot
      have key : ∀ i, ∃ s : Po, i < len → (∀ r, r < 6 → w.cell? ⟨b, off + i * 6 + r, none⟩ = s.v[r]?) ∧ (IntsAt w s.ta s.table ∧ (s.ta = none → s.tc = 0)) := fun i => by
        by_cases hi : i < len
        · obtain ⟨cs', h1, h2⟩ := hel i (by omega)
          obtain ⟨s, rfl, hs⟩ := pool_of8N h2
          obtain ⟨_, _, hc⟩ := World.cells?_some h1
          rw [k42] at hc
          simp only [add_none] at hc
          refine ⟨s, fun _ => ⟨fun r hr => ?_, hs⟩⟩
          have := hc r hr
          rw [this]
          obtain ⟨s0, s1, s2, s3, s4, s5, s6, s7⟩ := s
          match r, hr with
          | 0, _ => rfl
          | 1, _ => rfl
          | 2, _ => rfl
          | 3, _ => rfl
          | 4, _ => rfl
          | 5, _ => rfl
        · exact ⟨default, fun h => absurd h hi⟩
      obtain ⟨f, hf⟩ := Classical.axiomOfChoice key
      have hlen : ((List.range len).map f).length = len := by simp
      have hget : ∀ k, k < len → ((List.range len).map f).getD k default = f k := fun k hk => by simp [List.getD_eq_getElem?_getD, hk]
      refine ⟨some ⟨b, off, none⟩, cap, (List.range len).map f, by rw [hlen], ⟨⟨.inr ⟨b, off, rfl, lt_of_cell ((hf 0 h0).1 0 (by omega)), fun k hk r hr => ?_⟩, fun k hk => ?_⟩, fun k hk => ?_⟩, by omega⟩
      · rw [hlen] at hk
        rw [hget k hk]
        exact (hf k hk).1 r hr
      · rw [hlen] at hk
        rw [hget k hk]
        exact (hf k hk).2.1
      · rw [hlen] at hk
        rw [hget k hk]
        exact (hf k hk).2.2
end
theorem race_ofN {H : Type} {enc : TypeId × Value → H} {w : World} {v : Value} {d : DataW H} {p : List MemPlace} {r : Reach} {b0 : Nat} (hv : Value.okWide Tryz.prog w r b0 26 v) (h : DataW.Trod enc Tryz.prog w 0 (fun _ => true) true 26 v d p) :
    ∃ R : Ra, v = .agg R.v ∧ R.Laid w ∧ R.Nil := by
  obtain ⟨cs, rfl, hsz⟩ := okWide_struct Tryz.underlying26 hv
  rw [k26] at hsz
  obtain ⟨l⟩ := cs
  obtain ⟨fuel, hf0⟩ := h
  obtain ⟨xs, n, _, _, hl, hlen, hf⟩ := DataW.trod_struct Tryz.underlying26 hf0
  match l, hsz, xs, hlen with
  | [c0, c1, c2], _, [y0, y1, y2], _ =>
    have h0 := hf 0 _ rfl
    have h1 := hf 1 _ rfl
    have h2 := hf 2 _ rfl
    simp [k24, k22p, k23p, Value.cells] at h0 h1 h2
    obtain ⟨ra, rc, racers, e0, g0, m0⟩ := racers_ofN h0
    obtain ⟨pa, pc, pools, e1, g1, m1⟩ := pools_of8N h1
    obtain ⟨ta, tc, prots, e2, g2, m2⟩ := ints_ofCN h2
    simp at e0 e1 e2
    subst e0 e1 e2
    exact ⟨⟨ra, rc, racers, pa, pc, pools, ta, tc, prots⟩, rfl, ⟨g0.1, g1.1, g2.1, m0, m2⟩, g2.2, g0.2, g1.2⟩
end Go.Proofs.YtnkmcoljijmgpaaGreat
set_option linter.unusedSimpArgs false
set_option linter.unusedVariables false
namespace Go.Proofs.YtnkmcoljijmgpaaGreat
open Go.RowKit Go.Shelf Go.Sort Go.Maps
attribute [local go_sem] Oper.semAt_some
theorem wpList_append_ints {W : World} {ops : Array Oper} {rest : List Oper} {o : Oper} {act : Act} {Q : Exit → Act → World → Prop} (hgd : o.guard = none) (s x : Operand)
    (ho : o.op = .call { callee := .builtin .append, args := #[s, x], argTypes := #[24, 24] }) (base : Nat) (v : Value) (hs : act.eval s = v) (hown : W.ownsRow base 3 1 v 0 [])
    (a : Option Addr) (l : List Int) (c : Nat) (hx : act.eval x = .slice a l.length c) (hI : IntsAt W a l) (hn : a = none → c = 0) (hl : l.length ≤ 1000) (hbase : base ≤ W.heap.size)
    (h : ∀ v' w', w'.ownsRow base 3 1 v' l.length (iv l) → W.grownBy w' v.ownBlock → wpList Tryz.prog ops Q rest (act.put o.dst v') w') : wpList Tryz.prog ops Q (o :: rest) act W := by
  obtain ⟨i0, hi0, hz0, hz1, hz2⟩ := info_parts info3
  cases a with
  | none =>
    have hl0 : l = [] := by
      rcases hI with h | ⟨_, _, h, _⟩
      · exact h
      · cases h
    subst hl0
    rw [hn rfl] at hx
    exact wpList_append_own_none hgd s x 24 ho base 3 i0 1 Tryz.underlying24 hi0 v 0 [] hs hown hx (h v W hown ⟨rfl, rfl, rfl, Nat.le_refl _, fun _ _ _ => rfl⟩)
  | some ad =>
    refine wpList_append_own _ hgd s x 24 ho base 3 i0 (.int .i64 0) 1 8 Tryz.underlying24 hi0 hz0 hz1 hz2 rfl (by decide) v 0 [] hs hown ad l.length c (iv l) hx (by rw [iv_len, Nat.mul_one]) ?_ (fun u hu => ?_) (by unfold maxLen; omega) (by omega) hbase (fun v' w' h1 h2 _ => ?_)
    · intro j u hu
      rcases hI with h | ⟨b, off, he, _, hc⟩
      · subst h
        simp [iv] at hu
      · cases he
        have hj : j < l.length := by
          have := (List.getElem?_eq_some_iff.1 hu).1
          rwa [iv_len] at this
        rw [add_off, hc j hj, ← iv_get l hj, hu]
    · obtain ⟨z, _, rfl⟩ := List.mem_map.1 hu
      rfl
    · rw [Nat.zero_add, List.nil_append] at h1
      exact h v' w' h1 h2
def rcP (x : Rc) : Int × Int × Int × Int × List Int := (x.bird, x.owner, x.rank, x.day, x.pools)
def poP (x : Po) : Int × Int × Int × List Int × Int × Bool := (x.stake, x.cut, x.kind, x.table, x.quota, x.first)
/-- a copy, of blocks of its own -/
structure CpIs (W : World) (B : Nat) (r o : Ra) : Prop where
  rr : W.ownsRow B 60 5 (.slice o.ra o.racers.length o.rc) o.racers.length (rcV o.racers)
  rp : ∀ y ∈ o.racers, W.ownsRow B 3 1 (.slice y.pa y.pools.length y.pc) y.pools.length (iv y.pools)
  pr : W.ownsRow B 42 6 (.slice o.pa o.pools.length o.pc) o.pools.length (cv Po.v o.pools)
  pt : ∀ y ∈ o.pools, W.ownsRow B 3 1 (.slice y.ta y.table.length y.tc) y.table.length (iv y.table)
  tr : W.ownsRow B 3 1 (.slice o.ta o.protests.length o.tc) o.protests.length (iv o.protests)
  er : o.racers.map rcP = r.racers.map rcP
  ep : o.pools.map poP = r.pools.map poP
  et : o.protests = r.protests
def CpPost (r : Ra) (w : World) (e : Ending) (w' : World) : Prop := G w w' ∧ ∃ o, e = .returned (.agg o.v) ∧ CpIs w' w.heap.size r o
/-- the racers that are copied so far -/
def CrAt (W : World) (B : Nat) (v : Value) (L : List Rc) : Prop := W.ownsRow B 60 5 v L.length (rcV L) ∧ ∀ y ∈ L, W.ownsRow B 3 1 (.slice y.pa y.pools.length y.pc) y.pools.length (iv y.pools)
def CoAt (W : World) (B : Nat) (v : Value) (L : List Po) : Prop := W.ownsRow B 42 6 v L.length (cv Po.v L) ∧ ∀ y ∈ L, W.ownsRow B 3 1 (.slice y.ta y.table.length y.tc) y.table.length (iv y.table)
theorem CrAt.keep {W W' : World} {B : Nat} {v : Value} {L : List Rc} (h : CrAt W B v L) (hG : G W W') : CrAt W' B v L := ⟨own_G h.1 hG, fun y hy => own_G (h.2 y hy) hG⟩
theorem CoAt.keep {W W' : World} {B : Nat} {v : Value} {L : List Po} (h : CoAt W B v L) (hG : G W W') : CoAt W' B v L := ⟨own_G h.1 hG, fun y hy => own_G (h.2 y hy) hG⟩
theorem info42 : (Tryz.prog.info? 42).map (fun i => (i.zero, i.size, i.bytes)) = some (some (.agg #[.int .i64 0, .int .i64 0, .int .i64 0, .slice none 0 0, .int .i64 0, .bool false]), 6, 64) := by kernel_rfl
theorem res24 (tmps : Array Value) (w : World) (g : Nat) (a0 a1 a2 : Option Addr) (k0 k1 k2 c0' c1' c2' : Nat) (h : tmps.getD 2 undef = .pointer (some ⟨g, 0, none⟩)) (hB : Blk w g 26 #[.slice a0 k0 c0', .slice a1 k1 c1', .slice a2 k2 c2']) :
    (results Tryz.f24 tmps).run Tryz.prog w = .ok (.agg #[.slice a0 k0 c0', .slice a1 k1 c1', .slice a2 k2 c2']) w := by
  have c0 := hB.cell 0
  have c1 := hB.cell 1
  have c2 := hB.cell 2
  clear hB
  have hr : Tryz.f24.results = #[.cell 2 26] := rfl
  have h' : tmps[2]?.getD undef = .pointer (some ⟨g, 0, none⟩) := by simpa using h
  simp only [results, hr]
  go_simp
set_option maxRecDepth 100000 in
set_option maxHeartbeats 8000000 in
theorem Copy_any (r : Ra) (w : World) (h : r.At w) (hn : r.Nil) : Calls Tryz.prog 24 #[.agg r.v] w (CpPost r w) := by
  have HP : Hid (∀ o w', CpIs w' w.heap.size r o → G w w' → CpPost r w (.returned (.agg o.v)) w') := fun o w' a b => ⟨b, o, rfl, a⟩
  generalize CpPost r w = PP at *
  have hrv : r.v = #[.slice r.ra r.racers.length r.rc, .slice r.pa r.pools.length r.pc, .slice r.ta r.protests.length r.tc] := rfl
  rw [hrv]
  have HAT := Lib.hid h
  have HNI := Lib.hid hn
  have htn := hn.1
  have htl := h.nt
  have HTT := Lib.hid (fun (W : World) (hW : G w W) => (h.keep hW).ts)
  have hnr := h.nr
  have hnp := h.np
  clear h hn hrv
  have g0 : G w (((w.alloc (.cells #[.slice r.ra r.racers.length r.rc, .slice r.pa r.pools.length r.pc, .slice r.ta r.protests.length r.tc] 26)).alloc (.cells #[.slice none 0 0, .slice none 0 0, .slice none 0 0] 26)).alloc (.cells #[] 3)) := (((G.rf _).a _).a _).a _
  have b0 : Blk (((w.alloc (.cells #[.slice r.ra r.racers.length r.rc, .slice r.pa r.pools.length r.pc, .slice r.ta r.protests.length r.tc] 26)).alloc (.cells #[.slice none 0 0, .slice none 0 0, .slice none 0 0] 26)).alloc (.cells #[] 3)) w.heap.size 26 #[.slice r.ra r.racers.length r.rc, .slice r.pa r.pools.length r.pc, .slice r.ta r.protests.length r.tc] := ((Blk.new _ _ _).alloc _).alloc _
  have b1 : Blk (((w.alloc (.cells #[.slice r.ra r.racers.length r.rc, .slice r.pa r.pools.length r.pc, .slice r.ta r.protests.length r.tc] 26)).alloc (.cells #[.slice none 0 0, .slice none 0 0, .slice none 0 0] 26)).alloc (.cells #[] 3)) (w.heap.size + 1) 26 #[.slice none 0 0, .slice none 0 0, .slice none 0 0] := (Blk.new1 _ _ _ _).alloc _
  have b2 := own_empty (Blk.new2 w (.cells #[.slice r.ra r.racers.length r.rc, .slice r.pa r.pools.length r.pc, .slice r.ta r.protests.length r.tc] 26) (.cells #[.slice none 0 0, .slice none 0 0, .slice none 0 0] 26) 3 #[]) 1
  go_enter Tryz.func24, Tryz.ntmps24
  go_wp2_with (at_builtin; refine wpList_append_ints rfl _ _ rfl (w.heap.size + 1 + 1) _ rfl b2 r.ta r.protests r.tc rfl (HTT.out _ g0) htn htl ?_ ?_)
  · simp only [World.alloc, Array.size_push]
    omega
  intro v1 w1 hown1 hg1
  rw [show (Value.slice (some ⟨w.heap.size + 1 + 1, 0, none⟩) 0 0).ownBlock = some (w.heap.size + 1 + 1) from rfl] at hg1
  replace b0 := b0.grown hg1 (fun e => by injection e with e; omega)
  replace b1 := b1.grown hg1 (fun e => by injection e with e; omega)
  have f1 : Fr (fun _ => False) w w1 := (G.fr g0).grown hg1 (fun g e => .inr (by injection e with e; omega))
  replace g0 : G w w1 := f1.toG (fun _ _ h => h)
  obtain ⟨ka, kc, rfl⟩ := own_slice hown1
  clear f1 hg1 b2
  have m0 := b0.cell 0
  have m1 := b0.cell 1
  have m2 := b0.cell 2
  have l0 := b0.lt
  go_upto_region 2 with fail
  have g1 : G w (w1.alloc (.cells #[.slice none 0 0, .slice none 0 0, .slice ka r.protests.length kc] 26)) := g0.a _
  have b01 := b0.alloc (.cells #[.slice none 0 0, .slice none 0 0, .slice ka r.protests.length kc] 26)
  have b11 := b1.alloc (.cells #[.slice none 0 0, .slice none 0 0, .slice ka r.protests.length kc] 26)
  have bN : Blk (w1.alloc (.cells #[.slice none 0 0, .slice none 0 0, .slice ka r.protests.length kc] 26)) w1.heap.size 26 #[.slice none 0 0, .slice none 0 0, .slice ka r.protests.length kc] := Blk.new _ _ _
  have HT1 := Lib.hid (own_G hown1 ((G.rf w1).a (.cells #[.slice none 0 0, .slice none 0 0, .slice ka r.protests.length kc] 26)))
  have hs1 : (w1.alloc (.cells #[.slice none 0 0, .slice none 0 0, .slice ka r.protests.length kc] 26)).heap.size = w1.heap.size + 1 := World.size_alloc _ _
  have hw1 : w.heap.size + 1 < w1.heap.size := b1.lt
  clear m0 m1 m2 l0 hown1 b0 b1 g0
  obtain ⟨N, hN⟩ : ∃ N, N = w1.heap.size := ⟨_, rfl⟩
  change Code.wp _ _ _ _ (w1.alloc (.cells #[.slice none 0 0, .slice none 0 0, .slice ka r.protests.length kc] 26))
  rw [← hN] at bN hs1 hw1 ⊢
  clear hN
  generalize w1.alloc (.cells #[.slice none 0 0, .slice none 0 0, .slice ka r.protests.length kc] 26) = W1 at *
  have HS1 := Lib.hid hs1
  have HB0 := Lib.hid b01
  have HB1 := Lib.hid b11
  clear hs1
  have hrow := HAT.out.rs.row
  have HROW := Lib.hid hrow
  clear hrow b01 b11
  go_wp2_with fail
  go_loopw [4] (fun i wr => ∃ (k : Nat) (v : Value) (L : List Rc), k ≤ r.racers.length ∧ i = .int .i64 k ∧ Hid (Blk wr N 26 #[v, .slice none 0 0, .slice ka r.protests.length kc]) ∧ Hid (CrAt wr (N + 1) v L) ∧ Hid (L.map rcP = (r.racers.take k).map rcP) ∧ L.length ≤ k ∧ Hid (wr.ownsRow (w.heap.size + 1 + 1) 3 1 (.slice ka r.protests.length kc) r.protests.length (iv r.protests)) ∧ Hid (Fr (fun i => i = N) W1 wr)) (fun i _ => r.racers.length - (intOf i).toNat)
  case atStart => exact ⟨0, .slice none 0 0, [], Nat.zero_le _, rfl, bN, ⟨World.ownsRow_nil _ _ _ _, fun y hy => by simp at hy⟩, by simp [Hid], Nat.le_refl _, HT1, Fr.rf _ _⟩
  case round =>
    clear bN
    obtain ⟨k, v, L, hk, rfl, HBN, HCA, HLL, hLk, HTR, HFR⟩ := hrel
    obtain ⟨wo, rfl⟩ : ∃ wo, wo = wr := ⟨_, rfl⟩
    have gwo : G w wo := ((G.fr (R := fun _ => False) g1).t2 HFR.out (fun i hi e => by omega)).toG (fun _ _ h => h)
    have hszo : N + 1 ≤ wo.heap.size := by have := HFR.out.size; have := HS1.out; omega
    have bo := HFR.out.blk HB0.out (by omega)
    have m0 := bo.cell 0
    have l0 := bo.lt
    by_cases hlt : k < r.racers.length
    · have hki : (k : Int) < r.racers.length := by omega
      have hrow2 := HROW.out.below gwo
      rcases hrow2 with hx | ⟨gr, ofr, hre, hgr, hcell⟩
      · omega
      rw [hre] at m0
      have m0' : wo.cell? ⟨w.heap.size, 0, none⟩ = some (.slice (some ⟨gr, ofr, none⟩) r.racers.length r.rc) := m0
      have hcl := hcell k hlt
      have hyi := (HAT.out.keep gwo).rs.pools k hlt
      have hyn := HNI.out.2.1 k hlt
      have hyl := HAT.out.nq k hlt
      have HTK := Lib.hid (show (r.racers.take (k + 1)).map rcP = (r.racers.take k).map rcP ++ [rcP (r.racers.getD k default)] by
        rw [List.take_add_one, List.getElem?_eq_getElem hlt, List.map_append, List.getD_eq_getElem?_getD, List.getElem?_eq_getElem hlt]
        rfl)
      obtain ⟨y, hy⟩ : ∃ y, y = r.racers.getD k default := ⟨_, rfl⟩
      rw [← hy] at hcl hyi hyn hyl HTK
      clear hy hcell m0 hre
      obtain ⟨zbird, zowner, zrank, zday, zpa, zpc, zpools⟩ := y
      unfold Rc.v at hcl
      dsimp only at hyi hyn hyl
      have HYI := Lib.hid hyi
      have HYN := Lib.hid hyn
      have q0 : wo.cell? ⟨gr, ofr + k * 5, none⟩ = some (.int .i64 zbird) := hcl 0 (by omega)
      have q1 : wo.cell? ⟨gr, ofr + k * 5 + 1, none⟩ = some (.int .i64 zowner) := hcl 1 (by omega)
      have q2 : wo.cell? ⟨gr, ofr + k * 5 + 2, none⟩ = some (.int .i64 zrank) := hcl 2 (by omega)
      have q3 : wo.cell? ⟨gr, ofr + k * 5 + 3, none⟩ = some (.int .i64 zday) := hcl 3 (by omega)
      have q4 : wo.cell? ⟨gr, ofr + k * 5 + 4, none⟩ = some (.slice zpa zpools.length zpc) := hcl 4 (by omega)
      clear hcl hyi hyn
      go_upto_region 6 with fail
      have ga : G wo (wo.alloc (.cells #[.int .i64 zbird, .int .i64 zowner, .int .i64 zrank, .int .i64 zday, .slice zpa zpools.length zpc] 60)) := (G.rf wo).a _
      have bx : Blk (wo.alloc (.cells #[.int .i64 zbird, .int .i64 zowner, .int .i64 zrank, .int .i64 zday, .slice zpa zpools.length zpc] 60)) wo.heap.size 60 #[.int .i64 zbird, .int .i64 zowner, .int .i64 zrank, .int .i64 zday, .slice zpa zpools.length zpc] := Blk.new _ _ _
      clear q0 q1 q2 q3 q4 m0' l0 hgr
      obtain ⟨gx, hgx2⟩ : ∃ gx, gx = wo.heap.size := ⟨_, rfl⟩
      change Code.wp _ _ _ _ (wo.alloc (.cells #[.int .i64 zbird, .int .i64 zowner, .int .i64 zrank, .int .i64 zday, .slice zpa zpools.length zpc] 60))
      rw [← hgx2] at bx ⊢
      have hgx3 : wo.heap.size ≤ gx := Nat.le_of_eq hgx2.symm
      have hs4 : (wo.alloc (.cells #[.int .i64 zbird, .int .i64 zowner, .int .i64 zrank, .int .i64 zday, .slice zpa zpools.length zpc] 60)).heap.size = gx + 1 := by rw [hgx2, World.size_alloc]
      clear hgx2
      generalize wo.alloc (.cells #[.int .i64 zbird, .int .i64 zowner, .int .i64 zrank, .int .i64 zday, .slice zpa zpools.length zpc] 60) = w4 at *
      have n4 := bx.cell 4
      have ln := bx.lt
      have hE : (w4.alloc (.cells #[] 3)).ownsRow w4.heap.size 3 1 (.slice (some ⟨w4.heap.size, 0, none⟩) 0 0) 0 [] := own_empty (Blk.new w4 3 #[]) 1
      have HS4 := Lib.hid hs4
      clear hs4
      go_wp2_with (at_builtin; refine wpList_append_ints rfl _ _ rfl w4.heap.size _ rfl hE zpa zpools zpc rfl (HYI.out.below (ga.a _)) HYN.out hyl ?hb6 ?hr6)
      case hb6 => simp only [World.alloc, Array.size_push]; omega
      case hr6 =>
        intro v5 w5 hown5 hg5
        rw [show (Value.slice (some ⟨w4.heap.size, 0, none⟩) 0 0).ownBlock = some w4.heap.size from rfl] at hg5
        have bx5 := (bx.alloc (.cells #[] 3)).grown hg5 (fun e => by injection e with e; omega)
        have f5 : Fr (fun _ => False) w4 w5 := ((G.rf w4).a (.cells #[] 3)).fr.grown hg5 (fun g e => .inr (by injection e with e; omega))
        have g45 : G w4 w5 := f5.toG (fun _ _ h => h)
        obtain ⟨na, nc, rfl⟩ := own_slice hown5
        have hw4 : gx < w4.heap.size := ln
        clear n4 ln f5 hg5 hE
        have n4 := bx5.cell 4
        have z4 := bx5.frozen 4
        have ln := bx5.lt
        go_upto_region 7 with fail
        have g6 : G wo (w5.setCell ⟨gx, 4, none⟩ (.slice na zpools.length nc)) := (ga.t g45).s (p := ⟨gx, 4, none⟩) hgx3 _
        have bx6 : Blk (w5.setCell ⟨gx, 4, none⟩ (.slice na zpools.length nc)) gx 60 #[.int .i64 zbird, .int .i64 zowner, .int .i64 zrank, .int .i64 zday, .slice na zpools.length nc] := by
          have b := bx5.set_ 4 (.slice na zpools.length nc)
          simp only [List.setIfInBounds_toArray, List.set_cons_zero, List.set_cons_succ] at b
          exact b
        have HW6 := Lib.hid (own_weaken (hown5.kept (grownBy_set _ ⟨gx, 4, none⟩ (.slice na zpools.length nc)) (.inr (own_ne hown5 bx5 (by decide)).symm)) (base' := N + 1) (by omega))
        clear n4 z4 ln bx5 g45 hown5 bx
        generalize w5.setCell ⟨gx, 4, none⟩ (.slice na zpools.length nc) = w6 at *
        have HC6 := Lib.hid (HCA.out.keep g6)
        have HB6 := Lib.hid (HBN.out.keep g6)
        have HT6 := Lib.hid (own_G HTR.out g6)
        have m0 := HB6.out.cell 0
        have l0 := HB6.out.lt
        have n0 := bx6.cell 0
        have n1 := bx6.cell 1
        have n2 := bx6.cell 2
        have n3 := bx6.cell 3
        have n4 := bx6.cell 4
        have ln := bx6.lt
        have hgx4 : N + 1 ≤ w6.heap.size := by have := g6.size; omega
        have HGX := Lib.hid hgx4
        clear hgx4
        obtain ⟨i0, hi0, hz0, hz1, hz2⟩ := info_parts info60
        go_wp2_with (at_builtin; refine wpList_append_own _ rfl _ _ 22 rfl (N + 1) 60 i0 (.agg #[.int .i64 0, .int .i64 0, .int .i64 0, .int .i64 0, .slice none 0 0]) 5 56 Tryz.underlying22 hi0 hz0 hz1 hz2 rfl (by decide) _ L.length (rcV L) rfl ?hown ⟨_, 0, none⟩ 1 1 [.int .i64 zbird, .int .i64 zowner, .int .i64 zrank, .int .i64 zday, .slice na zpools.length nc] rfl rfl (cell_new5 _ _ _) (by simp [Value.oneCell']) (by unfold maxLen; omega) (by omega) ?hbase ?hrest)
        case hown => exact own_G HC6.out.1 ((G.rf _).a _)
        case hbase => have := HGX.out; simp only [World.alloc, Array.size_push]; omega
        case hrest =>
          intro v9 w9 hown9 hg9 _
          obtain ⟨va9, vc9, rfl⟩ := own_slice hown9
          have ga9 : G w6 (w6.alloc (.cells #[.int .i64 zbird, .int .i64 zowner, .int .i64 zrank, .int .i64 zday, .slice na zpools.length nc] 60)) := (G.rf w6).a _
          have ho3 := own_G HC6.out.1 ga9
          have HB9 := Lib.hid ((HB6.out.keep ga9).grown hg9 (own_ne ho3 (HB6.out.keep ga9) (by decide)))
          have HF9 := Lib.hid ((HFR.out.g (g6.t ga9)).grown hg9 (fun g hg => .inr (by have := own_ge ho3 g hg; have := HS1.out; omega)))
          have HK9 : Hid (∀ B v n xs, w6.ownsRow B 3 1 v n xs → w9.ownsRow B 3 1 v n xs) := fun B v n xs hb => (own_G hb ga9).kept hg9 (own_own (own_G hb ga9) ho3 (by decide))
          have HN9 := Lib.hid hown9
          clear hown9 hg9 ho3 n0 n1 n2 n3 n4 ln m0 l0
          have m0 := HB9.out.cell 0
          have lf := HB9.out.lt
          have fz := HB9.out.frozen 0
          go_wp2
          go_roundw
          case rel =>
            have hst : ∀ B v n xs, w9.ownsRow B 3 1 v n xs → (w9.setCell ⟨N, 0, none⟩ (.slice va9 (L.length + 1) vc9)).ownsRow B 3 1 v n xs := fun B v n xs hb => hb.kept (grownBy_set _ _ _) (.inr (own_ne hb HB9.out (by decide)).symm)
            exact ⟨k + 1, .slice va9 (L.length + 1) vc9, L ++ [⟨zbird, zowner, zrank, zday, na, nc, zpools⟩], by omega, by go_num, by
              have b := HB9.out.set_ 0 (.slice va9 (L.length + 1) vc9)
              simp only [List.setIfInBounds_toArray, List.set_cons_zero, List.set_cons_succ] at b
              exact b, ⟨by
              rw [List.length_append, rcV_snoc]
              exact HN9.out.kept (grownBy_set _ _ _) (.inr (own_ne HN9.out HB9.out (by decide)).symm), fun y hy => by
              rcases List.mem_append.1 hy with h | h
              · exact hst _ _ _ _ (HK9.out _ _ _ _ (HC6.out.2 y h))
              · obtain rfl : y = _ := List.mem_singleton.1 h
                exact hst _ _ _ _ (HK9.out _ _ _ _ HW6.out)⟩, by
              show _ = _
              rw [HTK.out, List.map_append, HLL.out]
              rfl, by rw [List.length_append]; exact Nat.add_le_add hLk (Nat.le_refl 1), hst _ _ _ _ (HK9.out _ _ _ _ HT6.out), HF9.out.s (p := ⟨N, 0, none⟩) (.inl rfl) _⟩
          case measure => simp [intOf] <;> omega
    · obtain rfl : k = r.racers.length := by omega
      have hki : ¬ ((r.racers.length : Nat) : Int) < r.racers.length := by omega
      have hLL : L.map rcP = r.racers.map rcP := by have := HLL.out; rwa [List.take_length] at this
      have HLE := Lib.hid hLL
      obtain ⟨ra, rc, rfl⟩ := own_slice HCA.out.1
      have HB1o := Lib.hid (HFR.out.blk HB1.out (by omega))
      have HB0o := Lib.hid bo
      have hmN : wo.cell? ⟨N, 0, none⟩ = some (.slice ra L.length rc) := HBN.out.cell 0
      clear hLL HLL hmN
      go_wp2_with fail
      clear m0 l0 bo
      go_loopw [6] (fun i wr => ∃ (k : Nat) (v : Value) (M : List Po), k ≤ r.pools.length ∧ i = .int .i64 k ∧ Hid (Blk wr N 26 #[.slice ra L.length rc, v, .slice ka r.protests.length kc]) ∧ Hid (CoAt wr (N + 1) v M) ∧ Hid (M.map poP = (r.pools.take k).map poP) ∧ M.length ≤ k ∧ Hid (wr.ownsRow (w.heap.size + 1 + 1) 3 1 (.slice ka r.protests.length kc) r.protests.length (iv r.protests) ∧ CrAt wr (N + 1) (.slice ra L.length rc) L) ∧ Hid (Fr (fun i => i = N) W1 wr)) (fun i _ => r.pools.length - (intOf i).toNat)
      case atStart => exact ⟨0, .slice none 0 0, [], Nat.zero_le _, rfl, HBN.out, ⟨World.ownsRow_nil _ _ _ _, fun y hy => by simp at hy⟩, by simp [Hid], Nat.le_refl _, ⟨HTR.out, HCA.out⟩, HFR.out⟩
      case round =>
        obtain ⟨k, v, M, hk2, rfl, HBM, HCO, HMM, hMk, HKS, HFS⟩ := hrel
        obtain ⟨wu, rfl⟩ : ∃ wu, wu = wr := ⟨_, rfl⟩
        have gwu : G w wu := ((G.fr (R := fun _ => False) g1).t2 HFS.out (fun i hi e => by omega)).toG (fun _ _ h => h)
        have hszu : N + 1 ≤ wu.heap.size := by have := HFS.out.size; have := HS1.out; omega
        have bu := HFS.out.blk HB0.out (by omega)
        have m1 := bu.cell 1
        have l0 := bu.lt
        by_cases hlt : k < r.pools.length
        · have hki2 : (k : Int) < r.pools.length := by omega
          have hrow2 := (HAT.out.keep gwu).ps.row
          rcases hrow2 with hx | ⟨gr, ofr, hre, hgr, hcell⟩
          · omega
          rw [hre] at m1
          have m1' : wu.cell? ⟨w.heap.size, 1, none⟩ = some (.slice (some ⟨gr, ofr, none⟩) r.pools.length r.pc) := m1
          have hcl := hcell k hlt
          have hyi := (HAT.out.keep gwu).ps.tables k hlt
          have hyn := HNI.out.2.2 k hlt
          have hyl := HAT.out.nb k hlt
          have HTK := Lib.hid (show (r.pools.take (k + 1)).map poP = (r.pools.take k).map poP ++ [poP (r.pools.getD k default)] by
            rw [List.take_add_one, List.getElem?_eq_getElem hlt, List.map_append, List.getD_eq_getElem?_getD, List.getElem?_eq_getElem hlt]
            rfl)
          obtain ⟨y, hy⟩ : ∃ y, y = r.pools.getD k default := ⟨_, rfl⟩
          rw [← hy] at hcl hyi hyn hyl HTK
          clear hy hcell m1 hre
          obtain ⟨ystake, ycut, ykind, yta, ytc, ytable, yquota, yfirst⟩ := y
          unfold Po.v at hcl
          dsimp only at hyi hyn hyl
          have HYI := Lib.hid hyi
          have HYN := Lib.hid hyn
          have q0 : wu.cell? ⟨gr, ofr + k * 6, none⟩ = some (.int .i64 ystake) := hcl 0 (by omega)
          have q1 : wu.cell? ⟨gr, ofr + k * 6 + 1, none⟩ = some (.int .i64 ycut) := hcl 1 (by omega)
          have q2 : wu.cell? ⟨gr, ofr + k * 6 + 2, none⟩ = some (.int .i64 ykind) := hcl 2 (by omega)
          have q3 : wu.cell? ⟨gr, ofr + k * 6 + 3, none⟩ = some (.slice yta ytable.length ytc) := hcl 3 (by omega)
          have q4 : wu.cell? ⟨gr, ofr + k * 6 + 4, none⟩ = some (.int .i64 yquota) := hcl 4 (by omega)
          have q5 : wu.cell? ⟨gr, ofr + k * 6 + 5, none⟩ = some (.bool yfirst) := hcl 5 (by omega)
          clear hcl hyi hyn
          go_upto_region 12 with fail
          have ga : G wu (wu.alloc (.cells #[.int .i64 ystake, .int .i64 ycut, .int .i64 ykind, .slice yta ytable.length ytc, .int .i64 yquota, .bool yfirst] 42)) := (G.rf wu).a _
          have bx : Blk (wu.alloc (.cells #[.int .i64 ystake, .int .i64 ycut, .int .i64 ykind, .slice yta ytable.length ytc, .int .i64 yquota, .bool yfirst] 42)) wu.heap.size 42 #[.int .i64 ystake, .int .i64 ycut, .int .i64 ykind, .slice yta ytable.length ytc, .int .i64 yquota, .bool yfirst] := Blk.new _ _ _
          clear q0 q1 q2 q3 q4 q5 m1' l0 hgr
          obtain ⟨gx, hgx2⟩ : ∃ gx, gx = wu.heap.size := ⟨_, rfl⟩
          change Code.wp _ _ _ _ (wu.alloc (.cells #[.int .i64 ystake, .int .i64 ycut, .int .i64 ykind, .slice yta ytable.length ytc, .int .i64 yquota, .bool yfirst] 42))
          rw [← hgx2] at bx ⊢
          have hgx3 : wu.heap.size ≤ gx := Nat.le_of_eq hgx2.symm
          clear hgx2
          generalize wu.alloc (.cells #[.int .i64 ystake, .int .i64 ycut, .int .i64 ykind, .slice yta ytable.length ytc, .int .i64 yquota, .bool yfirst] 42) = w4 at *
          have n3 := bx.cell 3
          have ln := bx.lt
          have hE : (w4.alloc (.cells #[] 3)).ownsRow w4.heap.size 3 1 (.slice (some ⟨w4.heap.size, 0, none⟩) 0 0) 0 [] := own_empty (Blk.new w4 3 #[]) 1
          go_wp2_with (at_builtin; refine wpList_append_ints rfl _ _ rfl w4.heap.size _ rfl hE yta ytable ytc rfl (HYI.out.below (ga.a _)) HYN.out hyl ?hb6 ?hr6)
          case hb6 => simp only [World.alloc, Array.size_push]; omega
          case hr6 =>
            intro v5 w5 hown5 hg5
            rw [show (Value.slice (some ⟨w4.heap.size, 0, none⟩) 0 0).ownBlock = some w4.heap.size from rfl] at hg5
            have bx5 := (bx.alloc (.cells #[] 3)).grown hg5 (fun e => by injection e with e; omega)
            have f5 : Fr (fun _ => False) w4 w5 := ((G.rf w4).a (.cells #[] 3)).fr.grown hg5 (fun g e => .inr (by injection e with e; omega))
            have g45 : G w4 w5 := f5.toG (fun _ _ h => h)
            obtain ⟨na, nc, rfl⟩ := own_slice hown5
            have hw4 : gx < w4.heap.size := ln
            clear n3 ln f5 hg5 hE
            have n3 := bx5.cell 3
            have z3 := bx5.frozen 3
            have ln := bx5.lt
            go_upto_region 13 with fail
            have g6 : G wu (w5.setCell ⟨gx, 3, none⟩ (.slice na ytable.length nc)) := (ga.t g45).s (p := ⟨gx, 3, none⟩) hgx3 _
            have bx6 : Blk (w5.setCell ⟨gx, 3, none⟩ (.slice na ytable.length nc)) gx 42 #[.int .i64 ystake, .int .i64 ycut, .int .i64 ykind, .slice na ytable.length nc, .int .i64 yquota, .bool yfirst] := by
              have b := bx5.set_ 3 (.slice na ytable.length nc)
              simp only [List.setIfInBounds_toArray, List.set_cons_zero, List.set_cons_succ] at b
              exact b
            have HW6 := Lib.hid (own_weaken (hown5.kept (grownBy_set _ ⟨gx, 3, none⟩ (.slice na ytable.length nc)) (.inr (own_ne hown5 bx5 (by decide)).symm)) (base' := N + 1) (by omega))
            clear n3 z3 ln bx5 g45 hown5 bx
            generalize w5.setCell ⟨gx, 3, none⟩ (.slice na ytable.length nc) = w6 at *
            have HC6 := Lib.hid (HCO.out.keep g6)
            have HB6 := Lib.hid (HBM.out.keep g6)
            have HT6 := Lib.hid (And.intro (own_G HKS.out.1 g6) (HKS.out.2.keep g6))
            have m1 := HB6.out.cell 1
            have l0 := HB6.out.lt
            have n0 := bx6.cell 0
            have n1 := bx6.cell 1
            have n2 := bx6.cell 2
            have n3 := bx6.cell 3
            have n4 := bx6.cell 4
            have n5 := bx6.cell 5
            have ln := bx6.lt
            have hgx4 : N + 1 ≤ w6.heap.size := by have := g6.size; omega
            have HGX := Lib.hid hgx4
            clear hgx4
            obtain ⟨i0, hi0, hz0, hz1, hz2⟩ := info_parts info42
            go_wp2_with (at_builtin; refine wpList_append_own _ rfl _ _ 23 rfl (N + 1) 42 i0 (.agg #[.int .i64 0, .int .i64 0, .int .i64 0, .slice none 0 0, .int .i64 0, .bool false]) 6 64 Tryz.underlying23 hi0 hz0 hz1 hz2 rfl (by decide) _ M.length (cv Po.v M) rfl ?hown ⟨_, 0, none⟩ 1 1 [.int .i64 ystake, .int .i64 ycut, .int .i64 ykind, .slice na ytable.length nc, .int .i64 yquota, .bool yfirst] rfl rfl (cell_new5 _ _ _) (by simp [Value.oneCell']) (by unfold maxLen; omega) (by omega) ?hbase ?hrest)
            case hown => exact own_G HC6.out.1 ((G.rf _).a _)
            case hbase => have := HGX.out; simp only [World.alloc, Array.size_push]; omega
            case hrest =>
              intro v9 w9 hown9 hg9 _
              obtain ⟨va9, vc9, rfl⟩ := own_slice hown9
              have ga9 : G w6 (w6.alloc (.cells #[.int .i64 ystake, .int .i64 ycut, .int .i64 ykind, .slice na ytable.length nc, .int .i64 yquota, .bool yfirst] 42)) := (G.rf w6).a _
              have ho3 := own_G HC6.out.1 ga9
              have HB9 := Lib.hid ((HB6.out.keep ga9).grown hg9 (own_ne ho3 (HB6.out.keep ga9) (by decide)))
              have HF9 := Lib.hid ((HFS.out.g (g6.t ga9)).grown hg9 (fun g hg => .inr (by have := own_ge ho3 g hg; have := HS1.out; omega)))
              have HK9 : Hid (∀ T z B v n xs, T ≠ 42 → w6.ownsRow B T z v n xs → w9.ownsRow B T z v n xs) := fun T z B v n xs hT hb => (own_G hb ga9).kept hg9 (own_own (own_G hb ga9) ho3 hT)
              have HN9 := Lib.hid hown9
              clear hown9 hg9 ho3 n0 n1 n2 n3 n4 n5 ln m1 l0
              have m1 := HB9.out.cell 1
              have lf := HB9.out.lt
              have fz := HB9.out.frozen 1
              go_wp2
              go_roundw
              case rel =>
                have hst : ∀ T z B v n xs, (26 : Nat) ≠ T → w9.ownsRow B T z v n xs → (w9.setCell ⟨N, 1, none⟩ (.slice va9 (M.length + 1) vc9)).ownsRow B T z v n xs := fun T z B v n xs hT hb => hb.kept (grownBy_set _ _ _) (.inr (own_ne hb HB9.out hT).symm)
                exact ⟨k + 1, .slice va9 (M.length + 1) vc9, M ++ [⟨ystake, ycut, ykind, na, nc, ytable, yquota, yfirst⟩], by omega, by go_num, by
                  have b := HB9.out.set_ 1 (.slice va9 (M.length + 1) vc9)
                  simp only [List.setIfInBounds_toArray, List.set_cons_zero, List.set_cons_succ] at b
                  exact b, ⟨by
                  rw [List.length_append, cv_snoc]
                  exact HN9.out.kept (grownBy_set _ _ _) (.inr (own_ne HN9.out HB9.out (by decide)).symm), fun y hy => by
                  rcases List.mem_append.1 hy with h | h
                  · exact hst _ _ _ _ _ _ (by decide) (HK9.out _ _ _ _ _ _ (by decide) (HC6.out.2 y h))
                  · obtain rfl : y = _ := List.mem_singleton.1 h
                    exact hst _ _ _ _ _ _ (by decide) (HK9.out _ _ _ _ _ _ (by decide) HW6.out)⟩, by
                  show _ = _
                  rw [HTK.out, List.map_append, HMM.out]
                  rfl, by rw [List.length_append]; exact Nat.add_le_add hMk (Nat.le_refl 1), ⟨hst _ _ _ _ _ _ (by decide) (HK9.out _ _ _ _ _ _ (by decide) HT6.out.1), hst _ _ _ _ _ _ (by decide) (HK9.out _ _ _ _ _ _ (by decide) HT6.out.2.1), fun y hy => hst _ _ _ _ _ _ (by decide) (HK9.out _ _ _ _ _ _ (by decide) (HT6.out.2.2 y hy))⟩, HF9.out.s (p := ⟨N, 1, none⟩) (.inl rfl) _⟩
              case measure => simp [intOf] <;> omega
        · obtain rfl : k = r.pools.length := by omega
          have hki2 : ¬ ((r.pools.length : Nat) : Int) < r.pools.length := by omega
          have hMM : M.map poP = r.pools.map poP := by have := HMM.out; rwa [List.take_length] at this
          have HME := Lib.hid hMM
          obtain ⟨pa, pc, rfl⟩ := own_slice HCO.out.1
          have bR := HFS.out.blk HB1.out (by omega)
          clear hMM HMM
          have e0 := HBM.out.cell 0
          have e1 := HBM.out.cell 1
          have e2 := HBM.out.cell 2
          have le := HBM.out.lt
          have r0 := bR.cell 0
          have r1 := bR.cell 1
          have r2 := bR.cell 2
          have z0 := bR.frozen 0
          have z1 := bR.frozen 1
          have z2 := bR.frozen 2
          have lr := bR.lt
          go_wp2_with fail
          have hst : ∀ (o : Nat) (u : Value) (cs : Array Value) T z B v n xs (X : World), (26 : Nat) ≠ T → Blk X (w.heap.size + 1) 26 cs → X.ownsRow B T z v n xs → (X.setCell ⟨w.heap.size + 1, o, none⟩ u).ownsRow B T z v n xs := fun o u cs T z B v n xs X hT hX hb => hb.kept (grownBy_set _ _ _) (.inr (own_ne hb hX hT).symm)
          have bR1 := bR.set_ 0 (.slice ra L.length rc)
          have bR2 := bR1.set_ 1 (.slice pa M.length pc)
          have hs3 : ∀ T z B v n xs, (26 : Nat) ≠ T → wu.ownsRow B T z v n xs → (((wu.setCell ⟨w.heap.size + 1, 0, none⟩ (.slice ra L.length rc)).setCell ⟨w.heap.size + 1, 1, none⟩ (.slice pa M.length pc)).setCell ⟨w.heap.size + 1, 2, none⟩ (.slice ka r.protests.length kc)).ownsRow B T z v n xs := fun T z B v n xs hT hb => hst 2 _ _ _ _ _ _ _ _ _ hT bR2 (hst 1 _ _ _ _ _ _ _ _ _ hT bR1 (hst 0 _ _ _ _ _ _ _ _ _ hT bR hb))
          have HF := Lib.hid (HP.out ⟨ra, rc, L, pa, pc, M, ka, kc, r.protests⟩ (((wu.setCell ⟨w.heap.size + 1, 0, none⟩ (.slice ra L.length rc)).setCell ⟨w.heap.size + 1, 1, none⟩ (.slice pa M.length pc)).setCell ⟨w.heap.size + 1, 2, none⟩ (.slice ka r.protests.length kc)) ⟨own_weaken (hs3 _ _ _ _ _ _ (by decide) HKS.out.2.1) (by omega), fun y hy => own_weaken (hs3 _ _ _ _ _ _ (by decide) (HKS.out.2.2 y hy)) (by omega), own_weaken (hs3 _ _ _ _ _ _ (by decide) HCO.out.1) (by omega), fun y hy => own_weaken (hs3 _ _ _ _ _ _ (by decide) (HCO.out.2 y hy)) (by omega), own_weaken (hs3 _ _ _ _ _ _ (by decide) HKS.out.1) (by omega), HLE.out, HME.out, rfl⟩ (((gwu.s (p := ⟨w.heap.size + 1, 0, none⟩) (Nat.le_succ _) _).s (p := ⟨w.heap.size + 1, 1, none⟩) (Nat.le_succ _) _).s (p := ⟨w.heap.size + 1, 2, none⟩) (Nat.le_succ _) _))
          have bR3 := bR2.set_ 2 (.slice ka r.protests.length kc)
          simp only [List.setIfInBounds_toArray, List.set_cons_zero, List.set_cons_succ] at bR3
          clear hst hs3 bR1 bR2
          refine bodyPost_ret (res24 _ _ (w.heap.size + 1) _ _ _ _ _ _ _ _ _ rfl bR3) rfl ?_
          exact HF.out
end Go.Proofs.YtnkmcoljijmgpaaGreat
