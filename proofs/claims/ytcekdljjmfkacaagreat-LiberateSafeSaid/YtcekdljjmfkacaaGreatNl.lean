import Derived.Test.YtcekdljjmfkacaaGreatXa
import Derived.Test.YtcekdljjmfkacaaGreatMa
import Derived.Test.YtcekdljjmfkacaaGreatMe
set_option linter.unusedSimpArgs false
set_option linter.unusedVariables false
namespace Go.Proofs.YtcekdljjmfkacaaGreat
open Go.RowKit Go.Shelf
attribute [local go_sem] Oper.semAt_some wide_fn wide_dep wideR_fn wideR_dep
/-- the weather at a stop of a way in an hour is surely inside -/
def insB (S : Int → Int → Int → Option Sk) (lim : Sk) (st : Nat → Nat → Nat) (k t : Nat) : Bool := skIn ((S (st k 0) (st k 1) t).getD skAny) lim
/-- the first hour of those of a stop in which it is not -/
def badT (S : Int → Int → Int → Option Sk) (lim : Sk) (st : Nat → Nat → Nat) (mi H k : Nat) : Option Nat := (hrsL (mi + st k 2) (mi + st k 3) H).find? fun t => !insB S lim st k t
/-- the first stop with such an hour, and the first minute there of it -/
def blkR (S : Int → Int → Int → Option Sk) (lim : Sk) (st : Nat → Nat → Nat) (mi H ns : Nat) : Option (Nat × Nat) :=
  (List.range ns).findSome? fun k => (badT S lim st mi H k).map fun t => (k, max (mi + st k 2) (t * 60))
def blkV (home : Nat) : Option (Nat × Nat) → Array Value
  | none => #[.int .i64 0, .int .i64 0, .int .i64 0]
  | some (k, x) => #[.int .i64 (home : Nat), .int .i64 (k : Nat), .int .i64 (x : Nat)]
theorem blkR_none {S : Int → Int → Int → Option Sk} {lim : Sk} {st : Nat → Nat → Nat} {mi H ns : Nat} (h : ∀ k, k < ns → badT S lim st mi H k = none) : blkR S lim st mi H ns = none := by
  unfold blkR
  rw [List.findSome?_eq_none_iff]
  intro k hk
  rw [h k (List.mem_range.1 hk)]; rfl
theorem blkR_some {S : Int → Int → Int → Option Sk} {lim : Sk} {st : Nat → Nat → Nat} {mi H ns k t : Nat} (hk : k < ns) (h : ∀ j, j < k → badT S lim st mi H j = none) (hb : badT S lim st mi H k = some t) :
    blkR S lim st mi H ns = some (k, max (mi + st k 2) (t * 60)) := by
  unfold blkR
  have e : List.range ns = List.range k ++ (List.range (ns - k)).map (k + ·) := by
    rw [← List.range_add, Nat.add_sub_cancel' (Nat.le_of_lt hk)]
  obtain ⟨d, hd⟩ : ∃ d, ns - k = d + 1 := ⟨ns - k - 1, by omega⟩
  rw [e, List.findSome?_append]
  have e1 : (List.range k).findSome? (fun k => (badT S lim st mi H k).map fun t => (k, max (mi + st k 2) (t * 60))) = none := by
    rw [List.findSome?_eq_none_iff]
    intro j hj
    rw [h j (List.mem_range.1 hj)]; rfl
  rw [e1, hd, List.range_succ_eq_map, List.map_cons, List.findSome?_cons, Nat.add_zero, hb]
  rfl
theorem badT_none {S : Int → Int → Int → Option Sk} {lim : Sk} {st : Nat → Nat → Nat} {mi H k : Nat} (h : (hrsL (mi + st k 2) (mi + st k 3) H).all (insB S lim st k) = true) : badT S lim st mi H k = none := by
  unfold badT
  rw [List.find?_eq_none]
  intro x hx
  simp [List.all_eq_true.1 h x hx]
theorem badT_some {S : Int → Int → Int → Option Sk} {lim : Sk} {st : Nat → Nat → Nat} {mi H k t : Nat} {pre : List Nat} (hp : pre ++ [t] <+: hrsL (mi + st k 2) (mi + st k 3) H) (h : pre.all (insB S lim st k) = true) (ht : insB S lim st k t = false) : badT S lim st mi H k = some t := by
  unfold badT
  obtain ⟨r, hr⟩ := hp
  rw [← hr, List.append_assoc, List.find?_append]
  have e : pre.find? (fun t => !insB S lim st k t) = none := by
    rw [List.find?_eq_none]
    intro x hx
    simp [List.all_eq_true.1 h x hx]
  rw [e]
  simp [ht]
theorem resBlock (tmps : Array Value) (w : World) (g6 g7 : Nat) (a b c : Int) (v : Bool) (h6 : tmps.getD 6 undef = .pointer (some ⟨g6, 0, none⟩)) (h7 : tmps.getD 7 undef = .pointer (some ⟨g7, 0, none⟩)) (c6 : Blk w g6 67 #[.int .i64 a, .int .i64 b, .int .i64 c]) (c7 : Blk w g7 4 #[.bool v]) :
    (results Tryz.f58 tmps).run Tryz.prog w = .ok (.tuple #[.agg #[.int .i64 a, .int .i64 b, .int .i64 c], .bool v]) w := by
  have hr : Tryz.f58.results = #[.cell 6 67, .cell 7 4] := rfl
  have h6' : tmps[6]?.getD undef = .pointer (some ⟨g6, 0, none⟩) := by simpa using h6
  have h7' : tmps[7]?.getD undef = .pointer (some ⟨g7, 0, none⟩) := by simpa using h7
  have e0 := c6.cell 0
  have e1 := c6.cell 1
  have e2 := c6.cell 2
  have e3 := c7.cell 0
  simp only [results, hr]
  go_simp
section
variable (m cnt F H home ns sc mi : Nat) (lw lg lh : Int) (FC : Array Value) (S : Int → Int → Int → Option Sk) (st : Nat → Nat → Nat) (gw wo nw wc : Nat) (sa : Option Addr) (w : World)
set_option maxRecDepth 100000 in
set_option maxHeartbeats 8000000 in
theorem block_in (n : Nat) (hn : 4 ≤ n) (hB : Blk w F 104 FC) (h12 : FC[12]? = some (.int .i64 lw)) (h13 : FC[13]? = some (.int .i64 lg)) (h14 : FC[14]? = some (.int .i64 lh)) (h15 : FC[15]? = some (.int .i64 (H : Nat))) (h17 : FC[17]? = some (.slice (some ⟨gw, wo, none⟩) nw wc)) (h18 : FC[18]? = some (.map (some m))) (hW : WMap w m cnt S)
    (hh : home < nw) (hgw : gw < w.heap.size) (hway : w.cell? ⟨gw, wo + home, none⟩ = some (.slice sa ns sc)) (hst : RowAt w sa ns 4 (fun i r => (st i r : Nat))) (hs1 : ∀ i, st i 0 ≤ 1000 ∧ st i 1 ≤ 1000 ∧ st i 2 ≤ 90000000000 ∧ st i 3 ≤ 90000000000) (hns : ns ≤ 1000) (hmi : mi ≤ 1000000) :
    CallsIn Fence.wide n Tryz.prog 58 #[.pointer (some ⟨F, 0, none⟩), .int .i64 (home : Nat), .int .i64 (mi : Nat)] w fun e w' =>
      e = .returned (.tuple #[.agg (blkV home (blkR S (skLim lw lg lh) st mi H ns)), .bool (blkR S (skLim lw lg lh) st mi H ns).isSome]) ∧ G w w' := by
  have HL := Lib.hid (fun W : World => limitsOf_any lw lg lh W)
  obtain ⟨w4, hw4⟩ : ∃ w4, w4 = ((((w.alloc (.cells #[.pointer (some ⟨F, 0, none⟩)] 87)).alloc (.cells #[.int .i64 (home : Nat)] 3)).alloc (.cells #[.int .i64 0, .int .i64 0, .int .i64 0] 67)).alloc (.cells #[.bool false] 4)) := ⟨_, rfl⟩
  have b3 : Blk w4 w.heap.size 87 #[.pointer (some ⟨F, 0, none⟩)] := by rw [hw4]; exact (((Blk.new w 87 _).alloc _).alloc _).alloc _
  have b4 : Blk w4 (w.heap.size + 1) 3 #[.int .i64 (home : Nat)] := by rw [hw4]; exact ((Blk.new1 w _ 3 _).alloc _).alloc _
  have b6 : Blk w4 (w.heap.size + 1 + 1) 67 #[.int .i64 0, .int .i64 0, .int .i64 0] := by rw [hw4]; exact (Blk.new2 w _ _ 67 _).alloc _
  have b7 : Blk w4 (w.heap.size + 1 + 1 + 1) 4 #[.bool false] := by
    rw [hw4]
    have h := Blk.new (((w.alloc (.cells #[.pointer (some ⟨F, 0, none⟩)] 87)).alloc (.cells #[.int .i64 (home : Nat)] 3)).alloc (.cells #[.int .i64 0, .int .i64 0, .int .i64 0] 67)) 4 #[.bool false]
    simpa using h
  have g0 : G w w4 := by rw [hw4]; exact ((((G.rf w).a _).a _).a _).a _
  have hB4 := hB.keep g0
  have c12 := (hB4.cell 12).trans h12
  have c13 := (hB4.cell 13).trans h13
  have c14 := (hB4.cell 14).trans h14
  have lF := hB4.lt
  rw [hw4] at b3 b4 b6 b7 g0 hB4 c12 c13 c14 lF
  clear hw4
  unfold skLim Sk.v at HL
  refine callsIn_of_wp_marks Tryz.func58 rfl trivial ?_ rfl
  simp only [Tryz.ntmps58, List.size_toArray, List.length_cons, List.length_nil, Nat.reduceAdd, Nat.reduceSub, Array.replicate_succ, Array.replicate_zero, List.push_toArray, List.append_toArray, List.nil_append, List.cons_append]
  gi_wp2_with (first | (gi_at_call 88; refine (callsIn_wide.2 (HL.out _)).mono ?_; rintro e w1 ⟨rfl, hG1⟩; clear c12 c13 c14 lF; replace b3 := b3.keep hG1; replace b4 := b4.keep hG1; replace b6 := b6.keep hG1; replace b7 := b7.keep hG1; replace hB4 := hB4.keep hG1; replace g0 := g0.t hG1; clear hG1))
  change Code.wpIn _ _ _ _ _ _ (w1.alloc (.cells (skLim lw lg lh).v 93))
  have nG : G w1 (w1.alloc (.cells (skLim lw lg lh).v 93)) := (G.rf w1).a _
  have b8 : Blk (w1.alloc (.cells (skLim lw lg lh).v 93)) w1.heap.size 93 (skLim lw lg lh).v := Blk.new w1 93 _
  generalize w1.alloc (.cells (skLim lw lg lh).v 93) = w2 at *
  replace b3 := b3.keep nG; replace b4 := b4.keep nG; replace b6 := b6.keep nG; replace b7 := b7.keep nG; replace hB4 := hB4.keep nG; replace g0 := g0.t nG
  obtain ⟨n8, hn8⟩ : ∃ n8, n8 = w1.heap.size := ⟨_, rfl⟩
  rw [← hn8] at b8 ⊢
  clear hn8 nG HL
  have hway2 : w2.cell? ⟨gw, wo + home, none⟩ = some (.slice sa ns sc) := ((bcellB g0).1 gw _ hgw).trans hway
  have hst2 := hst.below g0
  have hW2 := hW.keep g0
  have hhi : (home : Int) < nw := by omega
  have lgw : gw < w2.heap.size := Nat.lt_of_lt_of_le hgw g0.size
  have HS1 := Lib.hid hs1
  clear hway hst hW hB hgw h12 h13 h14 hs1
  have a3 := b3.gw 0 rfl
  have a4 := b4.gw 0 rfl
  have a17 := hB4.gw 17 h17
  have aw := GW.cell hway2 lgw
  refine wpIn_region_quiet_GR (l := none) (by kernel_rfl) (fun ⟨_, _, h⟩ => by cases h.1) (by kernel_rfl) (by kernel_rfl) ?_
  repeat (quiet_step (fail))
  refine wpQuiet_nil ?_
  intro _ hw'
  obtain ⟨y, rfl⟩ := hw'
  clear a3 a4 a17 aw
  have gy := y.g
  obtain ⟨n3, hn3⟩ : ∃ n3, n3 = w.heap.size := ⟨_, rfl⟩
  have gws := g0.size
  have o3 : w.heap.size ≤ n3 := by omega
  obtain ⟨n4, hn4⟩ : ∃ n4, n4 = n3 + 1 := ⟨_, rfl⟩
  obtain ⟨n6, hn6⟩ : ∃ n6, n6 = n3 + 1 + 1 := ⟨_, rfl⟩
  obtain ⟨n7, hn7⟩ : ∃ n7, n7 = n3 + 1 + 1 + 1 := ⟨_, rfl⟩
  have o6 : w.heap.size ≤ n6 := by omega
  have o7 : w.heap.size ≤ n7 := by omega
  have o67 : n6 ≠ n7 := by omega
  rw [← hn3] at b3 b4 b6 b7 ⊢
  rw [← hn7] at b7 ⊢
  rw [← hn6] at b6 ⊢
  rw [← hn4] at b4 ⊢
  clear hn3 hn4 hn6 hn7 gws
  replace b3 := b3.keep gy; replace b4 := b4.keep gy; replace b6 := b6.keep gy; replace b7 := b7.keep gy; replace b8 := b8.keep gy; replace hB4 := hB4.keep gy; replace hst2 := hst2.below gy; replace hW2 := hW2.keep gy; replace g0 := g0.t gy
  clear hway2 lgw hhi gy
  generalize y.w = w3 at *
  clear y w2
  obtain ⟨w2, rfl⟩ : ∃ w2, w2 = w3 := ⟨_, rfl⟩
  gi_wp2
  refine wpIn_loop (fun a' w' => ∃ (k : Nat) (Ds : List Nat) (u5 u9 u10 u11 u12 u13 u14 u15 u16 u17 u18 u19 u20 u21 u22 u23 u24 u28 u29 u30 u31 u32 u33 u34 u35 u36 u37 u38 u39 u40 u41 u42 u43 u44 u45 u46 u47 u48 u49 u50 u51 u52 u53 u54 u55 u56 u57 : Value), (k ≤ ns ∧ Hid (∀ j, j < k → badT S (skLim lw lg lh) st mi H j = none) ∧ G w2 w' ∧ Marks w2.heap.size Ds w') ∧
      a' = { tmps := #[.pointer (some ⟨F, 0, none⟩), .int .i64 (home : Nat), .int .i64 (mi : Nat), .pointer (some ⟨n3, 0, none⟩), .pointer (some ⟨n4, 0, none⟩), u5, .pointer (some ⟨n6, 0, none⟩), .pointer (some ⟨n7, 0, none⟩), .pointer (some ⟨n8, 0, none⟩), u9, u10, u11, u12, u13, u14, u15, u16, u17, u18, u19, u20, u21, u22, u23, u24, .slice sa ns sc, .int .i64 (ns : Nat), .int .i64 (k : Nat), u28, u29, u30, u31, u32, u33, u34, u35, u36, u37, u38, u39, u40, u41, u42, u43, u44, u45, u46, u47, u48, u49, u50, u51, u52, u53, u54, u55, u56, u57], defers := Ds.map markD }) (fun a' _ => ns - (intOf (a'.tmps.getD 27 undef)).toNat) ?_ ?_
  · refine ⟨0, [], ?_⟩
    repeat apply Exists.intro
    exact ⟨⟨Nat.zero_le _, fun j hj => absurd hj (Nat.not_lt_zero _), G.rf _, Marks.nil _ _⟩, rfl⟩
  · intro _ wr hinv
    obtain ⟨k, hinv⟩ := hinv
    obtain ⟨Ds, hinv⟩ := hinv
    obtain ⟨u5, hinv⟩ := hinv
    obtain ⟨u9, hinv⟩ := hinv
    obtain ⟨u10, hinv⟩ := hinv
    obtain ⟨u11, hinv⟩ := hinv
    obtain ⟨u12, hinv⟩ := hinv
    obtain ⟨u13, hinv⟩ := hinv
    obtain ⟨u14, hinv⟩ := hinv
    obtain ⟨u15, hinv⟩ := hinv
    obtain ⟨u16, hinv⟩ := hinv
    obtain ⟨u17, hinv⟩ := hinv
    obtain ⟨u18, hinv⟩ := hinv
    obtain ⟨u19, hinv⟩ := hinv
    obtain ⟨u20, hinv⟩ := hinv
    obtain ⟨u21, hinv⟩ := hinv
    obtain ⟨u22, hinv⟩ := hinv
    obtain ⟨u23, hinv⟩ := hinv
    obtain ⟨u24, hinv⟩ := hinv
    obtain ⟨u28, hinv⟩ := hinv
    obtain ⟨u29, hinv⟩ := hinv
    obtain ⟨u30, hinv⟩ := hinv
    obtain ⟨u31, hinv⟩ := hinv
    obtain ⟨u32, hinv⟩ := hinv
    obtain ⟨u33, hinv⟩ := hinv
    obtain ⟨u34, hinv⟩ := hinv
    obtain ⟨u35, hinv⟩ := hinv
    obtain ⟨u36, hinv⟩ := hinv
    obtain ⟨u37, hinv⟩ := hinv
    obtain ⟨u38, hinv⟩ := hinv
    obtain ⟨u39, hinv⟩ := hinv
    obtain ⟨u40, hinv⟩ := hinv
    obtain ⟨u41, hinv⟩ := hinv
    obtain ⟨u42, hinv⟩ := hinv
    obtain ⟨u43, hinv⟩ := hinv
    obtain ⟨u44, hinv⟩ := hinv
    obtain ⟨u45, hinv⟩ := hinv
    obtain ⟨u46, hinv⟩ := hinv
    obtain ⟨u47, hinv⟩ := hinv
    obtain ⟨u48, hinv⟩ := hinv
    obtain ⟨u49, hinv⟩ := hinv
    obtain ⟨u50, hinv⟩ := hinv
    obtain ⟨u51, hinv⟩ := hinv
    obtain ⟨u52, hinv⟩ := hinv
    obtain ⟨u53, hinv⟩ := hinv
    obtain ⟨u54, hinv⟩ := hinv
    obtain ⟨u55, hinv⟩ := hinv
    obtain ⟨u56, hinv⟩ := hinv
    obtain ⟨u57, hinv⟩ := hinv
    obtain ⟨hrel, ha⟩ := hinv
    subst ha
    obtain ⟨hk, hno, hG, hMk⟩ := hrel
    by_cases hlt : k < ns
    · have hki : (k : Int) < ns := by omega
      rcases hst2 with h | ⟨gs, so, rfl, hgs, hcell⟩
      · omega
      have lgs := Nat.lt_of_lt_of_le hgs hG.size
      have hcl := fun r hr => ((bcellB hG).1 gs _ hgs).trans (hcell k hlt r hr)
      have q0 := hcl 0 (by omega)
      rw [Nat.add_zero] at q0
      have q1 := hcl 1 (by omega)
      have q2 := hcl 2 (by omega)
      have q3 := hcl 3 (by omega)
      have hs := HS1.out k
      obtain ⟨p, hp⟩ : ∃ p : Nat → Bool, p = insB S (skLim lw lg lh) st k := ⟨_, rfl⟩
      have HP0 := Lib.hid hp
      have HBT : Hid (badT S (skLim lw lg lh) st mi H k = badT S (skLim lw lg lh) st mi H k) := rfl
      have HBN := Lib.hid (badT_none (S := S) (lim := skLim lw lg lh) (st := st) (mi := mi) (H := H) (k := k))
      have HBS := Lib.hid (fun pre t => badT_some (S := S) (lim := skLim lw lg lh) (st := st) (mi := mi) (H := H) (k := k) (t := t) (pre := pre))
      rw [← hp] at HBN HBS
      have hpe : ∀ t : Nat, p t = skIn ((S (st k 0) (st k 1) t).getD skAny) (skLim lw lg lh) := fun t => by rw [hp]; rfl
      clear hp hcl hcell hgs HBT
      obtain ⟨px, hpx⟩ : ∃ px, px = st k 0 := ⟨_, rfl⟩
      obtain ⟨py, hpy⟩ : ∃ py, py = st k 1 := ⟨_, rfl⟩
      obtain ⟨lo, hlo⟩ : ∃ lo, lo = st k 2 := ⟨_, rfl⟩
      obtain ⟨hi, hhi⟩ : ∃ hi, hi = st k 3 := ⟨_, rfl⟩
      have HLO := Lib.hid hlo
      dsimp only at q0 q1 q2 q3
      rw [← hpx] at q0 hs hpe
      rw [← hpy] at q1 hs hpe
      rw [← hlo] at q2 hs HBN HBS
      rw [← hhi] at q3 hs HBN HBS
      have HPE := Lib.hid hpe
      clear hpx hpy hlo hhi hpe
      obtain ⟨s1, s2, s3, s4⟩ := hs
      obtain ⟨la, hla⟩ : ∃ la, la = mi + lo := ⟨_, rfl⟩
      obtain ⟨hb, hhb⟩ : ∃ hb, hb = mi + hi := ⟨_, rfl⟩
      rw [← hla, ← hhb] at HBN HBS
      have hla9 : la ≤ 100000000000 := by omega
      have hhb9 : hb ≤ 100000000000 := by omega
      have HPs : Hid (∀ W, Calls Tryz.prog 45 #[.agg #[.int .i64 (px : Nat), .int .i64 (py : Nat), .int .i64 (lo : Nat), .int .i64 (hi : Nat)], .int .i64 (mi : Nat)] W fun e w' => e = .returned (.agg #[.int .i64 (la : Nat), .int .i64 (hb : Nat)]) ∧ G W w') := fun W => (passed_any px py lo hi mi W (by omega) (by omega) (by omega)).mono fun e w' h => by
        rw [hla, hhb]; simpa using h
      have HLA := Lib.hid hla
      clear HS1 hla hhb
      obtain ⟨g9, b9, b10⟩ := w2_spec wr #[.int .i64 (k : Nat)] #[.int .i64 (px : Nat), .int .i64 (py : Nat), .int .i64 (lo : Nat), .int .i64 (hi : Nat)] 3 84
      gi_wp2_with (first | (gi_at_call 45; refine (callsIn_wide.2 (HPs.out _)).mono ?_; rintro e w5 ⟨rfl, hG5⟩; clear q0 q1 q2 q3; replace g9 := g9.t hG5; replace b9 := b9.keep hG5; replace b10 := b10.keep hG5; have e3 := (b3.keep (hG.t g9)).cell 0; have l3 := (b3.keep (hG.t g9)).lt; clear hG5) | (gi_at_call 89; refine (callsIn_wide.2 (hours_any F la hb _)).mono ?_; rintro e w6 ⟨rfl, rfl⟩))
      have nG : G w5 (((w5.alloc (.cells #[.int .i64 (la : Nat), .int .i64 (hb : Nat)] 30)).alloc (.cells #[.pointer (some ⟨F, 0, none⟩)] 87)).alloc (.cells #[.int .i64 (la : Nat), .int .i64 (hb : Nat)] 30)) := (((G.rf w5).a _).a _).a _
      have b11 : Blk (((w5.alloc (.cells #[.int .i64 (la : Nat), .int .i64 (hb : Nat)] 30)).alloc (.cells #[.pointer (some ⟨F, 0, none⟩)] 87)).alloc (.cells #[.int .i64 (la : Nat), .int .i64 (hb : Nat)] 30)) w5.heap.size 30 #[.int .i64 (la : Nat), .int .i64 (hb : Nat)] := ((Blk.new w5 30 _).alloc _).alloc _
      have bF : Blk (((w5.alloc (.cells #[.int .i64 (la : Nat), .int .i64 (hb : Nat)] 30)).alloc (.cells #[.pointer (some ⟨F, 0, none⟩)] 87)).alloc (.cells #[.int .i64 (la : Nat), .int .i64 (hb : Nat)] 30)) (w5.heap.size + 1) 87 #[.pointer (some ⟨F, 0, none⟩)] := (Blk.new1 w5 _ 87 _).alloc _
      have bM : Blk (((w5.alloc (.cells #[.int .i64 (la : Nat), .int .i64 (hb : Nat)] 30)).alloc (.cells #[.pointer (some ⟨F, 0, none⟩)] 87)).alloc (.cells #[.int .i64 (la : Nat), .int .i64 (hb : Nat)] 30)) (w5.heap.size + 1 + 1) 30 #[.int .i64 (la : Nat), .int .i64 (hb : Nat)] := Blk.new2 w5 _ _ 30 _
      clear e3 l3
      change Code.wpIn _ _ _ _ _ _ (((w5.alloc (.cells #[.int .i64 (la : Nat), .int .i64 (hb : Nat)] 30)).alloc (.cells #[.pointer (some ⟨F, 0, none⟩)] 87)).alloc (.cells #[.int .i64 (la : Nat), .int .i64 (hb : Nat)] 30))
      generalize (((w5.alloc (.cells #[.int .i64 (la : Nat), .int .i64 (hb : Nat)] 30)).alloc (.cells #[.pointer (some ⟨F, 0, none⟩)] 87)).alloc (.cells #[.int .i64 (la : Nat), .int .i64 (hb : Nat)] 30)) = wR at *
      replace g9 := g9.t nG
      replace b9 := b9.keep nG
      replace b10 := b10.keep nG
      have gR : G w2 wR := hG.t g9
      obtain ⟨n11, hn11⟩ : ∃ n11, n11 = w5.heap.size := ⟨_, rfl⟩
      obtain ⟨n10, hn10⟩ : ∃ n10, n10 = wr.heap.size + 1 := ⟨_, rfl⟩
      obtain ⟨n9, hn9⟩ : ∃ n9, n9 = wr.heap.size := ⟨_, rfl⟩
      rw [← hn11] at b11 bF bM ⊢
      rw [← hn10] at b10 ⊢
      rw [← hn9] at b9 ⊢
      clear hn11 hn10 hn9 nG HPs
      replace b3 := b3.keep gR; replace b4 := b4.keep gR; replace b6 := b6.keep gR; replace b7 := b7.keep gR; replace b8 := b8.keep gR; replace hB4 := hB4.keep gR; replace hW2 := hW2.keep gR
      have g0R := g0.t gR
      have hseq := hours_stops (n - 1) (by omega) (n11 + 1 + 1) (n11 + 1) F la hb H FC hla9 hhb9 wR bM bF hB4 h15
      have HSky := Lib.hid (fun (W : World) (hG : G wR W) (t : Nat) (ht : t ≤ 100000000000) => skyAt_any m cnt F FC S (px : Nat) (py : Nat) (t : Nat) W (hB4.keep hG) h18 (hW2.keep hG) (by unfold i64b; omega) (by unfold i64b; omega) (by unfold i64b; omega))
      have HIn := Lib.hid (fun (a : Sk) (W : World) => isInside_any a (skLim lw lg lh) W)
      have szR := g0R.size
      have sz9 := g9.size
      have szr := hG.size
      have sz0 := g0.size
      refine rangeFunc_three (F := Fence.wide) (α := Hr) (gf := 108) (lb := #[.pointer (some ⟨n11 + 1 + 1, 0, none⟩), .pointer (some ⟨n11 + 1, 0, none⟩)]) rfl (by omega) rfl trivial (enters_of Tryz.func108 (by kernel_rfl) rfl)
        (ev := fun x => .int .i64 (x.1 : Nat)) (B1 := n11 + 1 + 1) (B2 := n11 + 1) (B3 := F) hseq bM.lt bF.lt hB4.lt (Below.refl _ _)
        (fun pre W => G wR W ∧ (pre.map (·.1)).all p = true) (fun c pre W => c = .ret ∧ Fr (fun i => i = n6 ∨ i = n7) wR W ∧ ∃ q t, pre.map (·.1) = q ++ [t] ∧ q.all p = true ∧ p t = false ∧ Blk W n6 67 #[.int .i64 (home : Nat), .int .i64 (k : Nat), .int .i64 ((max la (t * 60) : Nat) : Int)] ∧ Blk W n7 4 #[.bool true]) ?hI ?hIx ?h0 12 ?assign ?body ?done ?stop
      case hI =>
        rintro pre X Y row ⟨h, hq⟩ hg hrow
        exact ⟨((G.fr (R := fun _ => False) h).grown hg (fun g e => .inr (hrow g e).1)).toG (fun _ _ h => h), hq⟩
      case hIx =>
        rintro c pre X Y row ⟨hc, h, q, t, h1, h2, h3, h4, h5⟩ hg hrow
        have l6 := b6.lt
        have l7 := b7.lt
        exact ⟨hc, h.grown hg (fun g e => .inr (hrow g e).1), q, t, h1, h2, h3, h4.grown hg (fun e => by have := (hrow n6 e.symm).1; omega), h5.grown hg (fun e => by have := (hrow n7 e.symm).1; omega)⟩
      case h0 => exact ⟨G.rf _, rfl⟩
      case assign =>
        intro l x W K hK
        gi_wp2
        exact hK
      case body =>
        rintro l pre x W hl hrec ⟨hGW, hq⟩ hN
        obtain ⟨t, ht⟩ := x
        have hSk : ∀ W', G W W' → (Blk W' n3 87 #[.pointer (some ⟨F, 0, none⟩)] ∧ Blk W' n10 84 #[.int .i64 (px : Nat), .int .i64 (py : Nat), .int .i64 (lo : Nat), .int .i64 (hi : Nat)] ∧ Blk W' n8 93 (skLim lw lg lh).v) := fun W' h => ⟨b3.keep (hGW.t h), b10.keep (hGW.t h), b8.keep (hGW.t h)⟩
        have HS := Lib.hid (fun (W' : World) (h : G W W') => HSky.out W' (hGW.t h) t ht)
        clear HSky hseq HBS HBN hMk hno HP0
        obtain ⟨sk, hsk⟩ : ∃ sk, sk = (S (px : Nat) (py : Nat) (t : Nat)).getD skAny := ⟨_, rfl⟩
        have hpt : p t = skIn sk (skLim lw lg lh) := by rw [HPE.out, hsk]
        rw [← hsk] at HS
        obtain ⟨b, hb'⟩ : ∃ b, b = skIn sk (skLim lw lg lh) := ⟨_, rfl⟩
        rw [← hb'] at hpt
        have HO := Lib.hid (fun W' : World => HIn.out sk W')
        rw [← hb'] at HO
        have HPT := Lib.hid hpt
        clear hsk hb' hpt HIn HPE
        gi_wp2
        refine wpIn_region_Y (l := some l) (S := fun W' => Blk W' n3 87 #[.pointer (some ⟨F, 0, none⟩)] ∧ Blk W' n10 84 #[.int .i64 (px : Nat), .int .i64 (py : Nat), .int .i64 (lo : Nat), .int .i64 (hi : Nat)] ∧ Blk W' n8 93 (skLim lw lg lh).v) 8 9 rfl (by kernel_rfl) (fun ⟨_, _, h⟩ => h) (by kernel_rfl) (hSk _ (G.rf _).d) (fun hS => ?_)
        refine wpAnyY_take (i := 0) (v := ?_) rfl (by kernel_rfl) (by kernel_rfl) (by kernel_rfl) (by kernel_rfl) (fun _ _ _ h => h) (Or.inl ⟨by kernel_rfl, ?_⟩) hS ?_
        rotate_left
        · intro w' hSw; have e0 := hSw.1.cell 0; go_simp; with_reducible rfl
        try simp only [Act.put, List.getElem_toArray, List.getElem_cons_zero, List.getElem_cons_succ, List.setIfInBounds_toArray, List.set_cons_zero, List.set_cons_succ]
        refine wpAnyY_take (i := 1) (v := ?_) rfl (by kernel_rfl) (by kernel_rfl) (by kernel_rfl) (by kernel_rfl) (fun _ _ _ h => h) (Or.inl ⟨by kernel_rfl, ?_⟩) hS ?_
        rotate_left
        · intro w' hSw; go_simp; with_reducible rfl
        try simp only [Act.put, List.getElem_toArray, List.getElem_cons_zero, List.getElem_cons_succ, List.setIfInBounds_toArray, List.set_cons_zero, List.set_cons_succ]
        refine wpAnyY_take (i := 2) (v := ?_) rfl (by kernel_rfl) (by kernel_rfl) (by kernel_rfl) (by kernel_rfl) (fun _ _ _ h => h) (Or.inl ⟨by kernel_rfl, ?_⟩) hS ?_
        rotate_left
        · intro w' hSw; have e0 := hSw.2.1.cell 0; have e1 := hSw.2.1.cell 1; go_simp; with_reducible rfl
        try simp only [Act.put, List.getElem_toArray, List.getElem_cons_zero, List.getElem_cons_succ, List.setIfInBounds_toArray, List.set_cons_zero, List.set_cons_succ]
        refine wpAnyY_take (i := 3) (v := ?_) rfl (by kernel_rfl) (by kernel_rfl) (by kernel_rfl) (by kernel_rfl) (fun _ _ _ h => h) (Or.inl ⟨by kernel_rfl, ?_⟩) hS ?_
        rotate_left
        · intro w' hSw; go_simp; with_reducible rfl
        try simp only [Act.put, List.getElem_toArray, List.getElem_cons_zero, List.getElem_cons_succ, List.setIfInBounds_toArray, List.set_cons_zero, List.set_cons_succ]
        refine wpAnyY_take (i := 4) (v := ?_) rfl (by kernel_rfl) (by kernel_rfl) (by kernel_rfl) (by kernel_rfl) (fun _ _ _ h => h) (Or.inl ⟨by kernel_rfl, ?_⟩) hS ?_
        rotate_left
        · intro w' hSw; go_simp; with_reducible rfl
        try simp only [Act.put, List.getElem_toArray, List.getElem_cons_zero, List.getElem_cons_succ, List.setIfInBounds_toArray, List.set_cons_zero, List.set_cons_succ]
        refine wpAnyY_take (i := 6) (v := .agg (skLim lw lg lh).v) rfl (by kernel_rfl) (by kernel_rfl) (by kernel_rfl) (by kernel_rfl) (fun _ _ _ h => h) (Or.inl ⟨by kernel_rfl, ?_⟩) hS ?_
        · intro w' hSw; exact load102 w' n8 8 _ _ rfl (by kernel_rfl) hSw.2.2
        try simp only [Act.put, List.getElem_toArray, List.getElem_cons_zero, List.getElem_cons_succ, List.setIfInBounds_toArray, List.set_cons_zero, List.set_cons_succ]
        have gd := (G.rf W).d
        refine wpAnyY_oneSW (i := 5) (by kernel_rfl) rfl (by kernel_rfl) (fun K4 hK4 => ?_)
        go_simp
        refine (HS.out _ gd).mono ?_
        rintro e w7 ⟨rfl, hG7⟩
        replace gd := gd.t hG7
        refine hK4.out _ _ (hSk _ gd) (fun hS => ?_)
        try simp only [Act.put, List.getElem_toArray, List.getElem_cons_zero, List.getElem_cons_succ, List.setIfInBounds_toArray, List.set_cons_zero, List.set_cons_succ]
        refine wpAnyY_oneSW (i := 7) (by kernel_rfl) rfl (by kernel_rfl) (fun K6 hK6 => ?_)
        go_simp
        refine (HO.out _).mono ?_
        rintro e w6 ⟨rfl, hG6⟩
        replace gd := gd.t hG6
        refine hK6.out _ _ (hSk _ gd) (fun hS => ?_)
        try simp only [Act.put, List.getElem_toArray, List.getElem_cons_zero, List.getElem_cons_succ, List.setIfInBounds_toArray, List.set_cons_zero, List.set_cons_succ]
        refine wpAnyY_oneW (i := 8) (by kernel_rfl) rfl (by kernel_rfl) (by kernel_rfl) (fun K7 hK7 => ?_)
        go_simp
        refine hK7.out _ _ ?_
        try simp only [Act.put, List.getElem_toArray, List.getElem_cons_zero, List.getElem_cons_succ, List.setIfInBounds_toArray, List.set_cons_zero, List.set_cons_succ]
        refine wpAnyY_done (by kernel_rfl) ?_ _
        clear hS hSk hK4 hK6 hK7 HS HO hG7 hG6
        have hGz := hGW.t gd
        cases b
        · have h4 := (b4.keep hGz).cell 0
          have h9 := (b9.keep hGz).cell 0
          have h11 := (b11.keep hGz).cell 0
          have hb6 := b6.keep hGz
          have hb7 := b7.keep hGz
          have f60 := hb6.cell 0
          have f61 := hb6.cell 1
          have f62 := hb6.cell 2
          have z60 := hb6.frozen 0
          have z61 := hb6.frozen 1
          have z62 := hb6.frozen 2
          have f7 := hb7.cell 0
          have z7 := hb7.frozen 0
          obtain ⟨ts, hts⟩ : ∃ ts, ts = t * 60 := ⟨_, rfl⟩
          have xts : IntKind.i64.wrap ((t : Int) * 60) = (ts : Int) := by rw [IntWalk.i64_in _ (by omega)]; omega
          obtain ⟨mx, hmx⟩ : ∃ mx, mx = max la ts := ⟨_, rfl⟩
          have xmx := max2 (la : Int) (ts : Int) w6
          rw [show max (la : Int) (ts : Int) = (mx : Int) by omega] at xmx
          have HMX := Lib.hid (show max la (t * 60) = mx by rw [hmx, hts])
          clear hts hmx
          gi_wp2
          refine ⟨(((((G.fr (R := fun i => i = n6 ∨ i = n7) gd).s (p := ⟨n6, 0, none⟩) (.inl (.inl rfl)) _).s (p := ⟨n6, 1, none⟩) (.inl (.inl rfl)) _).s (p := ⟨n6, 2, none⟩) (.inl (.inl rfl)) _).s (p := ⟨n7, 0, none⟩) (.inl (.inr rfl)) _).keeps (fun i h _ => ?_) _, rfl, ((((G.fr (R := fun i => i = n6 ∨ i = n7) hGz).s (p := ⟨n6, 0, none⟩) (.inl (.inl rfl)) _).s (p := ⟨n6, 1, none⟩) (.inl (.inl rfl)) _).s (p := ⟨n6, 2, none⟩) (.inl (.inl rfl)) _).s (p := ⟨n7, 0, none⟩) (.inl (.inr rfl)) _, pre.map (·.1), t, by rw [List.map_append]; rfl, hq, HPT.out, ?_, ?_⟩
          · rcases h with rfl | rfl
            · exact ⟨_, _, _, b6.keep hGW⟩
            · exact ⟨_, _, _, b7.keep hGW⟩
          · rw [HMX.out]
            exact (((hb6.set_ 0 _).set_ 1 _).set_ 2 _).far (p := ⟨n7, 0, none⟩) (by simpa using o67) _
          · exact (((hb7.far (p := ⟨n6, 0, none⟩) (by simpa using o67.symm) _).far (p := ⟨n6, 1, none⟩) (by simpa using o67.symm) _).far (p := ⟨n6, 2, none⟩) (by simpa using o67.symm) _).set_ 0 _
        · gi_wp2
          refine ⟨(G.fr (R := fun _ => False) gd).keeps (fun i h => h.elim) _, ⟨gd.block _ (Nat.lt_of_lt_of_le bM.lt hGW.size), gd.block _ (Nat.lt_of_lt_of_le bF.lt hGW.size), gd.block _ (Nat.lt_of_lt_of_le hB4.lt hGW.size)⟩, hGz, ?_⟩
          rw [List.map_append, List.all_append, hq]
          simp [HPT.out]
      case done =>
        rintro D xs W hD hxs ⟨hGW, hq⟩ hDef
        have hall : (hrsL la hb H).all p = true := by rw [← hxs]; exact hq
        have hbad := HBN.out hall
        have hno' : Hid (∀ j, j < k + 1 → badT S (skLim lw lg lh) st mi H j = none) := fun j hj => by
          rcases Nat.lt_or_ge j k with h | h
          · exact hno.out j h
          · obtain rfl : j = k := by omega
            exact hbad
        have hMkE : Marks w2.heap.size (D :: Ds) W := by
          refine ⟨List.nodup_cons.2 ⟨fun h => ?_, hMk.1⟩, fun D' h => ?_⟩
          · have := (Array.getElem?_eq_some_iff.1 (hMk.2 D h).2).1
            omega
          · rcases List.mem_cons.1 h with rfl | h
            · exact ⟨by have := gR.size; omega, hDef⟩
            · have h1 := (Array.getElem?_eq_some_iff.1 (hMk.2 D' h).2).1
              exact ⟨(hMk.2 D' h).1, ((g9.t hGW).block D' h1).trans (hMk.2 D' h).2⟩
        have hGE := gR.t hGW
        clear hall hbad hseq HSky HIn HBN HBS hno hMk HP0 HPE
        gi_wp2
        refine ⟨⟨k + 1, D :: Ds, ?_⟩, ?_⟩
        · repeat apply Exists.intro
          exact ⟨⟨by omega, hno', hGE, hMkE⟩, rfl⟩
        · show ns - (k + 1) < ns - k
          omega
      case stop =>
        rintro D c pre W hD hpre ⟨rfl, hFr, q, t, hq1, hq2, hq3, hb6, hb7⟩ hDef
        have hp := HBS.out q t (hq1 ▸ hpre) hq2 hq3
        have hR := blkR_some hlt hno.out hp
        rw [← HLO.out, ← HLA.out] at hR
        have HR := Lib.hid hR
        have hMkE : Marks w2.heap.size (D :: Ds) W := by
          refine ⟨List.nodup_cons.2 ⟨fun h => ?_, hMk.1⟩, fun D' h => ?_⟩
          · have := (Array.getElem?_eq_some_iff.1 (hMk.2 D h).2).1
            omega
          · rcases List.mem_cons.1 h with rfl | h
            · exact ⟨by have := gR.size; omega, hDef⟩
            · have h1 := (Array.getElem?_eq_some_iff.1 (hMk.2 D' h).2).1
              have h2 := (g9.block D' h1).trans (hMk.2 D' h).2
              refine ⟨(hMk.2 D' h).1, (hFr.block D' (Nat.lt_of_lt_of_le h1 g9.size) ?_).trans h2⟩
              rintro (rfl | rfl)
              · rw [show wR.heap[D']? = _ from b6] at h2; cases h2
              · rw [show wR.heap[D']? = _ from b7] at h2; cases h2
        have hGE : G w W := ((G.fr (R := fun _ => False) g0R).t2 hFr (fun i hi h => by omega)).toG (fun _ _ h => h)
        clear hR hp hseq HSky HIn HBN HBS hno hMk HP0 HPE
        gi_wp2
        refine leaves_marks (B := w2.heap.size) (D :: Ds) W hMkE (fun w' hw' => ?_)
        refine ⟨_, resBlock _ _ n6 n7 _ _ _ _ rfl rfl (hw'.blk hb6 (hMkE.ne hb6)) (hw'.blk hb7 (hMkE.ne hb7)), by rw [HR.out]; rfl, ?_⟩
        exact ((G.fr (R := fun _ => False) hGE).t2 hw' (fun i hi h => by have := (hMkE.2 i h).1; omega)).toG (fun _ _ h => h)
    · obtain rfl : ns = k := by omega
      have hR := blkR_none hno.out
      have HR := Lib.hid hR
      replace b6 := b6.keep hG
      replace b7 := b7.keep hG
      have f60 := b6.cell 0
      have f61 := b6.cell 1
      have f62 := b6.cell 2
      have z60 := b6.frozen 0
      have z61 := b6.frozen 1
      have z62 := b6.frozen 2
      have f7 := b7.cell 0
      have z7 := b7.frozen 0
      clear hR hno
      gi_wp2
      have hFz : Fr (fun i => i = n6 ∨ i = n7) wr ((((wr.setCell ⟨n6, 0, none⟩ (.int .i64 0)).setCell ⟨n6, 1, none⟩ (.int .i64 0)).setCell ⟨n6, 2, none⟩ (.int .i64 0)).setCell ⟨n7, 0, none⟩ (.bool false)) := ((((Fr.rf _ wr).s (p := ⟨n6, 0, none⟩) (.inl (.inl rfl)) _).s (p := ⟨n6, 1, none⟩) (.inl (.inl rfl)) _).s (p := ⟨n6, 2, none⟩) (.inl (.inl rfl)) _).s (p := ⟨n7, 0, none⟩) (.inl (.inr rfl)) _
      have b6z : Blk ((((wr.setCell ⟨n6, 0, none⟩ (.int .i64 0)).setCell ⟨n6, 1, none⟩ (.int .i64 0)).setCell ⟨n6, 2, none⟩ (.int .i64 0)).setCell ⟨n7, 0, none⟩ (.bool false)) n6 67 #[.int .i64 0, .int .i64 0, .int .i64 0] := (((b6.set_ 0 _).set_ 1 _).set_ 2 _).far (p := ⟨n7, 0, none⟩) (by simpa using o67) _
      have b7z : Blk ((((wr.setCell ⟨n6, 0, none⟩ (.int .i64 0)).setCell ⟨n6, 1, none⟩ (.int .i64 0)).setCell ⟨n6, 2, none⟩ (.int .i64 0)).setCell ⟨n7, 0, none⟩ (.bool false)) n7 4 #[.bool false] := (((b7.far (p := ⟨n6, 0, none⟩) (by simpa using o67.symm) _).far (p := ⟨n6, 1, none⟩) (by simpa using o67.symm) _).far (p := ⟨n6, 2, none⟩) (by simpa using o67.symm) _).set_ 0 _
      generalize ((((wr.setCell ⟨n6, 0, none⟩ (.int .i64 0)).setCell ⟨n6, 1, none⟩ (.int .i64 0)).setCell ⟨n6, 2, none⟩ (.int .i64 0)).setCell ⟨n7, 0, none⟩ (.bool false)) = wz at *
      have hMz : Marks w2.heap.size Ds wz := ⟨hMk.1, fun D' h => by
        have h2 := (hMk.2 D' h).2
        refine ⟨(hMk.2 D' h).1, (hFz.block D' (Array.getElem?_eq_some_iff.1 h2).1 ?_).trans h2⟩
        rintro (rfl | rfl)
        · rw [show wr.heap[D']? = _ from b6] at h2; cases h2
        · rw [show wr.heap[D']? = _ from b7] at h2; cases h2⟩
      have hGz : G w wz := ((G.fr (R := fun _ => False) (g0.t hG)).t2 hFz (fun i hi h => by omega)).toG (fun _ _ h => h)
      have sz0 := g0.size
      refine leaves_marks (B := w2.heap.size) Ds wz hMz (fun w' hw' => ?_)
      refine ⟨_, resBlock _ _ n6 n7 _ _ _ _ rfl rfl (hw'.blk b6z (hMz.ne b6z)) (hw'.blk b7z (hMz.ne b7z)), by rw [HR.out]; rfl, ?_⟩
      exact ((G.fr (R := fun _ => False) hGz).t2 hw' (fun i hi h => by have := (hMz.2 i h).1; omega)).toG (fun _ _ h => h)
end
end Go.Proofs.YtcekdljjmfkacaaGreat
