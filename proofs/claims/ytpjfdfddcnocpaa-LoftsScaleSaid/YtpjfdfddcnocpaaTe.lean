import Derived.Test.YtpjfdfddcnocpaaTd
import Derived.Test.YtpjfdfddcnocpaaOq
set_option linter.unusedSimpArgs false
set_option linter.unusedVariables false
namespace Go.Proofs.Ytpjfdfddcnocpaa
open Go.RowKit Go.Shelf

theorem RoundAt.keep {w w' : World} {f : Value} {rule : Int} (h : RoundAt w f rule) (k : G w w') : RoundAt w' f rule := by
  obtain ⟨g, lb, h1, h2, h3⟩ := h
  exact ⟨g, lb, h1, h2, fun W n hW => h3 W n (k.t hW)⟩
theorem allP_mem {cols rows : Nat} {p : Nat × Nat} (h : p ∈ allP cols rows) : p.1 < cols ∧ p.2 < rows := by
  unfold allP rowP at h
  obtain ⟨y, hy, hp⟩ := List.mem_flatMap.1 h
  obtain ⟨x, hx, rfl⟩ := List.mem_map.1 hp
  simp at hx hy
  exact ⟨hx, hy⟩
theorem spotsOf_mem {north : Int} {cols : Nat} {east : List Int} {svs : List Sv} {l : Nat} {s : Sp} (h : s ∈ spotsOf north cols east svs l) : s.x < cols ∧ s.y < east.length := by
  unfold spotsOf at h
  obtain ⟨p, hp, rfl⟩ := List.mem_map.1 h
  exact allP_mem hp

theorem distance_any (north wrong : Int) (cols lofts a b : Nat) (east : List Int) (svs : List Sv) (ea sa : Option Addr) (ec sc O : Nat) (fv : Value) (rule : Int) (w : World)
    (he : IntsAt w ea east) (hv : validMapB north cols east lofts wrong = true) (hl2 : svs.length ≤ 16)
    (hOp : Opened w O north wrong cols lofts (.slice ea east.length ec) (.slice sa svs.length sc) (fewSum north cols east svs lofts) (spotsOf north cols east svs))
    (ha : a < lofts) (hb : b < lofts) (hR : RoundAt w fv rule) (hne : truthsOf (spotsOf north cols east svs) [a, b] (wrong - fewSum north cols east svs lofts) ≠ []) :
    Calls Try.prog 59 #[.pointer (some ⟨O, 0, none⟩), .int .i64 a, .int .i64 b, fv] w fun e w' =>
      e = .returned (.agg #[.int .i64 (rnd rule (loQ north east a b (truthsOf (spotsOf north cols east svs) [a, b] (wrong - fewSum north cols east svs lofts))).toNat), .int .i64 (rnd rule (hiQ north east a b (truthsOf (spotsOf north cols east svs) [a, b] (wrong - fewSum north cols east svs lofts))).toNat)]) ∧ G w w' := by
  obtain ⟨slv, hO, hS⟩ := hOp
  have hvb := vm_bounds hv
  exact callsIn_wide.1 (distance_in 4 (by omega) north wrong cols lofts a b east svs ea sa ec sc O (fewSum north cols east svs lofts) slv (spotsOf north cols east svs) fv rule w he hv (Nat.le_trans (fewSum_le north cols east svs lofts hl2) (by omega)) hO hS
    (fun j _ => spotsOf_len north cols east svs j (by omega) (by omega)) (fun l _ s hs => spotsOf_mem hs) ha hb hR hne)

theorem res24 (tmps : Array Value) (w : World) (g : Nat) (x y z : Int) (h : tmps.getD 8 undef = .pointer (some ⟨g, 0, none⟩)) (h9 : tmps.getD 9 undef = .int .i64 z) (c0 : w.cell? ⟨g, 0, none⟩ = some (.int .i64 x)) (c1 : w.cell? ⟨g, 1, none⟩ = some (.int .i64 y)) :
    (results Try.f24 tmps).run Try.prog w = .ok (.tuple #[.agg #[.int .i64 x, .int .i64 y], .int .i64 z]) w := by
  have hr : Try.f24.results = #[.cell 8 46, .tmp 9] := rfl
  have h' : tmps[8]?.getD undef = .pointer (some ⟨g, 0, none⟩) := by simpa using h
  have h9' : tmps[9]?.getD undef = .int .i64 z := by simpa using h9
  simp only [results, hr]
  go_simp

set_option maxHeartbeats 4000000 in
theorem Distance_ok (north wrong : Int) (cols lofts a b : Nat) (east : List Int) (svs : List Sv) (ea sa : Option Addr) (ec sc : Nat) (rule : Int) (w : World)
    (he : IntsAt w ea east) (hs : SvsAt w sa svs) (hk : checkE north cols east lofts svs wrong = 0) (hr : 0 ≤ rule ∧ rule ≤ 2) (ha : a < lofts) (hb : b < lofts) (hw : ¬ wrong < fewSum north cols east svs lofts)
    (hne : truthsOf (spotsOf north cols east svs) [a, b] (wrong - fewSum north cols east svs lofts) ≠ []) :
    Calls Try.prog 24 #[.agg #[.int .i64 north, .int .i64 cols, .slice ea east.length ec, .int .i64 lofts, .slice sa svs.length sc, .int .i64 wrong], .int .i64 a, .int .i64 b, .int .i64 rule] w fun e w' =>
      e = .returned (.tuple #[.agg #[.int .i64 (rnd rule (loQ north east a b (truthsOf (spotsOf north cols east svs) [a, b] (wrong - fewSum north cols east svs lofts))).toNat), .int .i64 (rnd rule (hiQ north east a b (truthsOf (spotsOf north cols east svs) [a, b] (wrong - fewSum north cols east svs lofts))).toNat)], .int .i64 0]) ∧ G w w' := by
  obtain ⟨hv, hl2, hso⟩ := checkE_zero hk
  have hvb := vm_bounds hv
  have hQ := fun (W : World) (hW : G w W) (g : Nat) (hg : Blk W g 3 #[.int .i64 a, .int .i64 b]) => question_ok north wrong cols lofts east svs ea sa ec sc true [(a : Int), (b : Int)] (some ⟨g, 0, none⟩) 2 W (he.below hW) (hs.below hW)
    (.inr ⟨g, 0, rfl, hg.lt, fun k hk2 => by
      rw [hg.cell]
      match k, hk2 with
      | 0, _ => rfl
      | 1, _ => rfl⟩) (by simp) hk
  have hD : (true && ([(a : Int), (b : Int)].all fun n => isInB n 0 (lofts - 1))) = true := by simp [isInB]; omega
  rw [hD] at hQ
  have hDi := fun (W : World) (hW : G w W) (O : Nat) (f : Value) (h1 : Opened W O north wrong cols lofts (.slice ea east.length ec) (.slice sa svs.length sc) (fewSum north cols east svs lofts) (spotsOf north cols east svs)) (h2 : RoundAt W f rule) =>
    distance_any north wrong cols lofts a b east svs ea sa ec sc O f rule W (he.below hW) hv hl2 h1 ha hb h2 hne
  have HQ := Lib.hid hQ
  have HD := Lib.hid hDi
  clear hQ hDi hk hv hso hne hD
  obtain ⟨mc, hmc⟩ : ∃ mc : Array Value, mc = #[.int .i64 north, .int .i64 cols, .slice ea east.length ec, .int .i64 lofts, .slice sa svs.length sc, .int .i64 wrong] := ⟨_, rfl⟩
  have B0 : Blk ((w.alloc (.cells #[.int .i64 north, .int .i64 cols, .slice ea east.length ec, .int .i64 lofts, .slice sa svs.length sc, .int .i64 wrong] 25)).alloc (.cells #[.int .i64 0, .int .i64 0] 46)) w.heap.size 25 #[.int .i64 north, .int .i64 cols, .slice ea east.length ec, .int .i64 lofts, .slice sa svs.length sc, .int .i64 wrong] := (Blk.new w 25 _).alloc _
  have B1 : Blk ((w.alloc (.cells #[.int .i64 north, .int .i64 cols, .slice ea east.length ec, .int .i64 lofts, .slice sa svs.length sc, .int .i64 wrong] 25)).alloc (.cells #[.int .i64 0, .int .i64 0] 46)) (w.heap.size + 1) 46 #[.int .i64 0, .int .i64 0] := Blk.new1 w _ 46 _
  have hG0 : G w ((w.alloc (.cells #[.int .i64 north, .int .i64 cols, .slice ea east.length ec, .int .i64 lofts, .slice sa svs.length sc, .int .i64 wrong] 25)).alloc (.cells #[.int .i64 0, .int .i64 0] 46)) := ((G.rf w).a _).a _
  go_enter Try.func24, Try.ntmps24
  go_wp2_with (first | (go_at_call 53; refine (rounding_ok rule _ hr).mono ?_; rintro e w' ⟨f, rfl, hGx, hRA⟩; have HRA := Lib.hid hRA; clear hRA; have b0 := B0.keep hGx; have b1 := B1.keep hGx; have hG := hG0.t hGx; have m0 := b0.cell 0; have m1 := b0.cell 1; have m2 := b0.cell 2; have m3 := b0.cell 3; have m4 := b0.cell 4; have m5 := b0.cell 5; clear hGx B0 B1 hG0))
  refine (HQ.out _ (hG.a _) w'.heap.size (Blk.new w' 3 _)).mono ?_
  rintro e w2 ⟨hG2, hp⟩
  rw [if_neg (by simp), if_neg (by omega)] at hp
  obtain ⟨O, hOl, rfl, hOp⟩ := hp
  have hGa := ((G.rf w').a (.cells #[.int .i64 a, .int .i64 b] 3)).t hG2
  have hG := hG.t hGa
  have b1 := b1.keep hGa
  have hRB := HRA.out.keep hGa
  have HRB := Lib.hid hRB
  generalize hlo : loQ north east a b (truthsOf (spotsOf north cols east svs) [a, b] (wrong - fewSum north cols east svs lofts)) = lo at *
  generalize hhi : hiQ north east a b (truthsOf (spotsOf north cols east svs) [a, b] (wrong - fewSum north cols east svs lofts)) = hi at *
  have HLo := Lib.hid hlo
  have HHi := Lib.hid hhi
  clear hlo hhi
  clear hGa hG2 hRB HRA b0 m0 m1 m2 m3 m4 m5 HQ
  go_wp2_with ((go_at_call 59; refine (HD.out _ hG O f hOp HRB.out).mono ?_; rintro e w3 ⟨rfl, hG3⟩; have b3 := b1.keep hG3; have hG4 := hG.t hG3; have d0 : w3.cell? ⟨w.heap.size + 1, 0, none⟩ = some (.int .i64 0) := b3.cell 0; have d1 : w3.cell? ⟨w.heap.size + 1, 1, none⟩ = some (.int .i64 0) := b3.cell 1; have z0 := b3.frozen 0; have z1 := b3.frozen 1; have l3 := b3.lt; clear HD hG hG3 hOp))
  have e3 := (b3.set_ 0 (.int .i64 (rnd rule lo.toNat))).set_ 1 (.int .i64 (rnd rule hi.toNat))
  refine bodyPost_ret (res24 _ _ (w.heap.size + 1) _ _ _ rfl rfl (e3.cell 0) (e3.cell 1)) rfl ?_
  exact ⟨by rw [HLo.out, HHi.out], (hG4.s (by simp) _).s (by simp) _⟩
end Go.Proofs.Ytpjfdfddcnocpaa
