import Derived.Test.YtcekdljjmfkacaaOj
import Derived.Test.YtcekdljjmfkacaaOi
set_option linter.unusedSimpArgs false
set_option linter.unusedVariables false
namespace Go.Proofs.Ytcekdljjmfkacaa
open Go.RowKit Go.Shelf
attribute [local go_sem] Oper.semAt_some wide_fn wide_dep wideR_fn wideR_dep
/-- rows as a source of append -/
theorem src_row {w : World} {a : Option Addr} {n z cap : Nat} {c : Nat → Nat → Int} (h : RowAt w a n z c) (hz : 1 ≤ z) (hcap : n ≤ cap) (hnil : a = none → cap = 0) :
    (a = none ∧ n = 0 ∧ cap = 0) ∨ ∃ (ad : Addr) (news : List Value), a = some ad ∧ news.length = n * z ∧ (∀ W, G w W → ∀ j u, news[j]? = some u → W.cell? (ad.add j) = some u) ∧ (∀ u ∈ news, Value.oneCell' u = true) ∧ ∀ i, i < n → ∀ r, r < z → news[i * z + r]? = some (.int .i64 (c i r)) := by
  rcases h with rfl | ⟨g, off, rfl, hg, hc⟩
  · cases a with
    | none => exact .inl ⟨rfl, rfl, hnil rfl⟩
    | some ad => exact .inr ⟨ad, [], rfl, by simp, fun W _ j u h => by simp at h, fun u h => by simp at h, fun i hi => absurd hi (Nat.not_lt_zero _)⟩
  · right
    have hget : ∀ j, j < n * z → ((List.range (n * z)).map fun j => Value.int .i64 (c (j / z) (j % z)))[j]? = some (.int .i64 (c (j / z) (j % z))) := fun j hj => by simp [hj]
    refine ⟨⟨g, off, none⟩, (List.range (n * z)).map fun j => Value.int .i64 (c (j / z) (j % z)), rfl, by simp, fun W hW j u h => ?_, fun u h => ?_, fun i hi r hr => ?_⟩
    · have hj : j < n * z := by
        rcases Nat.lt_or_ge j (n * z) with h1 | h1
        · exact h1
        · rw [List.getElem?_eq_none (by simpa using h1)] at h; cases h
      rw [hget j hj] at h
      rw [addr_add, ← h]
      have h1 : j / z < n := Nat.div_lt_of_lt_mul (by rw [Nat.mul_comm]; exact hj)
      have h2 : j % z < z := Nat.mod_lt _ hz
      have h3 := hc _ h1 _ h2
      have e : j / z * z + j % z = j := by rw [Nat.mul_comm]; exact Nat.div_add_mod j z
      rw [Nat.add_assoc, e] at h3
      exact ((bcellB hW).1 g (off + j) hg).trans h3
    · obtain ⟨j, _, rfl⟩ := List.mem_map.1 h
      rfl
    · have hj : i * z + r < n * z := by
        have : (i + 1) * z ≤ n * z := Nat.mul_le_mul_right z hi
        rw [Nat.add_mul] at this
        omega
      rw [hget _ hj]
      have e1 : (i * z + r) / z = i := by rw [Nat.mul_comm, Nat.mul_add_div hz, Nat.div_eq_of_lt hr, Nat.add_zero]
      have e2 : (i * z + r) % z = r := by rw [Nat.mul_comm, Nat.mul_add_mod, Nat.mod_eq_of_lt hr]
      rw [e1, e2]
theorem row_own {W : World} {b n z : Nat} {e : TypeId} {v : Value} {xs : List Value} {c : Nat → Nat → Int} (h : W.ownsRow b e z v n xs) (hx : ∀ i, i < n → ∀ r, r < z → xs[i * z + r]? = some (.int .i64 (c i r))) : ∃ a cap, v = .slice a n cap ∧ RowAt W a n z c := by
  rcases h.2 with ⟨rfl, h0⟩ | ⟨g, cap, cur, rfl, hb, hblk, h1, h2, h3, h4⟩
  · exact ⟨none, 0, by rw [h0], .inl h0⟩
  · refine ⟨some ⟨g, 0, none⟩, cap, rfl, .inr ⟨g, 0, rfl, (Array.getElem?_eq_some_iff.1 hblk).1, fun i hi r hr => ?_⟩⟩
    rw [Nat.zero_add]
    have hj : i * z + r < n * z := by
      have : (i + 1) * z ≤ n * z := Nat.mul_le_mul_right z hi
      rw [Nat.add_mul] at this
      omega
    exact take_cell hblk h4 hj (hx i hi r hr)
theorem info30 : (Try.prog.info? 30).map (fun i => (i.zero, i.size, i.bytes)) = some (some (.agg #[.int .i64 0, .int .i64 0]), 2, 16) := by kernel_rfl
theorem eqSp30 (a b : Int) (w : World) : (binOp .eql 30 (.agg #[.int .i64 a, .int .i64 b]) (.agg #[.int .i64 a, .int .i64 b])).run Try.prog w = .ok (.bool true) w := by
  go_simp
theorem minR_form (n : Nat) (c : Nat → Nat → Int) (wrong : Int) : ∃ s0 s1 er : Int, minR n c wrong = .tuple #[.agg #[.int .i64 s0, .int .i64 s1], .int .i64 er] := by
  unfold minR
  split
  · exact ⟨_, _, _, rfl⟩
  · split
    · exact ⟨_, _, _, rfl⟩
    · exact ⟨_, _, _, rfl⟩
set_option maxRecDepth 100000 in
set_option maxHeartbeats 4000000 in
theorem MinuteLaw_any (a : Option Addr) (cap n : Nat) (c : Nat → Nat → Int) (wrong : Int) (w : World) (ha : RowAt w a n 2 c) (hn : n ≤ 9223372036854775807) (hcap : n ≤ cap) (hnil : a = none → cap = 0) :
    Calls Try.prog 11 #[.slice a n cap, .int .i64 wrong] w fun e w' => e = .returned (.bool true) ∧ G w w' := by
  have HWK := Lib.hid (fun W : World => works_any W)
  by_cases h30 : 30 < n
  · have h30i : (30 : Int) < n := by omega
    go_enter Try.func11, Try.ntmps11
    go_wp2_with (go_at_call 13; refine (HWK.out _).mono ?_; rintro e w2 ⟨rfl, hG2⟩)
    go_ret
    exact ⟨rfl, hG2⟩
  have h30i : ¬ (30 : Int) < n := by omega
  have HR := Lib.hid (fun (W : World) (hW : G w W) => refMinute_any a cap n c wrong W (ha.below hW) hn)
  have HM := Lib.hid (fun (W : World) (a' : Option Addr) (cap' : Nat) (hr : RowAt W a' n 2 c) (hW : G w W) => Minute_any a' cap' n c wrong W hr)
  obtain ⟨s0, s1, er, hs⟩ := minR_form n c wrong
  rw [hs] at HR HM
  clear hs
  have hsrc := src_row ha (by omega) hcap hnil
  obtain ⟨i0, hi0, hz0, hz1, hz2⟩ := info_parts info30
  have g0 : G w (w.alloc (.cells #[] 30)) := (G.rf w).a _
  have b2 := own_empty (Blk.new w 30 #[]) 2
  rcases hsrc with ⟨rfl, rfl, rfl⟩ | ⟨ad, news, rfl, hl, hcs, h1, hget⟩
  · have hrow : RowAt (w.alloc (.cells #[] 30)) (some ⟨w.heap.size, 0, none⟩) 0 2 c := .inl rfl
    have gC := g0
    go_enter Try.func11, Try.ntmps11
    go_wp2_with (first | (at_builtin; refine wpList_append_own_none rfl _ _ 44 rfl w.heap.size 30 i0 2 Try.underlying44 hi0 _ _ _ rfl b2 rfl ?_) | (go_at_call 27; refine (HM.out _ _ _ hrow gC).mono ?_; rintro e wa ⟨rfl, hG2⟩; have gA : G w (wa.alloc (.cells #[.int .i64 s0, .int .i64 s1] 30)) := (gC.t hG2).a _; have b5 : Blk (wa.alloc (.cells #[.int .i64 s0, .int .i64 s1] 30)) wa.heap.size 30 #[.int .i64 s0, .int .i64 s1] := Blk.new wa 30 _) | (go_at_call 29; refine (HR.out _ gA).mono ?_; rintro e wb ⟨rfl, hG3⟩; have gB : G w (wb.alloc (.cells #[.int .i64 s0, .int .i64 s1] 30)) := (gA.t hG3).a _; have b7 : Blk (wb.alloc (.cells #[.int .i64 s0, .int .i64 s1] 30)) wb.heap.size 30 #[.int .i64 s0, .int .i64 s1] := Blk.new wb 30 _; have e7 := b7.cell 0; have e71 := b7.cell 1; replace b5 := b5.keep (hG3.a (.cells #[.int .i64 s0, .int .i64 s1] 30)); have e5 := b5.cell 0; have e51 := b5.cell 1; have q1 := eqSp30 s0 s1 (wb.alloc (.cells #[.int .i64 s0, .int .i64 s1] 30))) | (go_at_call 13; refine (HWK.out _).mono ?_; rintro e wz ⟨rfl, hGz⟩))
    go_ret
    exact ⟨rfl, gB.t hGz⟩
  · have HCS := Lib.hid (hcs _ g0)
    have HGET := Lib.hid hget
    clear hcs hget
    go_enter Try.func11, Try.ntmps11
    go_wp2_with (at_builtin; refine wpList_append_own _ rfl _ _ 44 rfl w.heap.size 30 i0 (.agg #[.int .i64 0, .int .i64 0]) 2 16 Try.underlying44 hi0 hz0 hz1 hz2 rfl (by decide) _ _ _ rfl b2 ad n cap news rfl hl HCS.out h1 (by unfold maxLen; omega) (by omega) (by simp) ?_)
    intro v2 w3 hown hg hnl
    obtain ⟨a2, cap2, rfl, hrow⟩ := row_own (c := c) hown (fun i hi r hr => by
      exact HGET.out i hi r hr)
    rw [show (Value.slice (some ⟨w.heap.size, 0, none⟩) 0 0).ownBlock = some w.heap.size from rfl] at hg
    have gC : G w w3 := ((G.fr (R := fun _ => False) g0).grown hg (fun g e => .inr (by injection e with e; omega))).toG (fun _ _ h => h)
    clear hown hg hnl HGET HCS h1 hl b2
    go_wp2_with (first | (go_at_call 27; refine (HM.out _ _ _ hrow gC).mono ?_; rintro e wa ⟨rfl, hG2⟩; have gA : G w (wa.alloc (.cells #[.int .i64 s0, .int .i64 s1] 30)) := (gC.t hG2).a _; have b5 : Blk (wa.alloc (.cells #[.int .i64 s0, .int .i64 s1] 30)) wa.heap.size 30 #[.int .i64 s0, .int .i64 s1] := Blk.new wa 30 _) | (go_at_call 29; refine (HR.out _ gA).mono ?_; rintro e wb ⟨rfl, hG3⟩; have gB : G w (wb.alloc (.cells #[.int .i64 s0, .int .i64 s1] 30)) := (gA.t hG3).a _; have b7 : Blk (wb.alloc (.cells #[.int .i64 s0, .int .i64 s1] 30)) wb.heap.size 30 #[.int .i64 s0, .int .i64 s1] := Blk.new wb 30 _; have e7 := b7.cell 0; have e71 := b7.cell 1; replace b5 := b5.keep (hG3.a (.cells #[.int .i64 s0, .int .i64 s1] 30)); have e5 := b5.cell 0; have e51 := b5.cell 1; have q1 := eqSp30 s0 s1 (wb.alloc (.cells #[.int .i64 s0, .int .i64 s1] 30))) | (go_at_call 13; refine (HWK.out _).mono ?_; rintro e wz ⟨rfl, hGz⟩))
    go_ret
    exact ⟨rfl, gB.t hGz⟩
end Go.Proofs.Ytcekdljjmfkacaa
