import Derived.Test.YtpjfdfddcnocpaaKd
import Derived.Maps.RangeWalk
set_option linter.unusedSimpArgs false
set_option linter.unusedVariables false
namespace Go.Proofs.Ytpjfdfddcnocpaa
open Go.RowKit Go.Maps
attribute [local go_sem] Oper.semAt_some

theorem law3 : Keyed Try.prog 3 := int_keyed Try.underlying3
theorem plainElem_bool_inv {H : Type} {P : Program} {e : TypeId} (he : P.underlying e = some .bool) {v : Value} {z : DataW H × List MemPlace} (h : plainElem P e v = some z) : ∃ x, v = .bool x ∧ z = (.lit (.bool x), []) := by
  unfold plainElem at h
  rw [he] at h
  cases v <;> simp at h
  rename_i x
  exact ⟨x, rfl, h.symm⟩
/-- a set of at most one answer -/
def oneD (k : Int) : DataW Unit := .map [(.int .i64 k, .lit (.bool true))]
theorem oneD_at {k : Int} {kl : Lit} {y : DataW Unit} (h : ∀ zd, (oneD k).atKey kl zd = y) : kl = .int .i64 k := by
  by_cases e : (Lit.int .i64 k).sameKey kl = true
  · cases kl <;> simp [Lit.sameKey] at e
    obtain ⟨rfl, rfl⟩ := e
    rfl
  · have h1 := h (.lit (.bool true))
    have h2 := h (.lit (.bool false))
    unfold oneD DataW.atKey at h1 h2
    simp [e] at h1 h2
    rw [← h1] at h2
    cases h2
section
variable {P : Program} (w : World) {ops : Array Oper} {rest : List Oper} {o : Oper} {a : Act} {Q : Exit → Act → World → Prop}
/-- a step of a range over a map of truth values by numbers -/
theorem wpList_next_ib (hg : o.guard = none) (it : Operand) (hop : o.op = Op.next it false) (k e : TypeId) (K : Keyed P k) (hk : P.underlying k = some (.int .i64)) (he : P.underlying e = some .bool) (b r n : Nat) (D : DataW Unit) (left : Lit → Bool) (cnt : Nat)
    (hit : a.eval it = .pointer (some ⟨r, 0, none⟩)) (h : w.ranges P k (plainElem P e) b r n D left cnt)
    (hDone : cnt = 0 → wpList P ops Q rest (a.put o.dst (.tuple #[.bool false])) w)
    (hMore : ∀ (x : Int) (c : Value) (y : DataW Unit) (w' : World) (cnt' : Nat), (∀ zd, D.atKey (.int .i64 x) zd = y) → w'.ranges P k (plainElem P e) b r n D (fun z => left z && !z.sameKey (.int .i64 x)) cnt' → cnt' < cnt →
      w.grownBy w' (some r) → w'.heap.size = w.heap.size → (Instr.entry (.pointer (some ⟨r, 0, none⟩))).run P w' = .ok (.tuple #[.int .i64 x, c]) w' → wpList P ops Q rest (a.put o.dst (.tuple #[.bool true, .int .i64 x, c])) w') :
    wpList P ops Q (o :: rest) a w :=
  wpList_next_ranges w hg it hop k K (plainElem P e) (Value.int .i64) (fun v : Value => v) (fun key kl h => by obtain ⟨x, h, _⟩ := Maps.keyOf_int_inv hk h; exact ⟨x, h⟩) (fun v y h => ⟨v, rfl⟩) b r n D left cnt hit h (fun h0 _ => hDone h0)
    (fun x c kl y w' cnt' hkey hl hR hat hrg hlt hgr hsz hen => by
      obtain ⟨x', hx', e', _⟩ := Maps.keyOf_int_inv hk hkey
      cases hx'
      cases e'
      exact hMore x c y.1 w' cnt' hat hrg hlt hgr hsz hen)
end
set_option maxHeartbeats 2000000 in
theorem only_any (b n : Nat) (k : Int) (w : World) (hown : w.ownsMap Try.prog 3 (plainElem Try.prog 4) b n (oneD k)) :
    Calls Try.prog 61 #[.map (some b)] w fun e w' => e = .returned (.int .i64 k) ∧ G w w' := by
  go_enter Try.func61, Try.ntmps61
  go_wp2_with (first
    | (at_range; refine wpList_range_own _ rfl _ 84 rfl 3 4 law3 Try.underlying84 _ b n _ rfl hown ?_; intro w0 hrg0 hg0 hs0)
    | go_in)
  go_frame
  go_loopw [3] (fun v wr => ∃ (left : Lit → Bool) (cnt : Nat), wr.ranges Try.prog 3 (plainElem Try.prog 4) b w.heap.size n (oneD k) left cnt ∧ (cnt = 0 → v = .int .i64 k) ∧ G w wr)
    (fun _ wr => wr.rangeLeft b w.heap.size)
  case atStart => exact ⟨_, _, hrg0, fun h => by simp [oneD, Maps.size_eq] at h, (Fr.grown (Fr.rf (fun _ => False) w) hg0 (fun g e => by cases e)).toG (fun _ _ h => h)⟩
  case round =>
    obtain ⟨left, cnt, hrg, hv, hgw⟩ := hrel
    have HV := Lib.hid hv
    clear hv
    go_wp2_with (first
      | (at_next; refine wpList_next_ib _ rfl _ rfl 3 4 law3 Try.underlying3 Try.underlying4 b w.heap.size n _ _ _ rfl hrg ?_ ?_)
      | go_in)
    · intro h0
      have hv := HV.out h0
      subst hv
      go_wp2
      go_ret
      exact ⟨rfl, hgw⟩
    · intro x c y w1 cnt1 hat hrg1 hlt hg1 hs1 hen
      have hkl := oneD_at hat
      cases hkl
      have hgw1 : G w w1 := (Fr.grown (G.fr (R := fun _ => False) hgw) hg1 (fun g e => by cases e; exact .inr (Nat.le_refl _))).toG (fun _ _ h => h)
      go_wp2
      go_roundw
      case rel => exact ⟨_, cnt1, hrg1, fun _ => rfl, hgw1⟩
      case measure => rw [hrg1.left_eq, hrg.left_eq]; exact hlt
/-- which of two distances is the lesser one -/
def cmpI (p q : Int) : Int := if p < q then 1 else if q < p then 2 else 3
set_option maxHeartbeats 1000000 in
theorem nearer_any (p q : Int) (w : World) : Calls Try.prog 60 #[.int .i64 p, .int .i64 q] w fun e w' => e = .returned (.int .i64 (cmpI p q)) ∧ w = w' := by
  by_cases h1 : p < q
  · have HC : Hid (cmpI p q = 1) := by unfold cmpI Hid; rw [if_pos h1]
    go_enter Try.func60, Try.ntmps60
    go_wp2
    go_ret
    exact ⟨by rw [HC.out]; rfl, rfl⟩
  · by_cases h2 : q < p
    · have HC : Hid (cmpI p q = 2) := by unfold cmpI Hid; rw [if_neg h1, if_pos h2]
      go_enter Try.func60, Try.ntmps60
      go_wp2
      go_ret
      exact ⟨by rw [HC.out]; rfl, rfl⟩
    · have HC : Hid (cmpI p q = 3) := by unfold cmpI Hid; rw [if_neg h1, if_neg h2]
      go_enter Try.func60, Try.ntmps60
      go_wp2
      go_ret
      exact ⟨by rw [HC.out]; rfl, rfl⟩
end Go.Proofs.Ytpjfdfddcnocpaa
