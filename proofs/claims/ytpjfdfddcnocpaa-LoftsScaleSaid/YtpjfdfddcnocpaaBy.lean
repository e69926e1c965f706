import Derived.Test.YtpjfdfddcnocpaaBz
set_option linter.unusedSimpArgs false
set_option linter.unusedVariables false
namespace Go.Proofs.Ytpjfdfddcnocpaa
open Go.RowKit

section
variable {P : Program} {ops : Array Oper} {md : Region.Mode} {Q : Exit → Act → World → Prop} {S : World → Prop} {z : Nat}
/-- whatever order is picked; S holds as long as operation z is not listed -/
def wpAnyY (P : Program) (md : Region.Mode) (ops : Array Oper) (Q : Exit → Act → World → Prop) (S : World → Prop) (z : Nat) : Nat → Array Bool → Act → World → Prop
  | 0, l, a, w => Region.ready md ops l = [] ∧ Q .normal a w
  | fuel + 1, l, a, w => (Region.ready md ops l = [] → Q .normal a w) ∧
    ∀ i ∈ Region.ready md ops l, wpOp P ops Q i (fun a' w' => ((l.setIfInBounds i true).getD z false = false → S w') ∧ wpAnyY P md ops Q S z fuel (l.setIfInBounds i true) a' w') a w

theorem wpAny_of_Y : ∀ (fuel : Nat) (l : Array Bool) (a : Act) (w : World), wpAnyY P md ops Q S z fuel l a w → wpAny P md ops Q fuel l a w
  | 0, _, _, _, h => h
  | fuel + 1, _, _, _, h => ⟨h.1, fun i hi => wpOp_mono (fun _ _ h' => wpAny_of_Y fuel _ _ _ h'.2) (h.2 i hi)⟩

theorem wpAnyY_first {i : Nat} {oi : Oper} {v : Value} (hi : ops[i]? = some oi) (hsel : Region.noSelect ops = true) (hz : i ≠ z) (hw : waitsT md ops 40 z i = true)
    (hQ : ∀ c a w, Q (.panic c) (a.put oi.dst v) w → Q (.panic c) a w) :
    ∀ (fuel : Nat) (l : Array Bool) (a : Act) (w : World), Closed md ops l → l.getD z false = false → (∀ j oj, ops[j]? = some oj → j ≠ i → l.getD j true = false → (∀ e ∈ oj.after, Region.binds md e = true → e.on ≠ i) → oi.apart ops oj = true) →
      i ∈ Region.ready md ops l → YieldsIf P ops S oi v a → S w → wpAnyY P md ops Q S z fuel (l.setIfInBounds i true) (a.put oi.dst v) w → wpAnyY P md ops Q S z (fuel + 1) l a w
  | fuel, l, a, w, hcl, hlz, hfree, hr, hy, hS, H => by
    refine ⟨fun h => absurd (h ▸ hr) (by simp), fun j hj => ?_⟩
    by_cases hji : j = i
    · subst hji
      exact hy.wpOp hi hS ⟨fun _ => hS, H⟩
    have hj2 := ready_mono hj hji
    cases fuel with
    | zero => rw [H.1] at hj2; cases hj2
    | succ fuel =>
      have hjz : j ≠ z := fun e => not_ready_of_waits hcl hw hr (e ▸ hj)
      have hlz' : (l.setIfInBounds j true).getD z false = false := by rw [getD_set_ne false hjz]; exact hlz
      obtain ⟨hjun, oj, hoj, hall⟩ := mem_ready.1 hj
      have hno : ∀ e ∈ oj.after, Region.binds md e = true → e.on ≠ i := fun e he hb heq => by
        have h1 := hall e he hb
        have h0 := (mem_ready.1 hr).1
        rw [heq] at h1
        cases hq : l[i]? <;> simp [hq] at h0 h1
        rw [h0] at h1
        cases h1
      have h2 := wpOp_putIf hoj (hfree j oj hoj hji hjun hno) (fun cs b => Region.noSelect_spec hsel i oi cs b hi) (fun cs b => Region.noSelect_spec hsel j oj cs b hoj) hQ hy (H.2 j hj2)
      have hlz2 : ((l.setIfInBounds i true).setIfInBounds j true).getD z false = false := by rw [getD_set_ne false hjz, getD_set_ne false hz]; exact hlz
      refine wpOp_mono (fun a' w' h3 => ⟨fun _ => h3.2.1 hlz2, ?_⟩) h2
      refine wpAnyY_first hi hsel hz hw hQ fuel _ a' w' (hcl.set hj) hlz' (fun k ok hk hki hun hn => hfree k ok hk hki ?_ hn) (ready_mono hr (Ne.symm hji)) h3.1 (h3.2.1 hlz2) ?_
      · by_cases hjk : j = k
        · exact hjk ▸ hjun
        · rwa [getD_set_ne true hjk] at hun
      · rw [Array.setIfInBounds_comm _ _ hji]
        exact h3.2.2

/-- .. at once, or by others: asked in this order (the kernel is quick at the first) -/
def waitsD (md : Region.Mode) (ops : Array Oper) (z i : Nat) : Bool :=
  (match ops[z]? with | some o => o.after.any fun e => Region.binds md e && e.on == i | none => false) || waitsT md ops 40 z i
theorem waitsD_T {i : Nat} (h : waitsD md ops z i = true) : waitsT md ops 40 z i = true := by
  unfold waitsD at h
  rw [Bool.or_eq_true] at h
  rcases h with h | h
  · unfold waitsT
    cases ho : ops[z]? with
    | none => rw [ho] at h; cases h
    | some o =>
      rw [ho] at h
      simp only [Array.any_eq_true, Bool.and_eq_true, beq_iff_eq] at h ⊢
      obtain ⟨k, hk, hb, he⟩ := h
      exact ⟨k, hk, hb, by simp [he]⟩
  · exact h
theorem wpAnyY_take {i : Nat} {oi : Oper} {v : Value} {fuel : Nat} {l : Array Bool} {a : Act} {w : World} (hi : ops[i]? = some oi) (hs : Region.noSelect ops = true) (hf : Region.free md ops l i = true)
    (hr : (Region.ready md ops l).contains i = true) (hw : (decide (i ≠ z) && (waitsD md ops z i && (closedB md ops l && !l.getD z false))) = true) (hQ : ∀ c a w, Q (.panic c) (a.put oi.dst v) w → Q (.panic c) a w) (hy : YieldsIf P ops S oi v a) (hS : S w)
    (h : wpAnyY P md ops Q S z fuel (l.setIfInBounds i true) (a.put oi.dst v) w) : wpAnyY P md ops Q S z (fuel + 1) l a w := by
  simp only [Bool.and_eq_true, decide_eq_true_eq, Bool.not_eq_true'] at hw
  exact wpAnyY_first hi hs hw.1 (waitsD_T hw.2.1) hQ fuel l a w (closed_of_B hw.2.2.1) hw.2.2.2 (Region.free_spec hi hf) (by simpa using hr) hy hS h

/-- one operation alone may come up, and z is listed or is this one -/
theorem wpAnyY_one {i : Nat} {o : Oper} {fuel : Nat} {l : Array Bool} {a : Act} {w : World} (hr : Region.ready md ops l = [i]) (ho : ops[i]? = some o) (hz : (l.setIfInBounds i true).getD z false = true)
    (h : ∀ K' : Act → World → Prop, Shut (∀ a w, wpAnyY P md ops Q S z fuel (l.setIfInBounds i true) a w → K' a w) → if Region.wanted o (yielded ops a.tmps) = true then Oper.wp P o a w K' Q else K' (a.put o.dst undef) w) :
    wpAnyY P md ops Q S z (fuel + 1) l a w := by
  refine ⟨fun h0 => (by rw [hr] at h0; cases h0), fun j hj => ?_⟩
  rw [hr] at hj
  obtain rfl : j = i := by simpa using hj
  exact wpOp_step ho (fun K' hK => h K' (fun a w hW => hK a w ⟨fun e => (by rw [hz] at e; cases e), hW⟩))
/-- .. where S is told -/
theorem wpAnyY_oneS {i : Nat} {o : Oper} {fuel : Nat} {l : Array Bool} {a : Act} {w : World} (hr : Region.ready md ops l = [i]) (ho : ops[i]? = some o)
    (h : ∀ K' : Act → World → Prop, Shut (∀ a w, S w → (S w → wpAnyY P md ops Q S z fuel (l.setIfInBounds i true) a w) → K' a w) → if Region.wanted o (yielded ops a.tmps) = true then Oper.wp P o a w K' Q else K' (a.put o.dst undef) w) :
    wpAnyY P md ops Q S z (fuel + 1) l a w := by
  refine ⟨fun h0 => (by rw [hr] at h0; cases h0), fun j hj => ?_⟩
  rw [hr] at hj
  obtain rfl : j = i := by simpa using hj
  exact wpOp_step ho (fun K' hK => h K' (fun a w hS hW => hK a w ⟨fun _ => hS, hW hS⟩))
end
theorem wpAnyY_done {P : Program} {ops : Array Oper} {md : Region.Mode} {Q : Exit → Act → World → Prop} {S : World → Prop} {z : Nat} {l : Array Bool} {a : Act} {w : World} (hr : Region.ready md ops l = []) (h : Q .normal a w) : ∀ fuel, wpAnyY P md ops (NoP Q) S z fuel l a w
  | 0 => ⟨hr, h⟩
  | _ + 1 => ⟨fun _ => h, by rw [hr]; simp⟩
theorem wpIn_region_Y {P : Program} {Q : Exit → Act → World → Prop} {l : Option Nat} {n : Nat} {id : Nat} {a : Act} {w : World} {S : World → Prop} {l' : List Oper} (z N : Nat) (hN : l'.length = N) (hm : P.follows .mixedOrders = true) (hQ : ¬ LetsOut Q) (hd : noDefer l'.toArray = true) (hS : S w.drew)
    (h : S w.drew → wpAnyY P .any l'.toArray (NoP Q) S z N (Array.replicate N false) a w.drew) : (Code.region id l'.toArray true).wpIn (WR l) n P Q a w :=
  Code.wpIn_mono NoP.imp (wpIn_region_round hm (NoP.lets hQ) hd (wpAny_of_Y _ _ _ _ (by subst hN; simpa using h hS)))
theorem wp_region_Y {P : Program} {Q : Exit → Act → World → Prop} {id : Nat} {a : Act} {w : World} {S : World → Prop} {l' : List Oper} (z N : Nat) (hN : l'.length = N) (hm : P.follows .mixedOrders = true) (hS : S w.drew)
    (h : S w.drew → wpAnyY P .any l'.toArray (NoP Q) S z N (Array.replicate N false) a w.drew) : (Code.region id l'.toArray true).wp P Q a w :=
  Code.wp_mono NoP.imp (wp_region_any hm (wpAny_of_Y _ _ _ _ (by subst hN; simpa using h hS)))
end Go.Proofs.Ytpjfdfddcnocpaa
