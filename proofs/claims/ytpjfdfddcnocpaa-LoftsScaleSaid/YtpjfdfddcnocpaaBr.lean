import Derived.OrdersHeld
import Derived.OrdersIn
import Derived.TacticsIn
import Derived.RangeFuncCalls
import Derived.Deep.RegionHeld
import Derived.Test.YtpjfdfddcnocpaaCx
set_option linter.unusedSimpArgs false
set_option linter.unusedVariables false
namespace Go.Proofs.Ytpjfdfddcnocpaa
open Go.RowKit

/-- the wide fence, in a round or not -/
abbrev WR (l : Option Nat) : Fence := { Fence.wide with round := l }

def noDefer (ops : Array Oper) : Bool := ops.all fun o => match o.op with | .defer _ => false | _ => true
theorem noDefer_spec {ops : Array Oper} (h : noDefer ops = true) {i : Nat} {o : Oper} (ho : ops[i]? = some o) : ∀ c, o.op ≠ .defer c := by
  intro c hc
  obtain ⟨hi, rfl⟩ := Array.getElem?_eq_some_iff.1 ho
  have := (Array.all_eq_true.1 h) i hi
  rw [hc] at this
  cases this

section
variable {P : Program} {ops : Array Oper} {md : Region.Mode} {l : Option Nat} {n : Nat} {Q : Exit → Act → World → Prop}
theorem rowsIn_wide {row : String} {args : Array Value} {w : World} {R : Value → World → Prop} (h : Rows P row args w R) : RowsIn (WR l) n P row args w R :=
  fun c cs _ => let ⟨v, w', r, s⟩ := h c cs; ⟨v, w', r, stepsIn_wide.2 s⟩
theorem Oper.wpIn_of_wp {o : Oper} {a : Act} {w : World} {K : Act → World → Prop} (hd : ∀ c, o.op ≠ .defer c) (h : o.wp P a w K Q) : o.wpIn (WR l) n P a w K Q := by
  refine ⟨fun _ _ => trivial, ?_⟩
  have e : o.semAt (WR l).round a.eval = execOp a.eval o := by
    cases l with
    | none => exact Oper.semAt_none a.eval o
    | some l => exact Oper.semAt_some l a.eval o hd
  rw [e]
  unfold Oper.wp at h
  generalize (execOp a.eval o).run P w = r at *
  cases r with
  | ok x w' =>
    cases x <;> simp only [Oper.upon, Oper.uponIn] at h ⊢ <;> first
      | exact h
      | exact ⟨(fun hh => by cases hh), (callsIn_wide.2 h : CallsIn Fence.wide _ _ _ _ _ _)⟩
      | exact ⟨(fun hh => by cases hh), rowsIn_wide h⟩
      | exact h.elim
  | halt x w' => cases x <;> simp only [Oper.upon, Oper.uponIn] at h ⊢ <;> exact h

theorem wpAnyIn_of_wpAny (hQ : ¬ LetsOut Q) (hd : noDefer ops = true) : ∀ (fuel : Nat) (listed : Array Bool) (a : Act) (w : World), wpAny P md ops Q fuel listed a w → wpAnyIn (WR l) n P md ops Q fuel listed a w
  | 0, _, _, _, h => h
  | fuel + 1, listed, a, w, h => ⟨h.1, fun i hi => by
    have h1 := wpOp_mono (fun a' w' h' => wpAnyIn_of_wpAny hQ hd fuel _ a' w' h') (h.2 i hi)
    unfold wpOp at h1
    unfold wpOpIn
    split
    · rename_i ho; simpa [ho] using h1
    · rename_i o ho
      simp only [ho] at h1
      split
      · rename_i hw
        simp only [hw, if_true] at h1
        rcases h1 with h1 | ⟨_, h1⟩
        · exact Oper.wpIn_of_wp (noDefer_spec hd ho) h1
        · exact (hQ h1).elim
      · rename_i hw
        simp only [hw] at h1
        exact ⟨fun _ _ => trivial, h1⟩⟩

/-- a region that draws its order, in a round: from whatever gives the plain 'wpAny' -/
theorem wpIn_region_round {id : Nat} {a : Act} {w : World} (hm : P.follows .mixedOrders = true) (hQ : ¬ LetsOut Q) (hd : noDefer ops = true)
    (h : wpAny P .any ops Q ops.size (Array.replicate ops.size false) a w.drew) : (Code.region id ops true).wpIn (WR l) n P Q a w :=
  wpIn_region_any hm (wpAnyIn_of_wpAny hQ hd _ _ _ _ h)

/-- .. the held walk -/
theorem wpIn_region_held {id : Nat} {a : Act} {w : World} {S : World → Prop} {l' : List Oper} (N : Nat) (hN : l'.length = N) (hm : P.follows .mixedOrders = true) (hQ : ¬ LetsOut Q) (hd : noDefer l'.toArray = true) (hS : S w.drew)
    (h : S w.drew → wpAnyH P .any l'.toArray Q S N (Array.replicate N false) a w.drew) : (Code.region id l'.toArray true).wpIn (WR l) n P Q a w :=
  wpIn_region_round hm hQ hd (wpAny_of_held _ _ _ _ (by subst hN; simpa using h hS))

/-- .. the quiet walk in the class of the grown worlds -/
theorem wpIn_region_quiet_GR {id : Nat} {a : Act} {W0 : World} {l' : List Oper} (hm : P.follows .mixedOrders = true) (hQ : ¬ LetsOut Q) (hd : noDefer l'.toArray = true) (hB : Region.lexB .any l'.toArray = true)
    (h : wpQuiet P l'.toArray (fun w' => ∃ x : GW W0, w' = x.w) (fun a' => ∀ w', (∃ x : GW W0, w' = x.w) → Q .normal a' w') l' a) : (Code.region id l'.toArray true).wpIn (WR l) n P Q a W0 := by
  refine wpIn_region_round hm hQ hd ?_
  simp only [Region.lexB, Bool.and_eq_true] at hB
  refine wpAny_of_quiet (C := fun w' => ∃ x : GW W0, w' = x.w) (Q := fun a' => ∀ w', (∃ x : GW W0, w' = x.w) → Q .normal a' w') (fun _ w' hw' h => h w' hw') _ _ _ _ ⟨⟨_, (G.rf W0).d⟩, rfl⟩ ?_
  have := wpAnyQ_lex (C := fun w' => ∃ x : GW W0, w' = x.w) (md := .any) hB.1 l' 0 (Array.replicate l'.length false) a (by simp) (by simpa using hB.2) h
  simpa using this
end
end Go.Proofs.Ytpjfdfddcnocpaa
