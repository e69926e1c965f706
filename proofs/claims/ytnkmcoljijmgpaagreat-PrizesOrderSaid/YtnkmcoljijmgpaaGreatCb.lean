import Derived.Test.YtnkmcoljijmgpaaGreatCa
set_option linter.unusedSimpArgs false
set_option linter.unusedVariables false
namespace Go.Proofs.YtnkmcoljijmgpaaGreat
open Go.RowKit Go.Shelf Go.Sort Go.Maps
attribute [local go_sem] Oper.semAt_some
/-- what of a racer the prizes look at -/
def rcK (x : Rc) : Int × Int × Int := (x.bird, x.rank, x.day)
theorem getK {l l' : List Rc} (h : l.map rcK = l'.map rcK) (i : Nat) : rcK (l.getD i default) = rcK (l'.getD i default) := by
  have e := congrArg (fun m => m[i]?) h
  simp only [List.getElem?_map] at e
  rw [List.getD_eq_getElem?_getD, List.getD_eq_getElem?_getD]
  cases h1 : l[i]? <;> cases h2 : l'[i]? <;> rw [h1, h2] at e <;> simp at e ⊢
  exact e
theorem lenK {l l' : List Rc} (h : l.map rcK = l'.map rcK) : l.length = l'.length := by
  have := congrArg List.length h
  simpa using this
theorem srtK {l l' : List Rc} (h : l.map rcK = l'.map rcK) : (srt l).map rcK = (srt l').map rcK := by
  unfold srt
  rw [List.map_mergeSort (f := rcK) (r := fun x y : Rc => decide (x.bird ≤ y.bird)) (s := fun a b : Int × Int × Int => decide (a.1 ≤ b.1)) (fun a _ b _ => rfl), List.map_mergeSort (f := rcK) (r := fun x y : Rc => decide (x.bird ≤ y.bird)) (s := fun a b : Int × Int × Int => decide (a.1 ≤ b.1)) (fun a _ b _ => rfl), h]
theorem tksK {l l' : List Rc} (h : l.map rcK = l'.map rcK) : (tks l).map rcK = (tks l').map rcK := by
  unfold tks
  rw [List.map_mergeSort (f := rcK) (r := fun x y : Rc => !lexL y x) (s := fun a b : Int × Int × Int => !decide (b.2.2 < a.2.2 ∨ (b.2.2 = a.2.2 ∧ (b.2.1 < a.2.1 ∨ (b.2.1 = a.2.1 ∧ b.1 < a.1))))) (fun a _ b _ => rfl), List.map_mergeSort (f := rcK) (r := fun x y : Rc => !lexL y x) (s := fun a b : Int × Int × Int => !decide (b.2.2 < a.2.2 ∨ (b.2.2 = a.2.2 ∧ (b.2.1 < a.2.1 ∨ (b.2.1 = a.2.1 ∧ b.1 < a.1))))) (fun a _ b _ => rfl), h]
theorem filterK {l l' : List Rc} (h : l.map rcK = l'.map rcK) (p : Int × Int × Int → Bool) : (l.filter fun x => p (rcK x)).map rcK = (l'.filter fun x => p (rcK x)).map rcK := by
  have a : ∀ l : List Rc, (l.filter fun x => p (rcK x)).map rcK = (l.map rcK).filter p := fun l => by
    rw [List.filter_map]
    rfl
  rw [a, a, h]
/-- two funds of the same pool, whose birds are the same, with rank and day -/
structure KEq (f g : Fu) : Prop where
  po : f.po = g.po
  rs : f.rs.map rcK = g.rs.map rcK
theorem takersK {f g : Fu} (h : KEq f g) (st : List Int) : (takersL f st).map rcK = (takersL g st).map rcK := by
  unfold takersL
  rw [h.po]
  have e : ∀ x : Rc, skipB g.po.first st x = (fun k : Int × Int × Int => (decide (k.2.2 = 0) || (g.po.first && !decide (k.2.2 = 1))) || inL st k.1) (rcK x) := fun x => rfl
  simp only [e]
  exact tksK (filterK h.rs (fun k => !((decide (k.2.2 = 0) || (g.po.first && !decide (k.2.2 = 1))) || inL st k.1)))
theorem grpK {l l' : List Rc} (h : l.map rcK = l'.map rcK) : ∀ k, grpTo l k = grpTo l' k
  | 0 => rfl
  | k + 1 => by
    have ih := grpK h k
    have e0 := getK h k
    have e1 := getK h (k - 1)
    unfold rcK at e0 e1
    simp only [Prod.mk.injEq] at e0 e1
    have hs : sameB l k = sameB l' k := by
      unfold sameB befD
      rw [e0.2.1, e0.2.2, e1.2.1, e1.2.2]
    unfold grpTo
    rw [hs, ih, e0.1]
theorem orderK {f g : Fu} (h : KEq f g) (st : List Int) : orderL f st = orderL g st := by
  have e := takersK h st
  unfold orderL
  rw [lenK e, grpK e]
theorem leftK {f g : Fu} (h : KEq f g) : lefI f = lefI g ∧ totI f = totI g ∧ kepI f = kepI g := by
  have e := lenK h.rs
  unfold lefI kepI totI
  rw [h.po, e]
  exact ⟨rfl, rfl, rfl⟩
theorem placesK {f g : Fu} (h : KEq f g) : placesL f = placesL g := by
  unfold placesL nPl
  rw [(leftK h).1, h.po, lenK h.rs]
theorem wonK {f g : Fu} (h : KEq f g) (st : List Int) : wonL f st = wonL g st := by
  unfold wonL
  rw [orderK h, placesK h]
theorem resK {f g : Fu} (h : KEq f g) (st : List Int) : resI f st = resI g st := by
  unfold resI
  rw [wonK h, (leftK h).1]
theorem prizesK {f g : Fu} (h : KEq f g) : prizesL f = prizesL g := by
  unfold prizesL
  rw [wonK h, resK h, lenK h.rs]
  have e : ∀ i, (f.rs.getD i default).bird = (g.rs.getD i default).bird := fun i => by
    have := getK h.rs i
    unfold rcK at this
    simp only [Prod.mk.injEq] at this
    exact this.1
  simp only [e]
theorem potK {f g : Fu} (h : KEq f g) : potV f = potV g := by
  unfold potV
  rw [(leftK h).1, (leftK h).2.1, (leftK h).2.2, resK h]
end Go.Proofs.YtnkmcoljijmgpaaGreat
