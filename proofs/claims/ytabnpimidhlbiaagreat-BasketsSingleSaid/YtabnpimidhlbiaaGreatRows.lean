/-
  No cell of these rows narrows 'for every input' (looked for: loops, veiled, ifaces, maps, wideKeys, modest, calm, conditions, laid).
  DERIVED. THE GIVEN ROWS OF THIS SEAT. 5 by the template 'for every input the law returns true; each argument reads behind the call as it read before'; 0 by the template 'total and deterministic' (their statements: YtabnpimidhlbiaaGreatTotals.lean).
  GIVEN WITH THE SEED: the statements are not yours to turn. If you find one false, say at which input.
  Laid BY PROGRAM, IN A SANDBOX (cutbox-rows.mjs): the forced cells as the released guide's own fill.sh prints them over the translation a999cd4525c90142… (all of the seat's roots in one cut). By AI agents, Wed Nov 11 2026. No macro, syntax, notation, axiom, sorry.
-/
import Derived.Test.YtabnpimidhlbiaaGreatChecked
import GoSem.Claim
import GoSem.ClaimJoined
import GoSem.ClaimMapViews
import Derived.JoinedTies
import Derived.KernelRfl
namespace Go.Proofs.YtabnpimidhlbiaaGreat
/- THE CELL 'sum', in the pinned program and in every row, IS THE sha256 OF THE DUMP (.gsa) THAT YtabnpimidhlbiaaGreatProg.lean LOADS. Nothing in Lean hashes anything: it is a label: what it is worth is what the hold of that sum in a sandbox is worth. -/
noncomputable def Tryz.pinned : Pinned := { name := "ytabnpimidhlbiaagreat", sum := "a999cd4525c9014260e0878a30ce431defa1f78bc2e17cbc6f541eda012b0511", checked := Tryz.checked }
namespace Rows
def none {H : Type} : Left H := { results := [], args := [] }

/-- 'squeakerlaw05.BasketsStruck': WHATEVER THE INPUT: true; the input reads as it did. -/
def basketsStruckSpec : ChangeSpec := { name := "basketsStruck", fn := fun _ => fun
  | [d1, d2] => { results := [.lit (.bool true)], args := [d1, d2] }
  | _ => none }
def basketsStruckRow : OpenClaim := { program := "ytabnpimidhlbiaagreat", sum := "a999cd4525c9014260e0878a30ce431defa1f78bc2e17cbc6f541eda012b0511", func := "squeaker/squeakerlaw05.BasketsStruck", spec := "basketsStruck", unfollowed := true, recurses := true, apart := false }
def BasketsStruckSaid : Prop := basketsStruckRow.holds Tryz.pinned (OpenSpec.ofChange basketsStruckSpec)

/-- ITS FALSE NEIGHBOUR: 'it returns false'. Refute it at one input. -/
def basketsStruckWrong : ChangeSpec := { name := "basketsStruck", fn := fun _ => fun
  | [d1, d2] => { results := [.lit (.bool false)], args := [d1, d2] }
  | _ => none }
def BasketsStruckWrongFalsely : Prop := basketsStruckRow.holds Tryz.pinned (OpenSpec.ofChange basketsStruckWrong)

/-- 'squeakerlaw05.BasketsTheft': WHATEVER THE INPUT: true; the input reads as it did. -/
def basketsTheftSpec : ChangeSpec := { name := "basketsTheft", fn := fun _ => fun
  | [d1, d2] => { results := [.lit (.bool true)], args := [d1, d2] }
  | _ => none }
def basketsTheftRow : OpenClaim := { program := "ytabnpimidhlbiaagreat", sum := "a999cd4525c9014260e0878a30ce431defa1f78bc2e17cbc6f541eda012b0511", func := "squeaker/squeakerlaw05.BasketsTheft", spec := "basketsTheft", unfollowed := true, recurses := true, apart := false }
def BasketsTheftSaid : Prop := basketsTheftRow.holds Tryz.pinned (OpenSpec.ofChange basketsTheftSpec)

/-- ITS FALSE NEIGHBOUR: 'it returns false'. Refute it at one input. -/
def basketsTheftWrong : ChangeSpec := { name := "basketsTheft", fn := fun _ => fun
  | [d1, d2] => { results := [.lit (.bool false)], args := [d1, d2] }
  | _ => none }
def BasketsTheftWrongFalsely : Prop := basketsTheftRow.holds Tryz.pinned (OpenSpec.ofChange basketsTheftWrong)

/-- 'squeakerlaw05.BasketsLooks': WHATEVER THE INPUT: true; the input reads as it did. -/
def basketsLooksSpec : ChangeSpec := { name := "basketsLooks", fn := fun _ => fun
  | [d1, d2, d3] => { results := [.lit (.bool true)], args := [d1, d2, d3] }
  | _ => none }
def basketsLooksRow : OpenClaim := { program := "ytabnpimidhlbiaagreat", sum := "a999cd4525c9014260e0878a30ce431defa1f78bc2e17cbc6f541eda012b0511", func := "squeaker/squeakerlaw05.BasketsLooks", spec := "basketsLooks", unfollowed := true, recurses := true, apart := false }
def BasketsLooksSaid : Prop := basketsLooksRow.holds Tryz.pinned (OpenSpec.ofChange basketsLooksSpec)

/-- ITS FALSE NEIGHBOUR: 'it returns false'. Refute it at one input. -/
def basketsLooksWrong : ChangeSpec := { name := "basketsLooks", fn := fun _ => fun
  | [d1, d2, d3] => { results := [.lit (.bool false)], args := [d1, d2, d3] }
  | _ => none }
def BasketsLooksWrongFalsely : Prop := basketsLooksRow.holds Tryz.pinned (OpenSpec.ofChange basketsLooksWrong)

/-- 'squeakerlaw05.BasketsOrder': WHATEVER THE INPUT: true; the input reads as it did. -/
def basketsOrderSpec : ChangeSpec := { name := "basketsOrder", fn := fun _ => fun
  | [d1, d2, d3] => { results := [.lit (.bool true)], args := [d1, d2, d3] }
  | _ => none }
def basketsOrderRow : OpenClaim := { program := "ytabnpimidhlbiaagreat", sum := "a999cd4525c9014260e0878a30ce431defa1f78bc2e17cbc6f541eda012b0511", func := "squeaker/squeakerlaw05.BasketsOrder", spec := "basketsOrder", unfollowed := true, recurses := true, apart := false }
def BasketsOrderSaid : Prop := basketsOrderRow.holds Tryz.pinned (OpenSpec.ofChange basketsOrderSpec)

/-- ITS FALSE NEIGHBOUR: 'it returns false'. Refute it at one input. -/
def basketsOrderWrong : ChangeSpec := { name := "basketsOrder", fn := fun _ => fun
  | [d1, d2, d3] => { results := [.lit (.bool false)], args := [d1, d2, d3] }
  | _ => none }
def BasketsOrderWrongFalsely : Prop := basketsOrderRow.holds Tryz.pinned (OpenSpec.ofChange basketsOrderWrong)

/-- 'squeakerlaw05.BasketsSingle': WHATEVER THE INPUT: true; the input reads as it did. -/
def basketsSingleSpec : ChangeSpec := { name := "basketsSingle", fn := fun _ => fun
  | [d1, d2] => { results := [.lit (.bool true)], args := [d1, d2] }
  | _ => none }
def basketsSingleRow : OpenClaim := { program := "ytabnpimidhlbiaagreat", sum := "a999cd4525c9014260e0878a30ce431defa1f78bc2e17cbc6f541eda012b0511", func := "squeaker/squeakerlaw05.BasketsSingle", spec := "basketsSingle", unfollowed := true, recurses := true, apart := false }
def BasketsSingleSaid : Prop := basketsSingleRow.holds Tryz.pinned (OpenSpec.ofChange basketsSingleSpec)

/-- ITS FALSE NEIGHBOUR: 'it returns false'. Refute it at one input. -/
def basketsSingleWrong : ChangeSpec := { name := "basketsSingle", fn := fun _ => fun
  | [d1, d2] => { results := [.lit (.bool false)], args := [d1, d2] }
  | _ => none }
def BasketsSingleWrongFalsely : Prop := basketsSingleRow.holds Tryz.pinned (OpenSpec.ofChange basketsSingleWrong)

/- THE SECOND FORM. 'bulk': how many values and letters a reading holds, each counted each time it is reached (what is shared counts as often as it is met; a slice's spare places count too). A statement '..UptoSaid' is the law's where the arguments, and the package variables that the reading takes, are together of bulk at most 1048576: NARROWER than '..Said'. Prove '..Said' where nothing that the law and all that it calls make is longer than what came in: it says more and counts as full. Else prove '..UptoSaid'. A law counts once. -/
mutual
def uptoBulk {H : Type} : DataW H → Nat
  | .lit (.string bytes) => bytes.length + 1
  | .lit _ => 1
  | .nil => 1
  | .ptr d => uptoBulk d + 1
  | .slice elems spare => uptoBulkAll elems + uptoBulkAll spare + 1
  | .agg parts => uptoBulkAll parts + 1
  | .iface _ d => uptoBulk d + 1
  | .map entries => uptoBulkEntries entries + 1
  | .held _ => 1
def uptoBulkAll {H : Type} : List (DataW H) → Nat
  | [] => 0
  | d :: r => uptoBulk d + uptoBulkAll r
def uptoBulkEntries {H : Type} : List (Lit × DataW H) → Nat
  | [] => 0
  | x :: r => uptoBulkEntry x + uptoBulkEntries r
def uptoBulkEntry {H : Type} : Lit × DataW H → Nat
  | (.string bytes, d) => bytes.length + uptoBulk d + 1
  | (_, d) => uptoBulk d + 1
 end
def uptoSmall : (H : Type) → List (DataW H) → Bool := fun _ ds => decide (uptoBulkAll ds ≤ 1048576)
def OpenSpec.upto (s : _root_.Go.ChangeSpec) : _root_.Go.OpenSpec := { _root_.Go.OpenSpec.ofChange s with cond := some uptoSmall }

/-- 'squeakerlaw05.BasketsStruck', WHERE WHAT IT READS IS OF BULK AT MOST 1048576: true; the input reads as it did. -/
def basketsStruckUptoRow : OpenClaim := { program := "ytabnpimidhlbiaagreat", sum := "a999cd4525c9014260e0878a30ce431defa1f78bc2e17cbc6f541eda012b0511", func := "squeaker/squeakerlaw05.BasketsStruck", spec := "basketsStruck", unfollowed := true, recurses := true, apart := false, narrowed := true }
def BasketsStruckUptoSaid : Prop := basketsStruckUptoRow.holds Tryz.pinned (OpenSpec.upto basketsStruckSpec)

/-- 'squeakerlaw05.BasketsTheft', WHERE WHAT IT READS IS OF BULK AT MOST 1048576: true; the input reads as it did. -/
def basketsTheftUptoRow : OpenClaim := { program := "ytabnpimidhlbiaagreat", sum := "a999cd4525c9014260e0878a30ce431defa1f78bc2e17cbc6f541eda012b0511", func := "squeaker/squeakerlaw05.BasketsTheft", spec := "basketsTheft", unfollowed := true, recurses := true, apart := false, narrowed := true }
def BasketsTheftUptoSaid : Prop := basketsTheftUptoRow.holds Tryz.pinned (OpenSpec.upto basketsTheftSpec)

/-- 'squeakerlaw05.BasketsLooks', WHERE WHAT IT READS IS OF BULK AT MOST 1048576: true; the input reads as it did. -/
def basketsLooksUptoRow : OpenClaim := { program := "ytabnpimidhlbiaagreat", sum := "a999cd4525c9014260e0878a30ce431defa1f78bc2e17cbc6f541eda012b0511", func := "squeaker/squeakerlaw05.BasketsLooks", spec := "basketsLooks", unfollowed := true, recurses := true, apart := false, narrowed := true }
def BasketsLooksUptoSaid : Prop := basketsLooksUptoRow.holds Tryz.pinned (OpenSpec.upto basketsLooksSpec)

/-- 'squeakerlaw05.BasketsOrder', WHERE WHAT IT READS IS OF BULK AT MOST 1048576: true; the input reads as it did. -/
def basketsOrderUptoRow : OpenClaim := { program := "ytabnpimidhlbiaagreat", sum := "a999cd4525c9014260e0878a30ce431defa1f78bc2e17cbc6f541eda012b0511", func := "squeaker/squeakerlaw05.BasketsOrder", spec := "basketsOrder", unfollowed := true, recurses := true, apart := false, narrowed := true }
def BasketsOrderUptoSaid : Prop := basketsOrderUptoRow.holds Tryz.pinned (OpenSpec.upto basketsOrderSpec)

/-- 'squeakerlaw05.BasketsSingle', WHERE WHAT IT READS IS OF BULK AT MOST 1048576: true; the input reads as it did. -/
def basketsSingleUptoRow : OpenClaim := { program := "ytabnpimidhlbiaagreat", sum := "a999cd4525c9014260e0878a30ce431defa1f78bc2e17cbc6f541eda012b0511", func := "squeaker/squeakerlaw05.BasketsSingle", spec := "basketsSingle", unfollowed := true, recurses := true, apart := false, narrowed := true }
def BasketsSingleUptoSaid : Prop := basketsSingleUptoRow.holds Tryz.pinned (OpenSpec.upto basketsSingleSpec)

end Rows
end Go.Proofs.YtabnpimidhlbiaaGreat
