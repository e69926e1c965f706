/-
  No cell of these rows narrows 'for every input' (looked for: loops, veiled, ifaces, maps, wideKeys, modest, calm, conditions, laid).
  DERIVED. THE GIVEN ROWS OF THIS SEAT. 10 by the template 'for every input the law returns true; each argument reads behind the call as it read before'; 0 by the template 'total and deterministic' (their statements: YtnkmcoljijmgpaaGreatTotals.lean).
  GIVEN WITH THE SEED: the statements are not yours to turn. If you find one false, say at which input.
  Laid BY PROGRAM, IN A SANDBOX (cutbox-rows.mjs): the forced cells as the released guide's own fill.sh prints them over the translation 948227b0015c0e03… (all of the seat's roots in one cut). By AI agents, Wed Nov 11 2026. No macro, syntax, notation, axiom, sorry.
-/
import Derived.Test.YtnkmcoljijmgpaaGreatChecked
import GoSem.Claim
import GoSem.ClaimJoined
import GoSem.ClaimMapViews
import Derived.JoinedTies
import Derived.KernelRfl
namespace Go.Proofs.YtnkmcoljijmgpaaGreat
/- THE CELL 'sum', in the pinned program and in every row, IS THE sha256 OF THE DUMP (.gsa) THAT YtnkmcoljijmgpaaGreatProg.lean LOADS. Nothing in Lean hashes anything: it is a label: what it is worth is what the hold of that sum in a sandbox is worth. -/
noncomputable def Tryz.pinned : Pinned := { name := "ytnkmcoljijmgpaagreat", sum := "948227b0015c0e03c43cd0f5f2f5e1f7aef3cbbd24a17a67c1a23c6db8c9029b", checked := Tryz.checked }
namespace Rows
def none {H : Type} : Left H := { results := [], args := [] }

/-- 'squeakerlaw08.PrizesCent': WHATEVER THE INPUT: true; the input reads as it did. -/
def prizesCentSpec : ChangeSpec := { name := "prizesCent", fn := fun _ => fun
  | [d] => { results := [.lit (.bool true)], args := [d] }
  | _ => none }
def prizesCentRow : OpenClaim := { program := "ytnkmcoljijmgpaagreat", sum := "948227b0015c0e03c43cd0f5f2f5e1f7aef3cbbd24a17a67c1a23c6db8c9029b", func := "squeaker/squeakerlaw08.PrizesCent", spec := "prizesCent", unfollowed := true, recurses := true, apart := false }
def PrizesCentSaid : Prop := prizesCentRow.holds Tryz.pinned (OpenSpec.ofChange prizesCentSpec)

/-- ITS FALSE NEIGHBOUR: 'it returns false'. Refute it at one input. -/
def prizesCentWrong : ChangeSpec := { name := "prizesCent", fn := fun _ => fun
  | [d] => { results := [.lit (.bool false)], args := [d] }
  | _ => none }
def PrizesCentWrongFalsely : Prop := prizesCentRow.holds Tryz.pinned (OpenSpec.ofChange prizesCentWrong)

/-- 'squeakerlaw08.PrizesTies': WHATEVER THE INPUT: true; the input reads as it did. -/
def prizesTiesSpec : ChangeSpec := { name := "prizesTies", fn := fun _ => fun
  | [d1, d2] => { results := [.lit (.bool true)], args := [d1, d2] }
  | _ => none }
def prizesTiesRow : OpenClaim := { program := "ytnkmcoljijmgpaagreat", sum := "948227b0015c0e03c43cd0f5f2f5e1f7aef3cbbd24a17a67c1a23c6db8c9029b", func := "squeaker/squeakerlaw08.PrizesTies", spec := "prizesTies", unfollowed := true, recurses := true, apart := false }
def PrizesTiesSaid : Prop := prizesTiesRow.holds Tryz.pinned (OpenSpec.ofChange prizesTiesSpec)

/-- ITS FALSE NEIGHBOUR: 'it returns false'. Refute it at one input. -/
def prizesTiesWrong : ChangeSpec := { name := "prizesTies", fn := fun _ => fun
  | [d1, d2] => { results := [.lit (.bool false)], args := [d1, d2] }
  | _ => none }
def PrizesTiesWrongFalsely : Prop := prizesTiesRow.holds Tryz.pinned (OpenSpec.ofChange prizesTiesWrong)

/-- 'squeakerlaw08.PrizesOrder': WHATEVER THE INPUT: true; the input reads as it did. -/
def prizesOrderSpec : ChangeSpec := { name := "prizesOrder", fn := fun _ => fun
  | [d1, d2] => { results := [.lit (.bool true)], args := [d1, d2] }
  | _ => none }
def prizesOrderRow : OpenClaim := { program := "ytnkmcoljijmgpaagreat", sum := "948227b0015c0e03c43cd0f5f2f5e1f7aef3cbbd24a17a67c1a23c6db8c9029b", func := "squeaker/squeakerlaw08.PrizesOrder", spec := "prizesOrder", unfollowed := true, recurses := true, apart := false }
def PrizesOrderSaid : Prop := prizesOrderRow.holds Tryz.pinned (OpenSpec.ofChange prizesOrderSpec)

/-- ITS FALSE NEIGHBOUR: 'it returns false'. Refute it at one input. -/
def prizesOrderWrong : ChangeSpec := { name := "prizesOrder", fn := fun _ => fun
  | [d1, d2] => { results := [.lit (.bool false)], args := [d1, d2] }
  | _ => none }
def PrizesOrderWrongFalsely : Prop := prizesOrderRow.holds Tryz.pinned (OpenSpec.ofChange prizesOrderWrong)

/-- 'squeakerlaw08.PrizesLate': WHATEVER THE INPUT: true; the input reads as it did. -/
def prizesLateSpec : ChangeSpec := { name := "prizesLate", fn := fun _ => fun
  | [d1, d2, d3] => { results := [.lit (.bool true)], args := [d1, d2, d3] }
  | _ => none }
def prizesLateRow : OpenClaim := { program := "ytnkmcoljijmgpaagreat", sum := "948227b0015c0e03c43cd0f5f2f5e1f7aef3cbbd24a17a67c1a23c6db8c9029b", func := "squeaker/squeakerlaw08.PrizesLate", spec := "prizesLate", unfollowed := true, recurses := true, apart := false }
def PrizesLateSaid : Prop := prizesLateRow.holds Tryz.pinned (OpenSpec.ofChange prizesLateSpec)

/-- ITS FALSE NEIGHBOUR: 'it returns false'. Refute it at one input. -/
def prizesLateWrong : ChangeSpec := { name := "prizesLate", fn := fun _ => fun
  | [d1, d2, d3] => { results := [.lit (.bool false)], args := [d1, d2, d3] }
  | _ => none }
def PrizesLateWrongFalsely : Prop := prizesLateRow.holds Tryz.pinned (OpenSpec.ofChange prizesLateWrong)

/-- 'squeakerlaw08.PrizesCases': WHATEVER THE INPUT: true; the input reads as it did. -/
def prizesCasesSpec : ChangeSpec := { name := "prizesCases", fn := fun _ => fun
  | [d1, d2, d3] => { results := [.lit (.bool true)], args := [d1, d2, d3] }
  | _ => none }
def prizesCasesRow : OpenClaim := { program := "ytnkmcoljijmgpaagreat", sum := "948227b0015c0e03c43cd0f5f2f5e1f7aef3cbbd24a17a67c1a23c6db8c9029b", func := "squeaker/squeakerlaw08.PrizesCases", spec := "prizesCases", unfollowed := true, recurses := true, apart := false }
def PrizesCasesSaid : Prop := prizesCasesRow.holds Tryz.pinned (OpenSpec.ofChange prizesCasesSpec)

/-- ITS FALSE NEIGHBOUR: 'it returns false'. Refute it at one input. -/
def prizesCasesWrong : ChangeSpec := { name := "prizesCases", fn := fun _ => fun
  | [d1, d2, d3] => { results := [.lit (.bool false)], args := [d1, d2, d3] }
  | _ => none }
def PrizesCasesWrongFalsely : Prop := prizesCasesRow.holds Tryz.pinned (OpenSpec.ofChange prizesCasesWrong)

/-- 'squeakerlaw08.PrizesAlone': WHATEVER THE INPUT: true; the input reads as it did. -/
def prizesAloneSpec : ChangeSpec := { name := "prizesAlone", fn := fun _ => fun
  | [d1, d2] => { results := [.lit (.bool true)], args := [d1, d2] }
  | _ => none }
def prizesAloneRow : OpenClaim := { program := "ytnkmcoljijmgpaagreat", sum := "948227b0015c0e03c43cd0f5f2f5e1f7aef3cbbd24a17a67c1a23c6db8c9029b", func := "squeaker/squeakerlaw08.PrizesAlone", spec := "prizesAlone", unfollowed := true, recurses := true, apart := false }
def PrizesAloneSaid : Prop := prizesAloneRow.holds Tryz.pinned (OpenSpec.ofChange prizesAloneSpec)

/-- ITS FALSE NEIGHBOUR: 'it returns false'. Refute it at one input. -/
def prizesAloneWrong : ChangeSpec := { name := "prizesAlone", fn := fun _ => fun
  | [d1, d2] => { results := [.lit (.bool false)], args := [d1, d2] }
  | _ => none }
def PrizesAloneWrongFalsely : Prop := prizesAloneRow.holds Tryz.pinned (OpenSpec.ofChange prizesAloneWrong)

/-- 'squeakerlaw08.PrizesDecided': WHATEVER THE INPUT: true; the input reads as it did. -/
def prizesDecidedSpec : ChangeSpec := { name := "prizesDecided", fn := fun _ => fun
  | [d1, d2] => { results := [.lit (.bool true)], args := [d1, d2] }
  | _ => none }
def prizesDecidedRow : OpenClaim := { program := "ytnkmcoljijmgpaagreat", sum := "948227b0015c0e03c43cd0f5f2f5e1f7aef3cbbd24a17a67c1a23c6db8c9029b", func := "squeaker/squeakerlaw08.PrizesDecided", spec := "prizesDecided", unfollowed := true, recurses := true, apart := false }
def PrizesDecidedSaid : Prop := prizesDecidedRow.holds Tryz.pinned (OpenSpec.ofChange prizesDecidedSpec)

/-- ITS FALSE NEIGHBOUR: 'it returns false'. Refute it at one input. -/
def prizesDecidedWrong : ChangeSpec := { name := "prizesDecided", fn := fun _ => fun
  | [d1, d2] => { results := [.lit (.bool false)], args := [d1, d2] }
  | _ => none }
def PrizesDecidedWrongFalsely : Prop := prizesDecidedRow.holds Tryz.pinned (OpenSpec.ofChange prizesDecidedWrong)

/-- 'squeakerlaw08.PrizesPots': WHATEVER THE INPUT: true; the input reads as it did. -/
def prizesPotsSpec : ChangeSpec := { name := "prizesPots", fn := fun _ => fun
  | [d1, d2] => { results := [.lit (.bool true)], args := [d1, d2] }
  | _ => none }
def prizesPotsRow : OpenClaim := { program := "ytnkmcoljijmgpaagreat", sum := "948227b0015c0e03c43cd0f5f2f5e1f7aef3cbbd24a17a67c1a23c6db8c9029b", func := "squeaker/squeakerlaw08.PrizesPots", spec := "prizesPots", unfollowed := true, recurses := true, apart := false }
def PrizesPotsSaid : Prop := prizesPotsRow.holds Tryz.pinned (OpenSpec.ofChange prizesPotsSpec)

/-- ITS FALSE NEIGHBOUR: 'it returns false'. Refute it at one input. -/
def prizesPotsWrong : ChangeSpec := { name := "prizesPots", fn := fun _ => fun
  | [d1, d2] => { results := [.lit (.bool false)], args := [d1, d2] }
  | _ => none }
def PrizesPotsWrongFalsely : Prop := prizesPotsRow.holds Tryz.pinned (OpenSpec.ofChange prizesPotsWrong)

/-- 'squeakerlaw08.PrizesWon': WHATEVER THE INPUT: true; the input reads as it did. -/
def prizesWonSpec : ChangeSpec := { name := "prizesWon", fn := fun _ => fun
  | [d1, d2] => { results := [.lit (.bool true)], args := [d1, d2] }
  | _ => none }
def prizesWonRow : OpenClaim := { program := "ytnkmcoljijmgpaagreat", sum := "948227b0015c0e03c43cd0f5f2f5e1f7aef3cbbd24a17a67c1a23c6db8c9029b", func := "squeaker/squeakerlaw08.PrizesWon", spec := "prizesWon", unfollowed := true, recurses := true, apart := false }
def PrizesWonSaid : Prop := prizesWonRow.holds Tryz.pinned (OpenSpec.ofChange prizesWonSpec)

/-- ITS FALSE NEIGHBOUR: 'it returns false'. Refute it at one input. -/
def prizesWonWrong : ChangeSpec := { name := "prizesWon", fn := fun _ => fun
  | [d1, d2] => { results := [.lit (.bool false)], args := [d1, d2] }
  | _ => none }
def PrizesWonWrongFalsely : Prop := prizesWonRow.holds Tryz.pinned (OpenSpec.ofChange prizesWonWrong)

/-- 'squeakerlaw08.PrizesOpen': WHATEVER THE INPUT: true; the input reads as it did. -/
def prizesOpenSpec : ChangeSpec := { name := "prizesOpen", fn := fun _ => fun
  | [d1, d2, d3] => { results := [.lit (.bool true)], args := [d1, d2, d3] }
  | _ => none }
def prizesOpenRow : OpenClaim := { program := "ytnkmcoljijmgpaagreat", sum := "948227b0015c0e03c43cd0f5f2f5e1f7aef3cbbd24a17a67c1a23c6db8c9029b", func := "squeaker/squeakerlaw08.PrizesOpen", spec := "prizesOpen", unfollowed := true, recurses := true, apart := false }
def PrizesOpenSaid : Prop := prizesOpenRow.holds Tryz.pinned (OpenSpec.ofChange prizesOpenSpec)

/-- ITS FALSE NEIGHBOUR: 'it returns false'. Refute it at one input. -/
def prizesOpenWrong : ChangeSpec := { name := "prizesOpen", fn := fun _ => fun
  | [d1, d2, d3] => { results := [.lit (.bool false)], args := [d1, d2, d3] }
  | _ => none }
def PrizesOpenWrongFalsely : Prop := prizesOpenRow.holds Tryz.pinned (OpenSpec.ofChange prizesOpenWrong)

/- THE SECOND FORM. 'bulk': how many values and letters a reading holds, each counted each time it is reached (what is shared counts as often as it is met; a slice's spare places count too). A statement '..UptoSaid' is the law's where the arguments, and the package variables that the reading takes, are together of bulk at most 1048576: NARROWER than '..Said'. Prove '..Said' where nothing that the law and all that it calls make is longer than what came in: it says more and counts as full. Else prove '..UptoSaid'. A law counts once. -/
mutual
def uptoBulk {H : Type} : DataW H → Nat
  | .lit (.string bytes) => bytes.length + 1
  | .lit _ => 1
  | .nil => 1
  | .ptr d => uptoBulk d + 1
  | .slice elems spare => uptoBulkAll elems + uptoBulkAll spare + 1
  | .agg parts => uptoBulkAll parts + 1
  | .iface _ d => uptoBulk d + 1
  | .map entries => uptoBulkEntries entries + 1
  | .held _ => 1
def uptoBulkAll {H : Type} : List (DataW H) → Nat
  | [] => 0
  | d :: r => uptoBulk d + uptoBulkAll r
def uptoBulkEntries {H : Type} : List (Lit × DataW H) → Nat
  | [] => 0
  | x :: r => uptoBulkEntry x + uptoBulkEntries r
def uptoBulkEntry {H : Type} : Lit × DataW H → Nat
  | (.string bytes, d) => bytes.length + uptoBulk d + 1
  | (_, d) => uptoBulk d + 1
 end
def uptoSmall : (H : Type) → List (DataW H) → Bool := fun _ ds => decide (uptoBulkAll ds ≤ 1048576)
def OpenSpec.upto (s : _root_.Go.ChangeSpec) : _root_.Go.OpenSpec := { _root_.Go.OpenSpec.ofChange s with cond := some uptoSmall }

/-- 'squeakerlaw08.PrizesCent', WHERE WHAT IT READS IS OF BULK AT MOST 1048576: true; the input reads as it did. -/
def prizesCentUptoRow : OpenClaim := { program := "ytnkmcoljijmgpaagreat", sum := "948227b0015c0e03c43cd0f5f2f5e1f7aef3cbbd24a17a67c1a23c6db8c9029b", func := "squeaker/squeakerlaw08.PrizesCent", spec := "prizesCent", unfollowed := true, recurses := true, apart := false, narrowed := true }
def PrizesCentUptoSaid : Prop := prizesCentUptoRow.holds Tryz.pinned (OpenSpec.upto prizesCentSpec)

/-- 'squeakerlaw08.PrizesTies', WHERE WHAT IT READS IS OF BULK AT MOST 1048576: true; the input reads as it did. -/
def prizesTiesUptoRow : OpenClaim := { program := "ytnkmcoljijmgpaagreat", sum := "948227b0015c0e03c43cd0f5f2f5e1f7aef3cbbd24a17a67c1a23c6db8c9029b", func := "squeaker/squeakerlaw08.PrizesTies", spec := "prizesTies", unfollowed := true, recurses := true, apart := false, narrowed := true }
def PrizesTiesUptoSaid : Prop := prizesTiesUptoRow.holds Tryz.pinned (OpenSpec.upto prizesTiesSpec)

/-- 'squeakerlaw08.PrizesOrder', WHERE WHAT IT READS IS OF BULK AT MOST 1048576: true; the input reads as it did. -/
def prizesOrderUptoRow : OpenClaim := { program := "ytnkmcoljijmgpaagreat", sum := "948227b0015c0e03c43cd0f5f2f5e1f7aef3cbbd24a17a67c1a23c6db8c9029b", func := "squeaker/squeakerlaw08.PrizesOrder", spec := "prizesOrder", unfollowed := true, recurses := true, apart := false, narrowed := true }
def PrizesOrderUptoSaid : Prop := prizesOrderUptoRow.holds Tryz.pinned (OpenSpec.upto prizesOrderSpec)

/-- 'squeakerlaw08.PrizesLate', WHERE WHAT IT READS IS OF BULK AT MOST 1048576: true; the input reads as it did. -/
def prizesLateUptoRow : OpenClaim := { program := "ytnkmcoljijmgpaagreat", sum := "948227b0015c0e03c43cd0f5f2f5e1f7aef3cbbd24a17a67c1a23c6db8c9029b", func := "squeaker/squeakerlaw08.PrizesLate", spec := "prizesLate", unfollowed := true, recurses := true, apart := false, narrowed := true }
def PrizesLateUptoSaid : Prop := prizesLateUptoRow.holds Tryz.pinned (OpenSpec.upto prizesLateSpec)

/-- 'squeakerlaw08.PrizesCases', WHERE WHAT IT READS IS OF BULK AT MOST 1048576: true; the input reads as it did. -/
def prizesCasesUptoRow : OpenClaim := { program := "ytnkmcoljijmgpaagreat", sum := "948227b0015c0e03c43cd0f5f2f5e1f7aef3cbbd24a17a67c1a23c6db8c9029b", func := "squeaker/squeakerlaw08.PrizesCases", spec := "prizesCases", unfollowed := true, recurses := true, apart := false, narrowed := true }
def PrizesCasesUptoSaid : Prop := prizesCasesUptoRow.holds Tryz.pinned (OpenSpec.upto prizesCasesSpec)

/-- 'squeakerlaw08.PrizesAlone', WHERE WHAT IT READS IS OF BULK AT MOST 1048576: true; the input reads as it did. -/
def prizesAloneUptoRow : OpenClaim := { program := "ytnkmcoljijmgpaagreat", sum := "948227b0015c0e03c43cd0f5f2f5e1f7aef3cbbd24a17a67c1a23c6db8c9029b", func := "squeaker/squeakerlaw08.PrizesAlone", spec := "prizesAlone", unfollowed := true, recurses := true, apart := false, narrowed := true }
def PrizesAloneUptoSaid : Prop := prizesAloneUptoRow.holds Tryz.pinned (OpenSpec.upto prizesAloneSpec)

/-- 'squeakerlaw08.PrizesDecided', WHERE WHAT IT READS IS OF BULK AT MOST 1048576: true; the input reads as it did. -/
def prizesDecidedUptoRow : OpenClaim := { program := "ytnkmcoljijmgpaagreat", sum := "948227b0015c0e03c43cd0f5f2f5e1f7aef3cbbd24a17a67c1a23c6db8c9029b", func := "squeaker/squeakerlaw08.PrizesDecided", spec := "prizesDecided", unfollowed := true, recurses := true, apart := false, narrowed := true }
def PrizesDecidedUptoSaid : Prop := prizesDecidedUptoRow.holds Tryz.pinned (OpenSpec.upto prizesDecidedSpec)

/-- 'squeakerlaw08.PrizesPots', WHERE WHAT IT READS IS OF BULK AT MOST 1048576: true; the input reads as it did. -/
def prizesPotsUptoRow : OpenClaim := { program := "ytnkmcoljijmgpaagreat", sum := "948227b0015c0e03c43cd0f5f2f5e1f7aef3cbbd24a17a67c1a23c6db8c9029b", func := "squeaker/squeakerlaw08.PrizesPots", spec := "prizesPots", unfollowed := true, recurses := true, apart := false, narrowed := true }
def PrizesPotsUptoSaid : Prop := prizesPotsUptoRow.holds Tryz.pinned (OpenSpec.upto prizesPotsSpec)

/-- 'squeakerlaw08.PrizesWon', WHERE WHAT IT READS IS OF BULK AT MOST 1048576: true; the input reads as it did. -/
def prizesWonUptoRow : OpenClaim := { program := "ytnkmcoljijmgpaagreat", sum := "948227b0015c0e03c43cd0f5f2f5e1f7aef3cbbd24a17a67c1a23c6db8c9029b", func := "squeaker/squeakerlaw08.PrizesWon", spec := "prizesWon", unfollowed := true, recurses := true, apart := false, narrowed := true }
def PrizesWonUptoSaid : Prop := prizesWonUptoRow.holds Tryz.pinned (OpenSpec.upto prizesWonSpec)

/-- 'squeakerlaw08.PrizesOpen', WHERE WHAT IT READS IS OF BULK AT MOST 1048576: true; the input reads as it did. -/
def prizesOpenUptoRow : OpenClaim := { program := "ytnkmcoljijmgpaagreat", sum := "948227b0015c0e03c43cd0f5f2f5e1f7aef3cbbd24a17a67c1a23c6db8c9029b", func := "squeaker/squeakerlaw08.PrizesOpen", spec := "prizesOpen", unfollowed := true, recurses := true, apart := false, narrowed := true }
def PrizesOpenUptoSaid : Prop := prizesOpenUptoRow.holds Tryz.pinned (OpenSpec.upto prizesOpenSpec)

end Rows
end Go.Proofs.YtnkmcoljijmgpaaGreat
