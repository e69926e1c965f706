/-
  No cell of these rows narrows 'for every input' (looked for: loops, veiled, ifaces, maps, wideKeys, modest, calm, conditions, laid).
  DERIVED. THE GIVEN ROWS OF THIS SEAT. 11 by the template 'for every input the law returns true; each argument reads behind the call as it read before'; 0 by the template 'total and deterministic' (their statements: YtpjfdfddcnocpaaTotals.lean).
  GIVEN WITH THE SEED: the statements are not yours to turn. If you find one false, say at which input.
  Laid BY PROGRAM, IN A SANDBOX (cutbox-rows.mjs): the forced cells as the released guide's own fill.sh prints them over the translation 919f9d8d4ce11e6e… (all of the seat's roots in one cut). By AI agents, Wed Nov 11 2026. No macro, syntax, notation, axiom, sorry.
-/
import Derived.Test.YtpjfdfddcnocpaaChecked
import GoSem.Claim
import GoSem.ClaimJoined
import GoSem.ClaimMapViews
import Derived.JoinedTies
import Derived.KernelRfl
namespace Go.Proofs.Ytpjfdfddcnocpaa
/- THE CELL 'sum', in the pinned program and in every row, IS THE sha256 OF THE DUMP (.gsa) THAT YtpjfdfddcnocpaaProg.lean LOADS. Nothing in Lean hashes anything: it is a label: what it is worth is what the hold of that sum in a sandbox is worth. -/
noncomputable def Try.pinned : Pinned := { name := "ytpjfdfddcnocpaa", sum := "919f9d8d4ce11e6ef306bea86484c3490aae339d282adef13ab99bb9967ce706", checked := Try.checked }
namespace Rows
def none {H : Type} : Left H := { results := [], args := [] }

/-- 'squeakerlaw02.LoftsRounded': WHATEVER THE INPUT: true; the input reads as it did. -/
def loftsRoundedSpec : ChangeSpec := { name := "loftsRounded", fn := fun _ => fun
  | [d1, d2, d3] => { results := [.lit (.bool true)], args := [d1, d2, d3] }
  | _ => none }
def loftsRoundedRow : OpenClaim := { program := "ytpjfdfddcnocpaa", sum := "919f9d8d4ce11e6ef306bea86484c3490aae339d282adef13ab99bb9967ce706", func := "squeaker/squeakerlaw02.LoftsRounded", spec := "loftsRounded", unfollowed := true, recurses := true, apart := false }
def LoftsRoundedSaid : Prop := loftsRoundedRow.holds Try.pinned (OpenSpec.ofChange loftsRoundedSpec)

/-- ITS FALSE NEIGHBOUR: 'it returns false'. Refute it at one input. -/
def loftsRoundedWrong : ChangeSpec := { name := "loftsRounded", fn := fun _ => fun
  | [d1, d2, d3] => { results := [.lit (.bool false)], args := [d1, d2, d3] }
  | _ => none }
def LoftsRoundedWrongFalsely : Prop := loftsRoundedRow.holds Try.pinned (OpenSpec.ofChange loftsRoundedWrong)

/-- 'squeakerlaw02.LoftsTruth': WHATEVER THE INPUT: true; the input reads as it did. -/
def loftsTruthSpec : ChangeSpec := { name := "loftsTruth", fn := fun _ => fun
  | [d1, d2, d3] => { results := [.lit (.bool true)], args := [d1, d2, d3] }
  | _ => none }
def loftsTruthRow : OpenClaim := { program := "ytpjfdfddcnocpaa", sum := "919f9d8d4ce11e6ef306bea86484c3490aae339d282adef13ab99bb9967ce706", func := "squeaker/squeakerlaw02.LoftsTruth", spec := "loftsTruth", unfollowed := true, recurses := true, apart := false }
def LoftsTruthSaid : Prop := loftsTruthRow.holds Try.pinned (OpenSpec.ofChange loftsTruthSpec)

/-- ITS FALSE NEIGHBOUR: 'it returns false'. Refute it at one input. -/
def loftsTruthWrong : ChangeSpec := { name := "loftsTruth", fn := fun _ => fun
  | [d1, d2, d3] => { results := [.lit (.bool false)], args := [d1, d2, d3] }
  | _ => none }
def LoftsTruthWrongFalsely : Prop := loftsTruthRow.holds Try.pinned (OpenSpec.ofChange loftsTruthWrong)

/-- 'squeakerlaw02.LoftsEnds': WHATEVER THE INPUT: true; the input reads as it did. -/
def loftsEndsSpec : ChangeSpec := { name := "loftsEnds", fn := fun _ => fun
  | [d1, d2] => { results := [.lit (.bool true)], args := [d1, d2] }
  | _ => none }
def loftsEndsRow : OpenClaim := { program := "ytpjfdfddcnocpaa", sum := "919f9d8d4ce11e6ef306bea86484c3490aae339d282adef13ab99bb9967ce706", func := "squeaker/squeakerlaw02.LoftsEnds", spec := "loftsEnds", unfollowed := true, recurses := true, apart := false }
def LoftsEndsSaid : Prop := loftsEndsRow.holds Try.pinned (OpenSpec.ofChange loftsEndsSpec)

/-- ITS FALSE NEIGHBOUR: 'it returns false'. Refute it at one input. -/
def loftsEndsWrong : ChangeSpec := { name := "loftsEnds", fn := fun _ => fun
  | [d1, d2] => { results := [.lit (.bool false)], args := [d1, d2] }
  | _ => none }
def LoftsEndsWrongFalsely : Prop := loftsEndsRow.holds Try.pinned (OpenSpec.ofChange loftsEndsWrong)

/-- 'squeakerlaw02.LoftsMore': WHATEVER THE INPUT: true; the input reads as it did. -/
def loftsMoreSpec : ChangeSpec := { name := "loftsMore", fn := fun _ => fun
  | [d1, d2, d3] => { results := [.lit (.bool true)], args := [d1, d2, d3] }
  | _ => none }
def loftsMoreRow : OpenClaim := { program := "ytpjfdfddcnocpaa", sum := "919f9d8d4ce11e6ef306bea86484c3490aae339d282adef13ab99bb9967ce706", func := "squeaker/squeakerlaw02.LoftsMore", spec := "loftsMore", unfollowed := true, recurses := true, apart := false }
def LoftsMoreSaid : Prop := loftsMoreRow.holds Try.pinned (OpenSpec.ofChange loftsMoreSpec)

/-- ITS FALSE NEIGHBOUR: 'it returns false'. Refute it at one input. -/
def loftsMoreWrong : ChangeSpec := { name := "loftsMore", fn := fun _ => fun
  | [d1, d2, d3] => { results := [.lit (.bool false)], args := [d1, d2, d3] }
  | _ => none }
def LoftsMoreWrongFalsely : Prop := loftsMoreRow.holds Try.pinned (OpenSpec.ofChange loftsMoreWrong)

/-- 'squeakerlaw02.LoftsOrder': WHATEVER THE INPUT: true; the input reads as it did. -/
def loftsOrderSpec : ChangeSpec := { name := "loftsOrder", fn := fun _ => fun
  | [d1, d2, d3] => { results := [.lit (.bool true)], args := [d1, d2, d3] }
  | _ => none }
def loftsOrderRow : OpenClaim := { program := "ytpjfdfddcnocpaa", sum := "919f9d8d4ce11e6ef306bea86484c3490aae339d282adef13ab99bb9967ce706", func := "squeaker/squeakerlaw02.LoftsOrder", spec := "loftsOrder", unfollowed := true, recurses := true, apart := false }
def LoftsOrderSaid : Prop := loftsOrderRow.holds Try.pinned (OpenSpec.ofChange loftsOrderSpec)

/-- ITS FALSE NEIGHBOUR: 'it returns false'. Refute it at one input. -/
def loftsOrderWrong : ChangeSpec := { name := "loftsOrder", fn := fun _ => fun
  | [d1, d2, d3] => { results := [.lit (.bool false)], args := [d1, d2, d3] }
  | _ => none }
def LoftsOrderWrongFalsely : Prop := loftsOrderRow.holds Try.pinned (OpenSpec.ofChange loftsOrderWrong)

/-- 'squeakerlaw02.LoftsMirror': WHATEVER THE INPUT: true; the input reads as it did. -/
def loftsMirrorSpec : ChangeSpec := { name := "loftsMirror", fn := fun _ => fun
  | [d1, d2] => { results := [.lit (.bool true)], args := [d1, d2] }
  | _ => none }
def loftsMirrorRow : OpenClaim := { program := "ytpjfdfddcnocpaa", sum := "919f9d8d4ce11e6ef306bea86484c3490aae339d282adef13ab99bb9967ce706", func := "squeaker/squeakerlaw02.LoftsMirror", spec := "loftsMirror", unfollowed := true, recurses := true, apart := false }
def LoftsMirrorSaid : Prop := loftsMirrorRow.holds Try.pinned (OpenSpec.ofChange loftsMirrorSpec)

/-- ITS FALSE NEIGHBOUR: 'it returns false'. Refute it at one input. -/
def loftsMirrorWrong : ChangeSpec := { name := "loftsMirror", fn := fun _ => fun
  | [d1, d2] => { results := [.lit (.bool false)], args := [d1, d2] }
  | _ => none }
def LoftsMirrorWrongFalsely : Prop := loftsMirrorRow.holds Try.pinned (OpenSpec.ofChange loftsMirrorWrong)

/-- 'squeakerlaw02.LoftsLiars': WHATEVER THE INPUT: true; the input reads as it did. -/
def loftsLiarsSpec : ChangeSpec := { name := "loftsLiars", fn := fun _ => fun
  | [d1, d2] => { results := [.lit (.bool true)], args := [d1, d2] }
  | _ => none }
def loftsLiarsRow : OpenClaim := { program := "ytpjfdfddcnocpaa", sum := "919f9d8d4ce11e6ef306bea86484c3490aae339d282adef13ab99bb9967ce706", func := "squeaker/squeakerlaw02.LoftsLiars", spec := "loftsLiars", unfollowed := true, recurses := true, apart := false }
def LoftsLiarsSaid : Prop := loftsLiarsRow.holds Try.pinned (OpenSpec.ofChange loftsLiarsSpec)

/-- ITS FALSE NEIGHBOUR: 'it returns false'. Refute it at one input. -/
def loftsLiarsWrong : ChangeSpec := { name := "loftsLiars", fn := fun _ => fun
  | [d1, d2] => { results := [.lit (.bool false)], args := [d1, d2] }
  | _ => none }
def LoftsLiarsWrongFalsely : Prop := loftsLiarsRow.holds Try.pinned (OpenSpec.ofChange loftsLiarsWrong)

/-- 'squeakerlaw02.LoftsScale': WHATEVER THE INPUT: true; the input reads as it did. -/
def loftsScaleSpec : ChangeSpec := { name := "loftsScale", fn := fun _ => fun
  | [d1, d2, d3] => { results := [.lit (.bool true)], args := [d1, d2, d3] }
  | _ => none }
def loftsScaleRow : OpenClaim := { program := "ytpjfdfddcnocpaa", sum := "919f9d8d4ce11e6ef306bea86484c3490aae339d282adef13ab99bb9967ce706", func := "squeaker/squeakerlaw02.LoftsScale", spec := "loftsScale", unfollowed := true, recurses := true, apart := false }
def LoftsScaleSaid : Prop := loftsScaleRow.holds Try.pinned (OpenSpec.ofChange loftsScaleSpec)

/-- ITS FALSE NEIGHBOUR: 'it returns false'. Refute it at one input. -/
def loftsScaleWrong : ChangeSpec := { name := "loftsScale", fn := fun _ => fun
  | [d1, d2, d3] => { results := [.lit (.bool false)], args := [d1, d2, d3] }
  | _ => none }
def LoftsScaleWrongFalsely : Prop := loftsScaleRow.holds Try.pinned (OpenSpec.ofChange loftsScaleWrong)

/-- 'squeakerlaw02.LoftsPlaces': WHATEVER THE INPUT: true; the input reads as it did. -/
def loftsPlacesSpec : ChangeSpec := { name := "loftsPlaces", fn := fun _ => fun
  | [d1, d2] => { results := [.lit (.bool true)], args := [d1, d2] }
  | _ => none }
def loftsPlacesRow : OpenClaim := { program := "ytpjfdfddcnocpaa", sum := "919f9d8d4ce11e6ef306bea86484c3490aae339d282adef13ab99bb9967ce706", func := "squeaker/squeakerlaw02.LoftsPlaces", spec := "loftsPlaces", unfollowed := true, recurses := true, apart := false }
def LoftsPlacesSaid : Prop := loftsPlacesRow.holds Try.pinned (OpenSpec.ofChange loftsPlacesSpec)

/-- ITS FALSE NEIGHBOUR: 'it returns false'. Refute it at one input. -/
def loftsPlacesWrong : ChangeSpec := { name := "loftsPlaces", fn := fun _ => fun
  | [d1, d2] => { results := [.lit (.bool false)], args := [d1, d2] }
  | _ => none }
def LoftsPlacesWrongFalsely : Prop := loftsPlacesRow.holds Try.pinned (OpenSpec.ofChange loftsPlacesWrong)

/-- 'squeakerlaw02.LoftsDistance': WHATEVER THE INPUT: true; the input reads as it did. -/
def loftsDistanceSpec : ChangeSpec := { name := "loftsDistance", fn := fun _ => fun
  | [d1, d2] => { results := [.lit (.bool true)], args := [d1, d2] }
  | _ => none }
def loftsDistanceRow : OpenClaim := { program := "ytpjfdfddcnocpaa", sum := "919f9d8d4ce11e6ef306bea86484c3490aae339d282adef13ab99bb9967ce706", func := "squeaker/squeakerlaw02.LoftsDistance", spec := "loftsDistance", unfollowed := true, recurses := true, apart := false }
def LoftsDistanceSaid : Prop := loftsDistanceRow.holds Try.pinned (OpenSpec.ofChange loftsDistanceSpec)

/-- ITS FALSE NEIGHBOUR: 'it returns false'. Refute it at one input. -/
def loftsDistanceWrong : ChangeSpec := { name := "loftsDistance", fn := fun _ => fun
  | [d1, d2] => { results := [.lit (.bool false)], args := [d1, d2] }
  | _ => none }
def LoftsDistanceWrongFalsely : Prop := loftsDistanceRow.holds Try.pinned (OpenSpec.ofChange loftsDistanceWrong)

/-- 'squeakerlaw02.LoftsShow': WHATEVER THE INPUT: true; the input reads as it did. -/
def loftsShowSpec : ChangeSpec := { name := "loftsShow", fn := fun _ => fun
  | [d] => { results := [.lit (.bool true)], args := [d] }
  | _ => none }
def loftsShowRow : OpenClaim := { program := "ytpjfdfddcnocpaa", sum := "919f9d8d4ce11e6ef306bea86484c3490aae339d282adef13ab99bb9967ce706", func := "squeaker/squeakerlaw02.LoftsShow", spec := "loftsShow", unfollowed := true, recurses := true, apart := false }
def LoftsShowSaid : Prop := loftsShowRow.holds Try.pinned (OpenSpec.ofChange loftsShowSpec)

/-- ITS FALSE NEIGHBOUR: 'it returns false'. Refute it at one input. -/
def loftsShowWrong : ChangeSpec := { name := "loftsShow", fn := fun _ => fun
  | [d] => { results := [.lit (.bool false)], args := [d] }
  | _ => none }
def LoftsShowWrongFalsely : Prop := loftsShowRow.holds Try.pinned (OpenSpec.ofChange loftsShowWrong)

/- THE SECOND FORM. 'bulk': how many values and letters a reading holds, each counted each time it is reached (what is shared counts as often as it is met; a slice's spare places count too). A statement '..UptoSaid' is the law's where the arguments, and the package variables that the reading takes, are together of bulk at most 1048576: NARROWER than '..Said'. Prove '..Said' where nothing that the law and all that it calls make is longer than what came in: it says more and counts as full. Else prove '..UptoSaid'. A law counts once. -/
mutual
def uptoBulk {H : Type} : DataW H → Nat
  | .lit (.string bytes) => bytes.length + 1
  | .lit _ => 1
  | .nil => 1
  | .ptr d => uptoBulk d + 1
  | .slice elems spare => uptoBulkAll elems + uptoBulkAll spare + 1
  | .agg parts => uptoBulkAll parts + 1
  | .iface _ d => uptoBulk d + 1
  | .map entries => uptoBulkEntries entries + 1
  | .held _ => 1
def uptoBulkAll {H : Type} : List (DataW H) → Nat
  | [] => 0
  | d :: r => uptoBulk d + uptoBulkAll r
def uptoBulkEntries {H : Type} : List (Lit × DataW H) → Nat
  | [] => 0
  | x :: r => uptoBulkEntry x + uptoBulkEntries r
def uptoBulkEntry {H : Type} : Lit × DataW H → Nat
  | (.string bytes, d) => bytes.length + uptoBulk d + 1
  | (_, d) => uptoBulk d + 1
 end
def uptoSmall : (H : Type) → List (DataW H) → Bool := fun _ ds => decide (uptoBulkAll ds ≤ 1048576)
def OpenSpec.upto (s : _root_.Go.ChangeSpec) : _root_.Go.OpenSpec := { _root_.Go.OpenSpec.ofChange s with cond := some uptoSmall }

/-- 'squeakerlaw02.LoftsRounded', WHERE WHAT IT READS IS OF BULK AT MOST 1048576: true; the input reads as it did. -/
def loftsRoundedUptoRow : OpenClaim := { program := "ytpjfdfddcnocpaa", sum := "919f9d8d4ce11e6ef306bea86484c3490aae339d282adef13ab99bb9967ce706", func := "squeaker/squeakerlaw02.LoftsRounded", spec := "loftsRounded", unfollowed := true, recurses := true, apart := false, narrowed := true }
def LoftsRoundedUptoSaid : Prop := loftsRoundedUptoRow.holds Try.pinned (OpenSpec.upto loftsRoundedSpec)

/-- 'squeakerlaw02.LoftsTruth', WHERE WHAT IT READS IS OF BULK AT MOST 1048576: true; the input reads as it did. -/
def loftsTruthUptoRow : OpenClaim := { program := "ytpjfdfddcnocpaa", sum := "919f9d8d4ce11e6ef306bea86484c3490aae339d282adef13ab99bb9967ce706", func := "squeaker/squeakerlaw02.LoftsTruth", spec := "loftsTruth", unfollowed := true, recurses := true, apart := false, narrowed := true }
def LoftsTruthUptoSaid : Prop := loftsTruthUptoRow.holds Try.pinned (OpenSpec.upto loftsTruthSpec)

/-- 'squeakerlaw02.LoftsEnds', WHERE WHAT IT READS IS OF BULK AT MOST 1048576: true; the input reads as it did. -/
def loftsEndsUptoRow : OpenClaim := { program := "ytpjfdfddcnocpaa", sum := "919f9d8d4ce11e6ef306bea86484c3490aae339d282adef13ab99bb9967ce706", func := "squeaker/squeakerlaw02.LoftsEnds", spec := "loftsEnds", unfollowed := true, recurses := true, apart := false, narrowed := true }
def LoftsEndsUptoSaid : Prop := loftsEndsUptoRow.holds Try.pinned (OpenSpec.upto loftsEndsSpec)

/-- 'squeakerlaw02.LoftsMore', WHERE WHAT IT READS IS OF BULK AT MOST 1048576: true; the input reads as it did. -/
def loftsMoreUptoRow : OpenClaim := { program := "ytpjfdfddcnocpaa", sum := "919f9d8d4ce11e6ef306bea86484c3490aae339d282adef13ab99bb9967ce706", func := "squeaker/squeakerlaw02.LoftsMore", spec := "loftsMore", unfollowed := true, recurses := true, apart := false, narrowed := true }
def LoftsMoreUptoSaid : Prop := loftsMoreUptoRow.holds Try.pinned (OpenSpec.upto loftsMoreSpec)

/-- 'squeakerlaw02.LoftsOrder', WHERE WHAT IT READS IS OF BULK AT MOST 1048576: true; the input reads as it did. -/
def loftsOrderUptoRow : OpenClaim := { program := "ytpjfdfddcnocpaa", sum := "919f9d8d4ce11e6ef306bea86484c3490aae339d282adef13ab99bb9967ce706", func := "squeaker/squeakerlaw02.LoftsOrder", spec := "loftsOrder", unfollowed := true, recurses := true, apart := false, narrowed := true }
def LoftsOrderUptoSaid : Prop := loftsOrderUptoRow.holds Try.pinned (OpenSpec.upto loftsOrderSpec)

/-- 'squeakerlaw02.LoftsMirror', WHERE WHAT IT READS IS OF BULK AT MOST 1048576: true; the input reads as it did. -/
def loftsMirrorUptoRow : OpenClaim := { program := "ytpjfdfddcnocpaa", sum := "919f9d8d4ce11e6ef306bea86484c3490aae339d282adef13ab99bb9967ce706", func := "squeaker/squeakerlaw02.LoftsMirror", spec := "loftsMirror", unfollowed := true, recurses := true, apart := false, narrowed := true }
def LoftsMirrorUptoSaid : Prop := loftsMirrorUptoRow.holds Try.pinned (OpenSpec.upto loftsMirrorSpec)

/-- 'squeakerlaw02.LoftsLiars', WHERE WHAT IT READS IS OF BULK AT MOST 1048576: true; the input reads as it did. -/
def loftsLiarsUptoRow : OpenClaim := { program := "ytpjfdfddcnocpaa", sum := "919f9d8d4ce11e6ef306bea86484c3490aae339d282adef13ab99bb9967ce706", func := "squeaker/squeakerlaw02.LoftsLiars", spec := "loftsLiars", unfollowed := true, recurses := true, apart := false, narrowed := true }
def LoftsLiarsUptoSaid : Prop := loftsLiarsUptoRow.holds Try.pinned (OpenSpec.upto loftsLiarsSpec)

/-- 'squeakerlaw02.LoftsScale', WHERE WHAT IT READS IS OF BULK AT MOST 1048576: true; the input reads as it did. -/
def loftsScaleUptoRow : OpenClaim := { program := "ytpjfdfddcnocpaa", sum := "919f9d8d4ce11e6ef306bea86484c3490aae339d282adef13ab99bb9967ce706", func := "squeaker/squeakerlaw02.LoftsScale", spec := "loftsScale", unfollowed := true, recurses := true, apart := false, narrowed := true }
def LoftsScaleUptoSaid : Prop := loftsScaleUptoRow.holds Try.pinned (OpenSpec.upto loftsScaleSpec)

/-- 'squeakerlaw02.LoftsPlaces', WHERE WHAT IT READS IS OF BULK AT MOST 1048576: true; the input reads as it did. -/
def loftsPlacesUptoRow : OpenClaim := { program := "ytpjfdfddcnocpaa", sum := "919f9d8d4ce11e6ef306bea86484c3490aae339d282adef13ab99bb9967ce706", func := "squeaker/squeakerlaw02.LoftsPlaces", spec := "loftsPlaces", unfollowed := true, recurses := true, apart := false, narrowed := true }
def LoftsPlacesUptoSaid : Prop := loftsPlacesUptoRow.holds Try.pinned (OpenSpec.upto loftsPlacesSpec)

/-- 'squeakerlaw02.LoftsDistance', WHERE WHAT IT READS IS OF BULK AT MOST 1048576: true; the input reads as it did. -/
def loftsDistanceUptoRow : OpenClaim := { program := "ytpjfdfddcnocpaa", sum := "919f9d8d4ce11e6ef306bea86484c3490aae339d282adef13ab99bb9967ce706", func := "squeaker/squeakerlaw02.LoftsDistance", spec := "loftsDistance", unfollowed := true, recurses := true, apart := false, narrowed := true }
def LoftsDistanceUptoSaid : Prop := loftsDistanceUptoRow.holds Try.pinned (OpenSpec.upto loftsDistanceSpec)

/-- 'squeakerlaw02.LoftsShow', WHERE WHAT IT READS IS OF BULK AT MOST 1048576: true; the input reads as it did. -/
def loftsShowUptoRow : OpenClaim := { program := "ytpjfdfddcnocpaa", sum := "919f9d8d4ce11e6ef306bea86484c3490aae339d282adef13ab99bb9967ce706", func := "squeaker/squeakerlaw02.LoftsShow", spec := "loftsShow", unfollowed := true, recurses := true, apart := false, narrowed := true }
def LoftsShowUptoSaid : Prop := loftsShowUptoRow.holds Try.pinned (OpenSpec.upto loftsShowSpec)

end Rows
end Go.Proofs.Ytpjfdfddcnocpaa
