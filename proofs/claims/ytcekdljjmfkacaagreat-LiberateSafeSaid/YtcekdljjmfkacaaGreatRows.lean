/-
  No cell of these rows narrows 'for every input' (looked for: loops, veiled, ifaces, maps, wideKeys, modest, calm, conditions, laid).
  DERIVED. THE GIVEN ROWS OF THIS SEAT. 3 by the template 'for every input the law returns true; each argument reads behind the call as it read before'; 0 by the template 'total and deterministic' (their statements: YtcekdljjmfkacaaGreatTotals.lean).
  GIVEN WITH THE SEED: the statements are not yours to turn. If you find one false, say at which input.
  Laid BY PROGRAM, IN A SANDBOX (cutbox-rows.mjs): the forced cells as the released guide's own fill.sh prints them over the translation 1f1f1f1104033666… (all of the seat's roots in one cut). By AI agents, Wed Nov 11 2026. No macro, syntax, notation, axiom, sorry.
-/
import Derived.Test.YtcekdljjmfkacaaGreatChecked
import GoSem.Claim
import GoSem.ClaimJoined
import GoSem.ClaimMapViews
import Derived.JoinedTies
import Derived.KernelRfl
namespace Go.Proofs.YtcekdljjmfkacaaGreat
/- THE CELL 'sum', in the pinned program and in every row, IS THE sha256 OF THE DUMP (.gsa) THAT YtcekdljjmfkacaaGreatProg.lean LOADS. Nothing in Lean hashes anything: it is a label: what it is worth is what the hold of that sum in a sandbox is worth. -/
noncomputable def Tryz.pinned : Pinned := { name := "ytcekdljjmfkacaagreat", sum := "1f1f1f1104033666a4edae4579f1c2c155fbc4af5e7a418400776b3ad134db3b", checked := Tryz.checked }
namespace Rows
def none {H : Type} : Left H := { results := [], args := [] }

/-- 'squeakerlaw06.LiberateWays': WHATEVER THE INPUT: true; the input reads as it did. -/
def liberateWaysSpec : ChangeSpec := { name := "liberateWays", fn := fun _ => fun
  | [d1, d2] => { results := [.lit (.bool true)], args := [d1, d2] }
  | _ => none }
def liberateWaysRow : OpenClaim := { program := "ytcekdljjmfkacaagreat", sum := "1f1f1f1104033666a4edae4579f1c2c155fbc4af5e7a418400776b3ad134db3b", func := "squeaker/squeakerlaw06.LiberateWays", spec := "liberateWays", unfollowed := true, recurses := true, plainKeys := false, apart := false }
def LiberateWaysSaid : Prop := liberateWaysRow.holds Tryz.pinned (OpenSpec.ofChange liberateWaysSpec)

/-- ITS FALSE NEIGHBOUR: 'it returns false'. Refute it at one input. -/
def liberateWaysWrong : ChangeSpec := { name := "liberateWays", fn := fun _ => fun
  | [d1, d2] => { results := [.lit (.bool false)], args := [d1, d2] }
  | _ => none }
def LiberateWaysWrongFalsely : Prop := liberateWaysRow.holds Tryz.pinned (OpenSpec.ofChange liberateWaysWrong)

/-- 'squeakerlaw06.LiberateSafe': WHATEVER THE INPUT: true; the input reads as it did. -/
def liberateSafeSpec : ChangeSpec := { name := "liberateSafe", fn := fun _ => fun
  | [d1, d2] => { results := [.lit (.bool true)], args := [d1, d2] }
  | _ => none }
def liberateSafeRow : OpenClaim := { program := "ytcekdljjmfkacaagreat", sum := "1f1f1f1104033666a4edae4579f1c2c155fbc4af5e7a418400776b3ad134db3b", func := "squeaker/squeakerlaw06.LiberateSafe", spec := "liberateSafe", unfollowed := true, recurses := true, plainKeys := false, apart := false }
def LiberateSafeSaid : Prop := liberateSafeRow.holds Tryz.pinned (OpenSpec.ofChange liberateSafeSpec)

/-- ITS FALSE NEIGHBOUR: 'it returns false'. Refute it at one input. -/
def liberateSafeWrong : ChangeSpec := { name := "liberateSafe", fn := fun _ => fun
  | [d1, d2] => { results := [.lit (.bool false)], args := [d1, d2] }
  | _ => none }
def LiberateSafeWrongFalsely : Prop := liberateSafeRow.holds Tryz.pinned (OpenSpec.ofChange liberateSafeWrong)

/-- 'squeakerlaw06.LiberateFirst': WHATEVER THE INPUT: true; the input reads as it did. -/
def liberateFirstSpec : ChangeSpec := { name := "liberateFirst", fn := fun _ => fun
  | [d1, d2] => { results := [.lit (.bool true)], args := [d1, d2] }
  | _ => none }
def liberateFirstRow : OpenClaim := { program := "ytcekdljjmfkacaagreat", sum := "1f1f1f1104033666a4edae4579f1c2c155fbc4af5e7a418400776b3ad134db3b", func := "squeaker/squeakerlaw06.LiberateFirst", spec := "liberateFirst", unfollowed := true, recurses := true, plainKeys := false, apart := false }
def LiberateFirstSaid : Prop := liberateFirstRow.holds Tryz.pinned (OpenSpec.ofChange liberateFirstSpec)

/-- ITS FALSE NEIGHBOUR: 'it returns false'. Refute it at one input. -/
def liberateFirstWrong : ChangeSpec := { name := "liberateFirst", fn := fun _ => fun
  | [d1, d2] => { results := [.lit (.bool false)], args := [d1, d2] }
  | _ => none }
def LiberateFirstWrongFalsely : Prop := liberateFirstRow.holds Tryz.pinned (OpenSpec.ofChange liberateFirstWrong)

/- THE SECOND FORM. 'bulk': how many values and letters a reading holds, each counted each time it is reached (what is shared counts as often as it is met; a slice's spare places count too). A statement '..UptoSaid' is the law's where the arguments, and the package variables that the reading takes, are together of bulk at most 1048576: NARROWER than '..Said'. Prove '..Said' where nothing that the law and all that it calls make is longer than what came in: it says more and counts as full. Else prove '..UptoSaid'. A law counts once. -/
mutual
def uptoBulk {H : Type} : DataW H → Nat
  | .lit (.string bytes) => bytes.length + 1
  | .lit _ => 1
  | .nil => 1
  | .ptr d => uptoBulk d + 1
  | .slice elems spare => uptoBulkAll elems + uptoBulkAll spare + 1
  | .agg parts => uptoBulkAll parts + 1
  | .iface _ d => uptoBulk d + 1
  | .map entries => uptoBulkEntries entries + 1
  | .held _ => 1
def uptoBulkAll {H : Type} : List (DataW H) → Nat
  | [] => 0
  | d :: r => uptoBulk d + uptoBulkAll r
def uptoBulkEntries {H : Type} : List (Lit × DataW H) → Nat
  | [] => 0
  | x :: r => uptoBulkEntry x + uptoBulkEntries r
def uptoBulkEntry {H : Type} : Lit × DataW H → Nat
  | (.string bytes, d) => bytes.length + uptoBulk d + 1
  | (_, d) => uptoBulk d + 1
 end
def uptoSmall : (H : Type) → List (DataW H) → Bool := fun _ ds => decide (uptoBulkAll ds ≤ 1048576)
def OpenSpec.upto (s : _root_.Go.ChangeSpec) : _root_.Go.OpenSpec := { _root_.Go.OpenSpec.ofChange s with cond := some uptoSmall }

/-- 'squeakerlaw06.LiberateWays', WHERE WHAT IT READS IS OF BULK AT MOST 1048576: true; the input reads as it did. -/
def liberateWaysUptoRow : OpenClaim := { program := "ytcekdljjmfkacaagreat", sum := "1f1f1f1104033666a4edae4579f1c2c155fbc4af5e7a418400776b3ad134db3b", func := "squeaker/squeakerlaw06.LiberateWays", spec := "liberateWays", unfollowed := true, recurses := true, plainKeys := false, apart := false, narrowed := true }
def LiberateWaysUptoSaid : Prop := liberateWaysUptoRow.holds Tryz.pinned (OpenSpec.upto liberateWaysSpec)

/-- 'squeakerlaw06.LiberateSafe', WHERE WHAT IT READS IS OF BULK AT MOST 1048576: true; the input reads as it did. -/
def liberateSafeUptoRow : OpenClaim := { program := "ytcekdljjmfkacaagreat", sum := "1f1f1f1104033666a4edae4579f1c2c155fbc4af5e7a418400776b3ad134db3b", func := "squeaker/squeakerlaw06.LiberateSafe", spec := "liberateSafe", unfollowed := true, recurses := true, plainKeys := false, apart := false, narrowed := true }
def LiberateSafeUptoSaid : Prop := liberateSafeUptoRow.holds Tryz.pinned (OpenSpec.upto liberateSafeSpec)

/-- 'squeakerlaw06.LiberateFirst', WHERE WHAT IT READS IS OF BULK AT MOST 1048576: true; the input reads as it did. -/
def liberateFirstUptoRow : OpenClaim := { program := "ytcekdljjmfkacaagreat", sum := "1f1f1f1104033666a4edae4579f1c2c155fbc4af5e7a418400776b3ad134db3b", func := "squeaker/squeakerlaw06.LiberateFirst", spec := "liberateFirst", unfollowed := true, recurses := true, plainKeys := false, apart := false, narrowed := true }
def LiberateFirstUptoSaid : Prop := liberateFirstUptoRow.holds Tryz.pinned (OpenSpec.upto liberateFirstSpec)

end Rows
end Go.Proofs.YtcekdljjmfkacaaGreat
