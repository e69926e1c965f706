/-
  No cell of these rows narrows 'for every input' (looked for: loops, veiled, ifaces, maps, wideKeys, modest, calm, conditions, laid).
  DERIVED. THE GIVEN ROWS OF THIS SEAT. 9 by the template 'for every input the law returns true; each argument reads behind the call as it read before'; 0 by the template 'total and deterministic' (their statements: YtcekdljjmfkacaaTotals.lean).
  GIVEN WITH THE SEED: the statements are not yours to turn. If you find one false, say at which input.
  Laid BY PROGRAM, IN A SANDBOX (cutbox-rows.mjs): the forced cells as the released guide's own fill.sh prints them over the translation b5cd66ca6977da90… (all of the seat's roots in one cut). By AI agents, Wed Nov 11 2026. No macro, syntax, notation, axiom, sorry.
-/
import Derived.Test.YtcekdljjmfkacaaChecked
import GoSem.Claim
import GoSem.ClaimJoined
import GoSem.ClaimMapViews
import Derived.JoinedTies
import Derived.KernelRfl
namespace Go.Proofs.Ytcekdljjmfkacaa
/- THE CELL 'sum', in the pinned program and in every row, IS THE sha256 OF THE DUMP (.gsa) THAT YtcekdljjmfkacaaProg.lean LOADS. Nothing in Lean hashes anything: it is a label: what it is worth is what the hold of that sum in a sandbox is worth. -/
noncomputable def Try.pinned : Pinned := { name := "ytcekdljjmfkacaa", sum := "b5cd66ca6977da907c35c26bbdb9e24c5e5504a28611a70233fe9e7778ab9c13", checked := Try.checked }
namespace Rows
def none {H : Type} : Left H := { results := [], args := [] }

/-- 'squeakerlaw06.LiberateWay': WHATEVER THE INPUT: true; the input reads as it did. -/
def liberateWaySpec : ChangeSpec := { name := "liberateWay", fn := fun _ => fun
  | [d1, d2] => { results := [.lit (.bool true)], args := [d1, d2] }
  | _ => none }
def liberateWayRow : OpenClaim := { program := "ytcekdljjmfkacaa", sum := "b5cd66ca6977da907c35c26bbdb9e24c5e5504a28611a70233fe9e7778ab9c13", func := "squeaker/squeakerlaw06.LiberateWay", spec := "liberateWay", unfollowed := true, recurses := true, plainKeys := false, apart := false }
def LiberateWaySaid : Prop := liberateWayRow.holds Try.pinned (OpenSpec.ofChange liberateWaySpec)

/-- ITS FALSE NEIGHBOUR: 'it returns false'. Refute it at one input. -/
def liberateWayWrong : ChangeSpec := { name := "liberateWay", fn := fun _ => fun
  | [d1, d2] => { results := [.lit (.bool false)], args := [d1, d2] }
  | _ => none }
def LiberateWayWrongFalsely : Prop := liberateWayRow.holds Try.pinned (OpenSpec.ofChange liberateWayWrong)

/-- 'squeakerlaw06.LiberateFlight': WHATEVER THE INPUT: true; the input reads as it did. -/
def liberateFlightSpec : ChangeSpec := { name := "liberateFlight", fn := fun _ => fun
  | [d1, d2] => { results := [.lit (.bool true)], args := [d1, d2] }
  | _ => none }
def liberateFlightRow : OpenClaim := { program := "ytcekdljjmfkacaa", sum := "b5cd66ca6977da907c35c26bbdb9e24c5e5504a28611a70233fe9e7778ab9c13", func := "squeaker/squeakerlaw06.LiberateFlight", spec := "liberateFlight", unfollowed := true, recurses := true, plainKeys := false, apart := false }
def LiberateFlightSaid : Prop := liberateFlightRow.holds Try.pinned (OpenSpec.ofChange liberateFlightSpec)

/-- ITS FALSE NEIGHBOUR: 'it returns false'. Refute it at one input. -/
def liberateFlightWrong : ChangeSpec := { name := "liberateFlight", fn := fun _ => fun
  | [d1, d2] => { results := [.lit (.bool false)], args := [d1, d2] }
  | _ => none }
def LiberateFlightWrongFalsely : Prop := liberateFlightRow.holds Try.pinned (OpenSpec.ofChange liberateFlightWrong)

/-- 'squeakerlaw06.LiberateInside': WHATEVER THE INPUT: true; the input reads as it did. -/
def liberateInsideSpec : ChangeSpec := { name := "liberateInside", fn := fun _ => fun
  | [d1, d2] => { results := [.lit (.bool true)], args := [d1, d2] }
  | _ => none }
def liberateInsideRow : OpenClaim := { program := "ytcekdljjmfkacaa", sum := "b5cd66ca6977da907c35c26bbdb9e24c5e5504a28611a70233fe9e7778ab9c13", func := "squeaker/squeakerlaw06.LiberateInside", spec := "liberateInside", unfollowed := true, recurses := true, plainKeys := false, apart := false }
def LiberateInsideSaid : Prop := liberateInsideRow.holds Try.pinned (OpenSpec.ofChange liberateInsideSpec)

/-- ITS FALSE NEIGHBOUR: 'it returns false'. Refute it at one input. -/
def liberateInsideWrong : ChangeSpec := { name := "liberateInside", fn := fun _ => fun
  | [d1, d2] => { results := [.lit (.bool false)], args := [d1, d2] }
  | _ => none }
def LiberateInsideWrongFalsely : Prop := liberateInsideRow.holds Try.pinned (OpenSpec.ofChange liberateInsideWrong)

/-- 'squeakerlaw06.LiberateMore': WHATEVER THE INPUT: true; the input reads as it did. -/
def liberateMoreSpec : ChangeSpec := { name := "liberateMore", fn := fun _ => fun
  | [d1, d2, d3] => { results := [.lit (.bool true)], args := [d1, d2, d3] }
  | _ => none }
def liberateMoreRow : OpenClaim := { program := "ytcekdljjmfkacaa", sum := "b5cd66ca6977da907c35c26bbdb9e24c5e5504a28611a70233fe9e7778ab9c13", func := "squeaker/squeakerlaw06.LiberateMore", spec := "liberateMore", unfollowed := true, recurses := true, plainKeys := false, apart := false }
def LiberateMoreSaid : Prop := liberateMoreRow.holds Try.pinned (OpenSpec.ofChange liberateMoreSpec)

/-- ITS FALSE NEIGHBOUR: 'it returns false'. Refute it at one input. -/
def liberateMoreWrong : ChangeSpec := { name := "liberateMore", fn := fun _ => fun
  | [d1, d2, d3] => { results := [.lit (.bool false)], args := [d1, d2, d3] }
  | _ => none }
def LiberateMoreWrongFalsely : Prop := liberateMoreRow.holds Try.pinned (OpenSpec.ofChange liberateMoreWrong)

/-- 'squeakerlaw06.LiberateStricter': WHATEVER THE INPUT: true; the input reads as it did. -/
def liberateStricterSpec : ChangeSpec := { name := "liberateStricter", fn := fun _ => fun
  | [d1, d2, d3] => { results := [.lit (.bool true)], args := [d1, d2, d3] }
  | _ => none }
def liberateStricterRow : OpenClaim := { program := "ytcekdljjmfkacaa", sum := "b5cd66ca6977da907c35c26bbdb9e24c5e5504a28611a70233fe9e7778ab9c13", func := "squeaker/squeakerlaw06.LiberateStricter", spec := "liberateStricter", unfollowed := true, recurses := true, plainKeys := false, apart := false }
def LiberateStricterSaid : Prop := liberateStricterRow.holds Try.pinned (OpenSpec.ofChange liberateStricterSpec)

/-- ITS FALSE NEIGHBOUR: 'it returns false'. Refute it at one input. -/
def liberateStricterWrong : ChangeSpec := { name := "liberateStricter", fn := fun _ => fun
  | [d1, d2, d3] => { results := [.lit (.bool false)], args := [d1, d2, d3] }
  | _ => none }
def LiberateStricterWrongFalsely : Prop := liberateStricterRow.holds Try.pinned (OpenSpec.ofChange liberateStricterWrong)

/-- 'squeakerlaw06.LiberateOrder': WHATEVER THE INPUT: true; the input reads as it did. -/
def liberateOrderSpec : ChangeSpec := { name := "liberateOrder", fn := fun _ => fun
  | [d1, d2, d3] => { results := [.lit (.bool true)], args := [d1, d2, d3] }
  | _ => none }
def liberateOrderRow : OpenClaim := { program := "ytcekdljjmfkacaa", sum := "b5cd66ca6977da907c35c26bbdb9e24c5e5504a28611a70233fe9e7778ab9c13", func := "squeaker/squeakerlaw06.LiberateOrder", spec := "liberateOrder", unfollowed := true, recurses := true, plainKeys := false, apart := false }
def LiberateOrderSaid : Prop := liberateOrderRow.holds Try.pinned (OpenSpec.ofChange liberateOrderSpec)

/-- ITS FALSE NEIGHBOUR: 'it returns false'. Refute it at one input. -/
def liberateOrderWrong : ChangeSpec := { name := "liberateOrder", fn := fun _ => fun
  | [d1, d2, d3] => { results := [.lit (.bool false)], args := [d1, d2, d3] }
  | _ => none }
def LiberateOrderWrongFalsely : Prop := liberateOrderRow.holds Try.pinned (OpenSpec.ofChange liberateOrderWrong)

/-- 'squeakerlaw06.LiberateEarliest': WHATEVER THE INPUT: true; the input reads as it did. -/
def liberateEarliestSpec : ChangeSpec := { name := "liberateEarliest", fn := fun _ => fun
  | [d1, d2] => { results := [.lit (.bool true)], args := [d1, d2] }
  | _ => none }
def liberateEarliestRow : OpenClaim := { program := "ytcekdljjmfkacaa", sum := "b5cd66ca6977da907c35c26bbdb9e24c5e5504a28611a70233fe9e7778ab9c13", func := "squeaker/squeakerlaw06.LiberateEarliest", spec := "liberateEarliest", unfollowed := true, recurses := true, plainKeys := false, apart := false }
def LiberateEarliestSaid : Prop := liberateEarliestRow.holds Try.pinned (OpenSpec.ofChange liberateEarliestSpec)

/-- ITS FALSE NEIGHBOUR: 'it returns false'. Refute it at one input. -/
def liberateEarliestWrong : ChangeSpec := { name := "liberateEarliest", fn := fun _ => fun
  | [d1, d2] => { results := [.lit (.bool false)], args := [d1, d2] }
  | _ => none }
def LiberateEarliestWrongFalsely : Prop := liberateEarliestRow.holds Try.pinned (OpenSpec.ofChange liberateEarliestWrong)

/-- 'squeakerlaw06.LiberateWatch': WHATEVER THE INPUT: true; the input reads as it did. -/
def liberateWatchSpec : ChangeSpec := { name := "liberateWatch", fn := fun _ => fun
  | [d1, d2, d3] => { results := [.lit (.bool true)], args := [d1, d2, d3] }
  | _ => none }
def liberateWatchRow : OpenClaim := { program := "ytcekdljjmfkacaa", sum := "b5cd66ca6977da907c35c26bbdb9e24c5e5504a28611a70233fe9e7778ab9c13", func := "squeaker/squeakerlaw06.LiberateWatch", spec := "liberateWatch", unfollowed := true, recurses := true, plainKeys := false, apart := false }
def LiberateWatchSaid : Prop := liberateWatchRow.holds Try.pinned (OpenSpec.ofChange liberateWatchSpec)

/-- ITS FALSE NEIGHBOUR: 'it returns false'. Refute it at one input. -/
def liberateWatchWrong : ChangeSpec := { name := "liberateWatch", fn := fun _ => fun
  | [d1, d2, d3] => { results := [.lit (.bool false)], args := [d1, d2, d3] }
  | _ => none }
def LiberateWatchWrongFalsely : Prop := liberateWatchRow.holds Try.pinned (OpenSpec.ofChange liberateWatchWrong)

/-- 'squeakerlaw06.LiberateMinute': WHATEVER THE INPUT: true; the input reads as it did. -/
def liberateMinuteSpec : ChangeSpec := { name := "liberateMinute", fn := fun _ => fun
  | [d1, d2] => { results := [.lit (.bool true)], args := [d1, d2] }
  | _ => none }
def liberateMinuteRow : OpenClaim := { program := "ytcekdljjmfkacaa", sum := "b5cd66ca6977da907c35c26bbdb9e24c5e5504a28611a70233fe9e7778ab9c13", func := "squeaker/squeakerlaw06.LiberateMinute", spec := "liberateMinute", unfollowed := true, recurses := true, plainKeys := false, apart := false }
def LiberateMinuteSaid : Prop := liberateMinuteRow.holds Try.pinned (OpenSpec.ofChange liberateMinuteSpec)

/-- ITS FALSE NEIGHBOUR: 'it returns false'. Refute it at one input. -/
def liberateMinuteWrong : ChangeSpec := { name := "liberateMinute", fn := fun _ => fun
  | [d1, d2] => { results := [.lit (.bool false)], args := [d1, d2] }
  | _ => none }
def LiberateMinuteWrongFalsely : Prop := liberateMinuteRow.holds Try.pinned (OpenSpec.ofChange liberateMinuteWrong)

/- THE SECOND FORM. 'bulk': how many values and letters a reading holds, each counted each time it is reached (what is shared counts as often as it is met; a slice's spare places count too). A statement '..UptoSaid' is the law's where the arguments, and the package variables that the reading takes, are together of bulk at most 1048576: NARROWER than '..Said'. Prove '..Said' where nothing that the law and all that it calls make is longer than what came in: it says more and counts as full. Else prove '..UptoSaid'. A law counts once. -/
mutual
def uptoBulk {H : Type} : DataW H → Nat
  | .lit (.string bytes) => bytes.length + 1
  | .lit _ => 1
  | .nil => 1
  | .ptr d => uptoBulk d + 1
  | .slice elems spare => uptoBulkAll elems + uptoBulkAll spare + 1
  | .agg parts => uptoBulkAll parts + 1
  | .iface _ d => uptoBulk d + 1
  | .map entries => uptoBulkEntries entries + 1
  | .held _ => 1
def uptoBulkAll {H : Type} : List (DataW H) → Nat
  | [] => 0
  | d :: r => uptoBulk d + uptoBulkAll r
def uptoBulkEntries {H : Type} : List (Lit × DataW H) → Nat
  | [] => 0
  | x :: r => uptoBulkEntry x + uptoBulkEntries r
def uptoBulkEntry {H : Type} : Lit × DataW H → Nat
  | (.string bytes, d) => bytes.length + uptoBulk d + 1
  | (_, d) => uptoBulk d + 1
 end
def uptoSmall : (H : Type) → List (DataW H) → Bool := fun _ ds => decide (uptoBulkAll ds ≤ 1048576)
def OpenSpec.upto (s : _root_.Go.ChangeSpec) : _root_.Go.OpenSpec := { _root_.Go.OpenSpec.ofChange s with cond := some uptoSmall }

/-- 'squeakerlaw06.LiberateWay', WHERE WHAT IT READS IS OF BULK AT MOST 1048576: true; the input reads as it did. -/
def liberateWayUptoRow : OpenClaim := { program := "ytcekdljjmfkacaa", sum := "b5cd66ca6977da907c35c26bbdb9e24c5e5504a28611a70233fe9e7778ab9c13", func := "squeaker/squeakerlaw06.LiberateWay", spec := "liberateWay", unfollowed := true, recurses := true, plainKeys := false, apart := false, narrowed := true }
def LiberateWayUptoSaid : Prop := liberateWayUptoRow.holds Try.pinned (OpenSpec.upto liberateWaySpec)

/-- 'squeakerlaw06.LiberateFlight', WHERE WHAT IT READS IS OF BULK AT MOST 1048576: true; the input reads as it did. -/
def liberateFlightUptoRow : OpenClaim := { program := "ytcekdljjmfkacaa", sum := "b5cd66ca6977da907c35c26bbdb9e24c5e5504a28611a70233fe9e7778ab9c13", func := "squeaker/squeakerlaw06.LiberateFlight", spec := "liberateFlight", unfollowed := true, recurses := true, plainKeys := false, apart := false, narrowed := true }
def LiberateFlightUptoSaid : Prop := liberateFlightUptoRow.holds Try.pinned (OpenSpec.upto liberateFlightSpec)

/-- 'squeakerlaw06.LiberateInside', WHERE WHAT IT READS IS OF BULK AT MOST 1048576: true; the input reads as it did. -/
def liberateInsideUptoRow : OpenClaim := { program := "ytcekdljjmfkacaa", sum := "b5cd66ca6977da907c35c26bbdb9e24c5e5504a28611a70233fe9e7778ab9c13", func := "squeaker/squeakerlaw06.LiberateInside", spec := "liberateInside", unfollowed := true, recurses := true, plainKeys := false, apart := false, narrowed := true }
def LiberateInsideUptoSaid : Prop := liberateInsideUptoRow.holds Try.pinned (OpenSpec.upto liberateInsideSpec)

/-- 'squeakerlaw06.LiberateMore', WHERE WHAT IT READS IS OF BULK AT MOST 1048576: true; the input reads as it did. -/
def liberateMoreUptoRow : OpenClaim := { program := "ytcekdljjmfkacaa", sum := "b5cd66ca6977da907c35c26bbdb9e24c5e5504a28611a70233fe9e7778ab9c13", func := "squeaker/squeakerlaw06.LiberateMore", spec := "liberateMore", unfollowed := true, recurses := true, plainKeys := false, apart := false, narrowed := true }
def LiberateMoreUptoSaid : Prop := liberateMoreUptoRow.holds Try.pinned (OpenSpec.upto liberateMoreSpec)

/-- 'squeakerlaw06.LiberateStricter', WHERE WHAT IT READS IS OF BULK AT MOST 1048576: true; the input reads as it did. -/
def liberateStricterUptoRow : OpenClaim := { program := "ytcekdljjmfkacaa", sum := "b5cd66ca6977da907c35c26bbdb9e24c5e5504a28611a70233fe9e7778ab9c13", func := "squeaker/squeakerlaw06.LiberateStricter", spec := "liberateStricter", unfollowed := true, recurses := true, plainKeys := false, apart := false, narrowed := true }
def LiberateStricterUptoSaid : Prop := liberateStricterUptoRow.holds Try.pinned (OpenSpec.upto liberateStricterSpec)

/-- 'squeakerlaw06.LiberateOrder', WHERE WHAT IT READS IS OF BULK AT MOST 1048576: true; the input reads as it did. -/
def liberateOrderUptoRow : OpenClaim := { program := "ytcekdljjmfkacaa", sum := "b5cd66ca6977da907c35c26bbdb9e24c5e5504a28611a70233fe9e7778ab9c13", func := "squeaker/squeakerlaw06.LiberateOrder", spec := "liberateOrder", unfollowed := true, recurses := true, plainKeys := false, apart := false, narrowed := true }
def LiberateOrderUptoSaid : Prop := liberateOrderUptoRow.holds Try.pinned (OpenSpec.upto liberateOrderSpec)

/-- 'squeakerlaw06.LiberateEarliest', WHERE WHAT IT READS IS OF BULK AT MOST 1048576: true; the input reads as it did. -/
def liberateEarliestUptoRow : OpenClaim := { program := "ytcekdljjmfkacaa", sum := "b5cd66ca6977da907c35c26bbdb9e24c5e5504a28611a70233fe9e7778ab9c13", func := "squeaker/squeakerlaw06.LiberateEarliest", spec := "liberateEarliest", unfollowed := true, recurses := true, plainKeys := false, apart := false, narrowed := true }
def LiberateEarliestUptoSaid : Prop := liberateEarliestUptoRow.holds Try.pinned (OpenSpec.upto liberateEarliestSpec)

/-- 'squeakerlaw06.LiberateWatch', WHERE WHAT IT READS IS OF BULK AT MOST 1048576: true; the input reads as it did. -/
def liberateWatchUptoRow : OpenClaim := { program := "ytcekdljjmfkacaa", sum := "b5cd66ca6977da907c35c26bbdb9e24c5e5504a28611a70233fe9e7778ab9c13", func := "squeaker/squeakerlaw06.LiberateWatch", spec := "liberateWatch", unfollowed := true, recurses := true, plainKeys := false, apart := false, narrowed := true }
def LiberateWatchUptoSaid : Prop := liberateWatchUptoRow.holds Try.pinned (OpenSpec.upto liberateWatchSpec)

/-- 'squeakerlaw06.LiberateMinute', WHERE WHAT IT READS IS OF BULK AT MOST 1048576: true; the input reads as it did. -/
def liberateMinuteUptoRow : OpenClaim := { program := "ytcekdljjmfkacaa", sum := "b5cd66ca6977da907c35c26bbdb9e24c5e5504a28611a70233fe9e7778ab9c13", func := "squeaker/squeakerlaw06.LiberateMinute", spec := "liberateMinute", unfollowed := true, recurses := true, plainKeys := false, apart := false, narrowed := true }
def LiberateMinuteUptoSaid : Prop := liberateMinuteUptoRow.holds Try.pinned (OpenSpec.upto liberateMinuteSpec)

end Rows
end Go.Proofs.Ytcekdljjmfkacaa
