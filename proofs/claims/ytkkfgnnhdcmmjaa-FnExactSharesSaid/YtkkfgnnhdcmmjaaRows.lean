/-
  No cell of these rows narrows 'for every input' (looked for: loops, veiled, ifaces, maps, wideKeys, modest, calm, conditions, laid).
  DERIVED. THE GIVEN ROWS OF THIS SEAT. 12 by the template 'for every input the law returns true; each argument reads behind the call as it read before'; 0 by the template 'total and deterministic' (their statements: YtkkfgnnhdcmmjaaTotals.lean).
  GIVEN WITH THE SEED: the statements are not yours to turn. If you find one false, say at which input.
  Laid BY PROGRAM, IN A SANDBOX (cutbox-rows.mjs): the forced cells as the released guide's own fill.sh prints them over the translation 631e239d51751127… (all of the seat's roots in one cut). By AI agents, Wed Nov 11 2026. No macro, syntax, notation, axiom, sorry.
-/
import Derived.Test.YtkkfgnnhdcmmjaaChecked
import GoSem.Claim
import GoSem.ClaimJoined
import GoSem.ClaimMapViews
import Derived.JoinedTies
import Derived.KernelRfl
namespace Go.Proofs.Ytkkfgnnhdcmmjaa
/- THE CELL 'sum', in the pinned program and in every row, IS THE sha256 OF THE DUMP (.gsa) THAT YtkkfgnnhdcmmjaaProg.lean LOADS. Nothing in Lean hashes anything: it is a label: what it is worth is what the hold of that sum in a sandbox is worth. -/
noncomputable def Try.pinned : Pinned := { name := "ytkkfgnnhdcmmjaa", sum := "631e239d51751127fe5f31de010134ca7241e8e39f4c65e16e186aaeaa3ed57e", checked := Try.checked }
namespace Rows
def none {H : Type} : Left H := { results := [], args := [] }

/-- 'laws.FnExactDistances': WHATEVER THE INPUT: true; the input reads as it did. -/
def fnExactDistancesSpec : ChangeSpec := { name := "fnExactDistances", fn := fun _ => fun
  | [d1, d2] => { results := [.lit (.bool true)], args := [d1, d2] }
  | _ => none }
def fnExactDistancesRow : OpenClaim := { program := "ytkkfgnnhdcmmjaa", sum := "631e239d51751127fe5f31de010134ca7241e8e39f4c65e16e186aaeaa3ed57e", func := "loop.example/g00681/laws.FnExactDistances", spec := "fnExactDistances", unfollowed := true, recurses := true, apart := false }
def FnExactDistancesSaid : Prop := fnExactDistancesRow.holds Try.pinned (OpenSpec.ofChange fnExactDistancesSpec)

/-- ITS FALSE NEIGHBOUR: 'it returns false'. Refute it at one input. -/
def fnExactDistancesWrong : ChangeSpec := { name := "fnExactDistances", fn := fun _ => fun
  | [d1, d2] => { results := [.lit (.bool false)], args := [d1, d2] }
  | _ => none }
def FnExactDistancesWrongFalsely : Prop := fnExactDistancesRow.holds Try.pinned (OpenSpec.ofChange fnExactDistancesWrong)

/-- 'laws.FnExactAllDistances': WHATEVER THE INPUT: true; the input reads as it did. -/
def fnExactAllDistancesSpec : ChangeSpec := { name := "fnExactAllDistances", fn := fun _ => fun
  | [d] => { results := [.lit (.bool true)], args := [d] }
  | _ => none }
def fnExactAllDistancesRow : OpenClaim := { program := "ytkkfgnnhdcmmjaa", sum := "631e239d51751127fe5f31de010134ca7241e8e39f4c65e16e186aaeaa3ed57e", func := "loop.example/g00681/laws.FnExactAllDistances", spec := "fnExactAllDistances", unfollowed := true, recurses := true, apart := false }
def FnExactAllDistancesSaid : Prop := fnExactAllDistancesRow.holds Try.pinned (OpenSpec.ofChange fnExactAllDistancesSpec)

/-- ITS FALSE NEIGHBOUR: 'it returns false'. Refute it at one input. -/
def fnExactAllDistancesWrong : ChangeSpec := { name := "fnExactAllDistances", fn := fun _ => fun
  | [d] => { results := [.lit (.bool false)], args := [d] }
  | _ => none }
def FnExactAllDistancesWrongFalsely : Prop := fnExactAllDistancesRow.holds Try.pinned (OpenSpec.ofChange fnExactAllDistancesWrong)

/-- 'laws.FnExactCheapestWay': WHATEVER THE INPUT: true; the input reads as it did. -/
def fnExactCheapestWaySpec : ChangeSpec := { name := "fnExactCheapestWay", fn := fun _ => fun
  | [d1, d2, d3] => { results := [.lit (.bool true)], args := [d1, d2, d3] }
  | _ => none }
def fnExactCheapestWayRow : OpenClaim := { program := "ytkkfgnnhdcmmjaa", sum := "631e239d51751127fe5f31de010134ca7241e8e39f4c65e16e186aaeaa3ed57e", func := "loop.example/g00681/laws.FnExactCheapestWay", spec := "fnExactCheapestWay", unfollowed := true, recurses := true, apart := false }
def FnExactCheapestWaySaid : Prop := fnExactCheapestWayRow.holds Try.pinned (OpenSpec.ofChange fnExactCheapestWaySpec)

/-- ITS FALSE NEIGHBOUR: 'it returns false'. Refute it at one input. -/
def fnExactCheapestWayWrong : ChangeSpec := { name := "fnExactCheapestWay", fn := fun _ => fun
  | [d1, d2, d3] => { results := [.lit (.bool false)], args := [d1, d2, d3] }
  | _ => none }
def FnExactCheapestWayWrongFalsely : Prop := fnExactCheapestWayRow.holds Try.pinned (OpenSpec.ofChange fnExactCheapestWayWrong)

/-- 'laws.FnExactCountWays': WHATEVER THE INPUT: true; the input reads as it did. -/
def fnExactCountWaysSpec : ChangeSpec := { name := "fnExactCountWays", fn := fun _ => fun
  | [d1, d2, d3] => { results := [.lit (.bool true)], args := [d1, d2, d3] }
  | _ => none }
def fnExactCountWaysRow : OpenClaim := { program := "ytkkfgnnhdcmmjaa", sum := "631e239d51751127fe5f31de010134ca7241e8e39f4c65e16e186aaeaa3ed57e", func := "loop.example/g00681/laws.FnExactCountWays", spec := "fnExactCountWays", unfollowed := true, recurses := true, apart := false }
def FnExactCountWaysSaid : Prop := fnExactCountWaysRow.holds Try.pinned (OpenSpec.ofChange fnExactCountWaysSpec)

/-- ITS FALSE NEIGHBOUR: 'it returns false'. Refute it at one input. -/
def fnExactCountWaysWrong : ChangeSpec := { name := "fnExactCountWays", fn := fun _ => fun
  | [d1, d2, d3] => { results := [.lit (.bool false)], args := [d1, d2, d3] }
  | _ => none }
def FnExactCountWaysWrongFalsely : Prop := fnExactCountWaysRow.holds Try.pinned (OpenSpec.ofChange fnExactCountWaysWrong)

/-- 'laws.FnExactLinked': WHATEVER THE INPUT: true; the input reads as it did. -/
def fnExactLinkedSpec : ChangeSpec := { name := "fnExactLinked", fn := fun _ => fun
  | [d] => { results := [.lit (.bool true)], args := [d] }
  | _ => none }
def fnExactLinkedRow : OpenClaim := { program := "ytkkfgnnhdcmmjaa", sum := "631e239d51751127fe5f31de010134ca7241e8e39f4c65e16e186aaeaa3ed57e", func := "loop.example/g00681/laws.FnExactLinked", spec := "fnExactLinked", unfollowed := true, recurses := true, apart := false }
def FnExactLinkedSaid : Prop := fnExactLinkedRow.holds Try.pinned (OpenSpec.ofChange fnExactLinkedSpec)

/-- ITS FALSE NEIGHBOUR: 'it returns false'. Refute it at one input. -/
def fnExactLinkedWrong : ChangeSpec := { name := "fnExactLinked", fn := fun _ => fun
  | [d] => { results := [.lit (.bool false)], args := [d] }
  | _ => none }
def FnExactLinkedWrongFalsely : Prop := fnExactLinkedRow.holds Try.pinned (OpenSpec.ofChange fnExactLinkedWrong)

/-- 'laws.FnExactHopsTo': WHATEVER THE INPUT: true; the input reads as it did. -/
def fnExactHopsToSpec : ChangeSpec := { name := "fnExactHopsTo", fn := fun _ => fun
  | [d1, d2, d3] => { results := [.lit (.bool true)], args := [d1, d2, d3] }
  | _ => none }
def fnExactHopsToRow : OpenClaim := { program := "ytkkfgnnhdcmmjaa", sum := "631e239d51751127fe5f31de010134ca7241e8e39f4c65e16e186aaeaa3ed57e", func := "loop.example/g00681/laws.FnExactHopsTo", spec := "fnExactHopsTo", unfollowed := true, recurses := true, apart := false }
def FnExactHopsToSaid : Prop := fnExactHopsToRow.holds Try.pinned (OpenSpec.ofChange fnExactHopsToSpec)

/-- ITS FALSE NEIGHBOUR: 'it returns false'. Refute it at one input. -/
def fnExactHopsToWrong : ChangeSpec := { name := "fnExactHopsTo", fn := fun _ => fun
  | [d1, d2, d3] => { results := [.lit (.bool false)], args := [d1, d2, d3] }
  | _ => none }
def FnExactHopsToWrongFalsely : Prop := fnExactHopsToRow.holds Try.pinned (OpenSpec.ofChange fnExactHopsToWrong)

/-- 'laws.FnExactHopTable': WHATEVER THE INPUT: true; the input reads as it did. -/
def fnExactHopTableSpec : ChangeSpec := { name := "fnExactHopTable", fn := fun _ => fun
  | [d1, d2] => { results := [.lit (.bool true)], args := [d1, d2] }
  | _ => none }
def fnExactHopTableRow : OpenClaim := { program := "ytkkfgnnhdcmmjaa", sum := "631e239d51751127fe5f31de010134ca7241e8e39f4c65e16e186aaeaa3ed57e", func := "loop.example/g00681/laws.FnExactHopTable", spec := "fnExactHopTable", unfollowed := true, recurses := true, apart := false }
def FnExactHopTableSaid : Prop := fnExactHopTableRow.holds Try.pinned (OpenSpec.ofChange fnExactHopTableSpec)

/-- ITS FALSE NEIGHBOUR: 'it returns false'. Refute it at one input. -/
def fnExactHopTableWrong : ChangeSpec := { name := "fnExactHopTable", fn := fun _ => fun
  | [d1, d2] => { results := [.lit (.bool false)], args := [d1, d2] }
  | _ => none }
def FnExactHopTableWrongFalsely : Prop := fnExactHopTableRow.holds Try.pinned (OpenSpec.ofChange fnExactHopTableWrong)

/-- 'laws.FnExactTreeOf': WHATEVER THE INPUT: true; the input reads as it did. -/
def fnExactTreeOfSpec : ChangeSpec := { name := "fnExactTreeOf", fn := fun _ => fun
  | [d1, d2] => { results := [.lit (.bool true)], args := [d1, d2] }
  | _ => none }
def fnExactTreeOfRow : OpenClaim := { program := "ytkkfgnnhdcmmjaa", sum := "631e239d51751127fe5f31de010134ca7241e8e39f4c65e16e186aaeaa3ed57e", func := "loop.example/g00681/laws.FnExactTreeOf", spec := "fnExactTreeOf", unfollowed := true, recurses := true, apart := false }
def FnExactTreeOfSaid : Prop := fnExactTreeOfRow.holds Try.pinned (OpenSpec.ofChange fnExactTreeOfSpec)

/-- ITS FALSE NEIGHBOUR: 'it returns false'. Refute it at one input. -/
def fnExactTreeOfWrong : ChangeSpec := { name := "fnExactTreeOf", fn := fun _ => fun
  | [d1, d2] => { results := [.lit (.bool false)], args := [d1, d2] }
  | _ => none }
def FnExactTreeOfWrongFalsely : Prop := fnExactTreeOfRow.holds Try.pinned (OpenSpec.ofChange fnExactTreeOfWrong)

/-- 'laws.FnExactOnWay': WHATEVER THE INPUT: true; the input reads as it did. -/
def fnExactOnWaySpec : ChangeSpec := { name := "fnExactOnWay", fn := fun _ => fun
  | [d1, d2, d3, d4] => { results := [.lit (.bool true)], args := [d1, d2, d3, d4] }
  | _ => none }
def fnExactOnWayRow : OpenClaim := { program := "ytkkfgnnhdcmmjaa", sum := "631e239d51751127fe5f31de010134ca7241e8e39f4c65e16e186aaeaa3ed57e", func := "loop.example/g00681/laws.FnExactOnWay", spec := "fnExactOnWay", unfollowed := true, recurses := true, apart := false }
def FnExactOnWaySaid : Prop := fnExactOnWayRow.holds Try.pinned (OpenSpec.ofChange fnExactOnWaySpec)

/-- ITS FALSE NEIGHBOUR: 'it returns false'. Refute it at one input. -/
def fnExactOnWayWrong : ChangeSpec := { name := "fnExactOnWay", fn := fun _ => fun
  | [d1, d2, d3, d4] => { results := [.lit (.bool false)], args := [d1, d2, d3, d4] }
  | _ => none }
def FnExactOnWayWrongFalsely : Prop := fnExactOnWayRow.holds Try.pinned (OpenSpec.ofChange fnExactOnWayWrong)

/-- 'laws.FnExactShares': WHATEVER THE INPUT: true; the input reads as it did. -/
def fnExactSharesSpec : ChangeSpec := { name := "fnExactShares", fn := fun _ => fun
  | [d1, d2, d3, d4] => { results := [.lit (.bool true)], args := [d1, d2, d3, d4] }
  | _ => none }
def fnExactSharesRow : OpenClaim := { program := "ytkkfgnnhdcmmjaa", sum := "631e239d51751127fe5f31de010134ca7241e8e39f4c65e16e186aaeaa3ed57e", func := "loop.example/g00681/laws.FnExactShares", spec := "fnExactShares", unfollowed := true, recurses := true, apart := false }
def FnExactSharesSaid : Prop := fnExactSharesRow.holds Try.pinned (OpenSpec.ofChange fnExactSharesSpec)

/-- ITS FALSE NEIGHBOUR: 'it returns false'. Refute it at one input. -/
def fnExactSharesWrong : ChangeSpec := { name := "fnExactShares", fn := fun _ => fun
  | [d1, d2, d3, d4] => { results := [.lit (.bool false)], args := [d1, d2, d3, d4] }
  | _ => none }
def FnExactSharesWrongFalsely : Prop := fnExactSharesRow.holds Try.pinned (OpenSpec.ofChange fnExactSharesWrong)

/-- 'laws.FnExactChanged': WHATEVER THE INPUT: true; the input reads as it did. -/
def fnExactChangedSpec : ChangeSpec := { name := "fnExactChanged", fn := fun _ => fun
  | [d1, d2, d3] => { results := [.lit (.bool true)], args := [d1, d2, d3] }
  | _ => none }
def fnExactChangedRow : OpenClaim := { program := "ytkkfgnnhdcmmjaa", sum := "631e239d51751127fe5f31de010134ca7241e8e39f4c65e16e186aaeaa3ed57e", func := "loop.example/g00681/laws.FnExactChanged", spec := "fnExactChanged", unfollowed := true, recurses := true, apart := false }
def FnExactChangedSaid : Prop := fnExactChangedRow.holds Try.pinned (OpenSpec.ofChange fnExactChangedSpec)

/-- ITS FALSE NEIGHBOUR: 'it returns false'. Refute it at one input. -/
def fnExactChangedWrong : ChangeSpec := { name := "fnExactChanged", fn := fun _ => fun
  | [d1, d2, d3] => { results := [.lit (.bool false)], args := [d1, d2, d3] }
  | _ => none }
def FnExactChangedWrongFalsely : Prop := fnExactChangedRow.holds Try.pinned (OpenSpec.ofChange fnExactChangedWrong)

/-- 'laws.FnExactThrough': WHATEVER THE INPUT: true; the input reads as it did. -/
def fnExactThroughSpec : ChangeSpec := { name := "fnExactThrough", fn := fun _ => fun
  | [d1, d2] => { results := [.lit (.bool true)], args := [d1, d2] }
  | _ => none }
def fnExactThroughRow : OpenClaim := { program := "ytkkfgnnhdcmmjaa", sum := "631e239d51751127fe5f31de010134ca7241e8e39f4c65e16e186aaeaa3ed57e", func := "loop.example/g00681/laws.FnExactThrough", spec := "fnExactThrough", unfollowed := true, recurses := true, apart := false }
def FnExactThroughSaid : Prop := fnExactThroughRow.holds Try.pinned (OpenSpec.ofChange fnExactThroughSpec)

/-- ITS FALSE NEIGHBOUR: 'it returns false'. Refute it at one input. -/
def fnExactThroughWrong : ChangeSpec := { name := "fnExactThrough", fn := fun _ => fun
  | [d1, d2] => { results := [.lit (.bool false)], args := [d1, d2] }
  | _ => none }
def FnExactThroughWrongFalsely : Prop := fnExactThroughRow.holds Try.pinned (OpenSpec.ofChange fnExactThroughWrong)

/- THE SECOND FORM. 'bulk': how many values and letters a reading holds, each counted each time it is reached (what is shared counts as often as it is met; a slice's spare places count too). A statement '..UptoSaid' is the law's where the arguments, and the package variables that the reading takes, are together of bulk at most 1048576: NARROWER than '..Said'. Prove '..Said' where nothing that the law and all that it calls make is longer than what came in: it says more and counts as full. Else prove '..UptoSaid'. A law counts once. -/
mutual
def uptoBulk {H : Type} : DataW H → Nat
  | .lit (.string bytes) => bytes.length + 1
  | .lit _ => 1
  | .nil => 1
  | .ptr d => uptoBulk d + 1
  | .slice elems spare => uptoBulkAll elems + uptoBulkAll spare + 1
  | .agg parts => uptoBulkAll parts + 1
  | .iface _ d => uptoBulk d + 1
  | .map entries => uptoBulkEntries entries + 1
  | .held _ => 1
def uptoBulkAll {H : Type} : List (DataW H) → Nat
  | [] => 0
  | d :: r => uptoBulk d + uptoBulkAll r
def uptoBulkEntries {H : Type} : List (Lit × DataW H) → Nat
  | [] => 0
  | x :: r => uptoBulkEntry x + uptoBulkEntries r
def uptoBulkEntry {H : Type} : Lit × DataW H → Nat
  | (.string bytes, d) => bytes.length + uptoBulk d + 1
  | (_, d) => uptoBulk d + 1
 end
def uptoSmall : (H : Type) → List (DataW H) → Bool := fun _ ds => decide (uptoBulkAll ds ≤ 1048576)
def OpenSpec.upto (s : _root_.Go.ChangeSpec) : _root_.Go.OpenSpec := { _root_.Go.OpenSpec.ofChange s with cond := some uptoSmall }

/-- 'laws.FnExactDistances', WHERE WHAT IT READS IS OF BULK AT MOST 1048576: true; the input reads as it did. -/
def fnExactDistancesUptoRow : OpenClaim := { program := "ytkkfgnnhdcmmjaa", sum := "631e239d51751127fe5f31de010134ca7241e8e39f4c65e16e186aaeaa3ed57e", func := "loop.example/g00681/laws.FnExactDistances", spec := "fnExactDistances", unfollowed := true, recurses := true, apart := false, narrowed := true }
def FnExactDistancesUptoSaid : Prop := fnExactDistancesUptoRow.holds Try.pinned (OpenSpec.upto fnExactDistancesSpec)

/-- 'laws.FnExactAllDistances', WHERE WHAT IT READS IS OF BULK AT MOST 1048576: true; the input reads as it did. -/
def fnExactAllDistancesUptoRow : OpenClaim := { program := "ytkkfgnnhdcmmjaa", sum := "631e239d51751127fe5f31de010134ca7241e8e39f4c65e16e186aaeaa3ed57e", func := "loop.example/g00681/laws.FnExactAllDistances", spec := "fnExactAllDistances", unfollowed := true, recurses := true, apart := false, narrowed := true }
def FnExactAllDistancesUptoSaid : Prop := fnExactAllDistancesUptoRow.holds Try.pinned (OpenSpec.upto fnExactAllDistancesSpec)

/-- 'laws.FnExactCheapestWay', WHERE WHAT IT READS IS OF BULK AT MOST 1048576: true; the input reads as it did. -/
def fnExactCheapestWayUptoRow : OpenClaim := { program := "ytkkfgnnhdcmmjaa", sum := "631e239d51751127fe5f31de010134ca7241e8e39f4c65e16e186aaeaa3ed57e", func := "loop.example/g00681/laws.FnExactCheapestWay", spec := "fnExactCheapestWay", unfollowed := true, recurses := true, apart := false, narrowed := true }
def FnExactCheapestWayUptoSaid : Prop := fnExactCheapestWayUptoRow.holds Try.pinned (OpenSpec.upto fnExactCheapestWaySpec)

/-- 'laws.FnExactCountWays', WHERE WHAT IT READS IS OF BULK AT MOST 1048576: true; the input reads as it did. -/
def fnExactCountWaysUptoRow : OpenClaim := { program := "ytkkfgnnhdcmmjaa", sum := "631e239d51751127fe5f31de010134ca7241e8e39f4c65e16e186aaeaa3ed57e", func := "loop.example/g00681/laws.FnExactCountWays", spec := "fnExactCountWays", unfollowed := true, recurses := true, apart := false, narrowed := true }
def FnExactCountWaysUptoSaid : Prop := fnExactCountWaysUptoRow.holds Try.pinned (OpenSpec.upto fnExactCountWaysSpec)

/-- 'laws.FnExactLinked', WHERE WHAT IT READS IS OF BULK AT MOST 1048576: true; the input reads as it did. -/
def fnExactLinkedUptoRow : OpenClaim := { program := "ytkkfgnnhdcmmjaa", sum := "631e239d51751127fe5f31de010134ca7241e8e39f4c65e16e186aaeaa3ed57e", func := "loop.example/g00681/laws.FnExactLinked", spec := "fnExactLinked", unfollowed := true, recurses := true, apart := false, narrowed := true }
def FnExactLinkedUptoSaid : Prop := fnExactLinkedUptoRow.holds Try.pinned (OpenSpec.upto fnExactLinkedSpec)

/-- 'laws.FnExactHopsTo', WHERE WHAT IT READS IS OF BULK AT MOST 1048576: true; the input reads as it did. -/
def fnExactHopsToUptoRow : OpenClaim := { program := "ytkkfgnnhdcmmjaa", sum := "631e239d51751127fe5f31de010134ca7241e8e39f4c65e16e186aaeaa3ed57e", func := "loop.example/g00681/laws.FnExactHopsTo", spec := "fnExactHopsTo", unfollowed := true, recurses := true, apart := false, narrowed := true }
def FnExactHopsToUptoSaid : Prop := fnExactHopsToUptoRow.holds Try.pinned (OpenSpec.upto fnExactHopsToSpec)

/-- 'laws.FnExactHopTable', WHERE WHAT IT READS IS OF BULK AT MOST 1048576: true; the input reads as it did. -/
def fnExactHopTableUptoRow : OpenClaim := { program := "ytkkfgnnhdcmmjaa", sum := "631e239d51751127fe5f31de010134ca7241e8e39f4c65e16e186aaeaa3ed57e", func := "loop.example/g00681/laws.FnExactHopTable", spec := "fnExactHopTable", unfollowed := true, recurses := true, apart := false, narrowed := true }
def FnExactHopTableUptoSaid : Prop := fnExactHopTableUptoRow.holds Try.pinned (OpenSpec.upto fnExactHopTableSpec)

/-- 'laws.FnExactTreeOf', WHERE WHAT IT READS IS OF BULK AT MOST 1048576: true; the input reads as it did. -/
def fnExactTreeOfUptoRow : OpenClaim := { program := "ytkkfgnnhdcmmjaa", sum := "631e239d51751127fe5f31de010134ca7241e8e39f4c65e16e186aaeaa3ed57e", func := "loop.example/g00681/laws.FnExactTreeOf", spec := "fnExactTreeOf", unfollowed := true, recurses := true, apart := false, narrowed := true }
def FnExactTreeOfUptoSaid : Prop := fnExactTreeOfUptoRow.holds Try.pinned (OpenSpec.upto fnExactTreeOfSpec)

/-- 'laws.FnExactOnWay', WHERE WHAT IT READS IS OF BULK AT MOST 1048576: true; the input reads as it did. -/
def fnExactOnWayUptoRow : OpenClaim := { program := "ytkkfgnnhdcmmjaa", sum := "631e239d51751127fe5f31de010134ca7241e8e39f4c65e16e186aaeaa3ed57e", func := "loop.example/g00681/laws.FnExactOnWay", spec := "fnExactOnWay", unfollowed := true, recurses := true, apart := false, narrowed := true }
def FnExactOnWayUptoSaid : Prop := fnExactOnWayUptoRow.holds Try.pinned (OpenSpec.upto fnExactOnWaySpec)

/-- 'laws.FnExactShares', WHERE WHAT IT READS IS OF BULK AT MOST 1048576: true; the input reads as it did. -/
def fnExactSharesUptoRow : OpenClaim := { program := "ytkkfgnnhdcmmjaa", sum := "631e239d51751127fe5f31de010134ca7241e8e39f4c65e16e186aaeaa3ed57e", func := "loop.example/g00681/laws.FnExactShares", spec := "fnExactShares", unfollowed := true, recurses := true, apart := false, narrowed := true }
def FnExactSharesUptoSaid : Prop := fnExactSharesUptoRow.holds Try.pinned (OpenSpec.upto fnExactSharesSpec)

/-- 'laws.FnExactChanged', WHERE WHAT IT READS IS OF BULK AT MOST 1048576: true; the input reads as it did. -/
def fnExactChangedUptoRow : OpenClaim := { program := "ytkkfgnnhdcmmjaa", sum := "631e239d51751127fe5f31de010134ca7241e8e39f4c65e16e186aaeaa3ed57e", func := "loop.example/g00681/laws.FnExactChanged", spec := "fnExactChanged", unfollowed := true, recurses := true, apart := false, narrowed := true }
def FnExactChangedUptoSaid : Prop := fnExactChangedUptoRow.holds Try.pinned (OpenSpec.upto fnExactChangedSpec)

/-- 'laws.FnExactThrough', WHERE WHAT IT READS IS OF BULK AT MOST 1048576: true; the input reads as it did. -/
def fnExactThroughUptoRow : OpenClaim := { program := "ytkkfgnnhdcmmjaa", sum := "631e239d51751127fe5f31de010134ca7241e8e39f4c65e16e186aaeaa3ed57e", func := "loop.example/g00681/laws.FnExactThrough", spec := "fnExactThrough", unfollowed := true, recurses := true, apart := false, narrowed := true }
def FnExactThroughUptoSaid : Prop := fnExactThroughUptoRow.holds Try.pinned (OpenSpec.upto fnExactThroughSpec)

end Rows
end Go.Proofs.Ytkkfgnnhdcmmjaa
