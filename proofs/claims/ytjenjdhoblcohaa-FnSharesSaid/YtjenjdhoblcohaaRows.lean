/-
  No cell of these rows narrows 'for every input' (looked for: loops, veiled, ifaces, maps, wideKeys, modest, calm, conditions, laid).
  DERIVED. THE GIVEN ROWS OF THIS SEAT. 8 by the template 'for every input the law returns true; each argument reads behind the call as it read before'; 0 by the template 'total and deterministic' (their statements: YtjenjdhoblcohaaTotals.lean).
  GIVEN WITH THE SEED: the statements are not yours to turn. If you find one false, say at which input.
  Laid BY PROGRAM, IN A SANDBOX (cutbox-rows.mjs): the forced cells as the released guide's own fill.sh prints them over the translation 0a72a379743e4854… (all of the seat's roots in one cut). By AI agents, Wed Nov 11 2026. No macro, syntax, notation, axiom, sorry.
-/
import Derived.Test.YtjenjdhoblcohaaChecked
import GoSem.Claim
import GoSem.ClaimJoined
import GoSem.ClaimMapViews
import Derived.JoinedTies
import Derived.KernelRfl
namespace Go.Proofs.Ytjenjdhoblcohaa
/- THE CELL 'sum', in the pinned program and in every row, IS THE sha256 OF THE DUMP (.gsa) THAT YtjenjdhoblcohaaProg.lean LOADS. Nothing in Lean hashes anything: it is a label: what it is worth is what the hold of that sum in a sandbox is worth. -/
noncomputable def Try.pinned : Pinned := { name := "ytjenjdhoblcohaa", sum := "0a72a379743e4854a14d44744288e1955d66737b07a127c1964d5a4f27e1c2d6", checked := Try.checked }
namespace Rows
def none {H : Type} : Left H := { results := [], args := [] }

/-- 'laws.FnExactHopOf': WHATEVER THE INPUT: true; the input reads as it did. -/
def fnExactHopOfSpec : ChangeSpec := { name := "fnExactHopOf", fn := fun _ => fun
  | [d1, d2, d3] => { results := [.lit (.bool true)], args := [d1, d2, d3] }
  | _ => none }
def fnExactHopOfRow : OpenClaim := { program := "ytjenjdhoblcohaa", sum := "0a72a379743e4854a14d44744288e1955d66737b07a127c1964d5a4f27e1c2d6", func := "loop.example/g00681/laws.FnExactHopOf", spec := "fnExactHopOf", unfollowed := true, recurses := true, apart := false }
def FnExactHopOfSaid : Prop := fnExactHopOfRow.holds Try.pinned (OpenSpec.ofChange fnExactHopOfSpec)

/-- ITS FALSE NEIGHBOUR: 'it returns false'. Refute it at one input. -/
def fnExactHopOfWrong : ChangeSpec := { name := "fnExactHopOf", fn := fun _ => fun
  | [d1, d2, d3] => { results := [.lit (.bool false)], args := [d1, d2, d3] }
  | _ => none }
def FnExactHopOfWrongFalsely : Prop := fnExactHopOfRow.holds Try.pinned (OpenSpec.ofChange fnExactHopOfWrong)

/-- 'laws.FnExactMixedHops': WHATEVER THE INPUT: true; the input reads as it did. -/
def fnExactMixedHopsSpec : ChangeSpec := { name := "fnExactMixedHops", fn := fun _ => fun
  | [d1, d2, d3, d4] => { results := [.lit (.bool true)], args := [d1, d2, d3, d4] }
  | _ => none }
def fnExactMixedHopsRow : OpenClaim := { program := "ytjenjdhoblcohaa", sum := "0a72a379743e4854a14d44744288e1955d66737b07a127c1964d5a4f27e1c2d6", func := "loop.example/g00681/laws.FnExactMixedHops", spec := "fnExactMixedHops", unfollowed := true, recurses := true, apart := false }
def FnExactMixedHopsSaid : Prop := fnExactMixedHopsRow.holds Try.pinned (OpenSpec.ofChange fnExactMixedHopsSpec)

/-- ITS FALSE NEIGHBOUR: 'it returns false'. Refute it at one input. -/
def fnExactMixedHopsWrong : ChangeSpec := { name := "fnExactMixedHops", fn := fun _ => fun
  | [d1, d2, d3, d4] => { results := [.lit (.bool false)], args := [d1, d2, d3, d4] }
  | _ => none }
def FnExactMixedHopsWrongFalsely : Prop := fnExactMixedHopsRow.holds Try.pinned (OpenSpec.ofChange fnExactMixedHopsWrong)

/-- 'laws.FnExactLoopsIn': WHATEVER THE INPUT: true; the input reads as it did. -/
def fnExactLoopsInSpec : ChangeSpec := { name := "fnExactLoopsIn", fn := fun _ => fun
  | [d1, d2] => { results := [.lit (.bool true)], args := [d1, d2] }
  | _ => none }
def fnExactLoopsInRow : OpenClaim := { program := "ytjenjdhoblcohaa", sum := "0a72a379743e4854a14d44744288e1955d66737b07a127c1964d5a4f27e1c2d6", func := "loop.example/g00681/laws.FnExactLoopsIn", spec := "fnExactLoopsIn", apart := false }
def FnExactLoopsInSaid : Prop := fnExactLoopsInRow.holds Try.pinned (OpenSpec.ofChange fnExactLoopsInSpec)

/-- ITS FALSE NEIGHBOUR: 'it returns false'. Refute it at one input. -/
def fnExactLoopsInWrong : ChangeSpec := { name := "fnExactLoopsIn", fn := fun _ => fun
  | [d1, d2] => { results := [.lit (.bool false)], args := [d1, d2] }
  | _ => none }
def FnExactLoopsInWrongFalsely : Prop := fnExactLoopsInRow.holds Try.pinned (OpenSpec.ofChange fnExactLoopsInWrong)

/-- 'laws.FnExactSafeOrder': WHATEVER THE INPUT: true; the input reads as it did. -/
def fnExactSafeOrderSpec : ChangeSpec := { name := "fnExactSafeOrder", fn := fun _ => fun
  | [d1, d2] => { results := [.lit (.bool true)], args := [d1, d2] }
  | _ => none }
def fnExactSafeOrderRow : OpenClaim := { program := "ytjenjdhoblcohaa", sum := "0a72a379743e4854a14d44744288e1955d66737b07a127c1964d5a4f27e1c2d6", func := "loop.example/g00681/laws.FnExactSafeOrder", spec := "fnExactSafeOrder", unfollowed := true, recurses := true, apart := false }
def FnExactSafeOrderSaid : Prop := fnExactSafeOrderRow.holds Try.pinned (OpenSpec.ofChange fnExactSafeOrderSpec)

/-- ITS FALSE NEIGHBOUR: 'it returns false'. Refute it at one input. -/
def fnExactSafeOrderWrong : ChangeSpec := { name := "fnExactSafeOrder", fn := fun _ => fun
  | [d1, d2] => { results := [.lit (.bool false)], args := [d1, d2] }
  | _ => none }
def FnExactSafeOrderWrongFalsely : Prop := fnExactSafeOrderRow.holds Try.pinned (OpenSpec.ofChange fnExactSafeOrderWrong)

/-- 'laws.FnExactFirstLoop': WHATEVER THE INPUT: true; the input reads as it did. -/
def fnExactFirstLoopSpec : ChangeSpec := { name := "fnExactFirstLoop", fn := fun _ => fun
  | [d1, d2, d3, d4] => { results := [.lit (.bool true)], args := [d1, d2, d3, d4] }
  | _ => none }
def fnExactFirstLoopRow : OpenClaim := { program := "ytjenjdhoblcohaa", sum := "0a72a379743e4854a14d44744288e1955d66737b07a127c1964d5a4f27e1c2d6", func := "loop.example/g00681/laws.FnExactFirstLoop", spec := "fnExactFirstLoop", unfollowed := true, recurses := true, apart := false }
def FnExactFirstLoopSaid : Prop := fnExactFirstLoopRow.holds Try.pinned (OpenSpec.ofChange fnExactFirstLoopSpec)

/-- ITS FALSE NEIGHBOUR: 'it returns false'. Refute it at one input. -/
def fnExactFirstLoopWrong : ChangeSpec := { name := "fnExactFirstLoop", fn := fun _ => fun
  | [d1, d2, d3, d4] => { results := [.lit (.bool false)], args := [d1, d2, d3, d4] }
  | _ => none }
def FnExactFirstLoopWrongFalsely : Prop := fnExactFirstLoopRow.holds Try.pinned (OpenSpec.ofChange fnExactFirstLoopWrong)

/-- 'laws.FnExactCountBad': WHATEVER THE INPUT: true; the input reads as it did. -/
def fnExactCountBadSpec : ChangeSpec := { name := "fnExactCountBad", fn := fun _ => fun
  | [d1, d2, d3] => { results := [.lit (.bool true)], args := [d1, d2, d3] }
  | _ => none }
def fnExactCountBadRow : OpenClaim := { program := "ytjenjdhoblcohaa", sum := "0a72a379743e4854a14d44744288e1955d66737b07a127c1964d5a4f27e1c2d6", func := "loop.example/g00681/laws.FnExactCountBad", spec := "fnExactCountBad", unfollowed := true, recurses := true, apart := false }
def FnExactCountBadSaid : Prop := fnExactCountBadRow.holds Try.pinned (OpenSpec.ofChange fnExactCountBadSpec)

/-- ITS FALSE NEIGHBOUR: 'it returns false'. Refute it at one input. -/
def fnExactCountBadWrong : ChangeSpec := { name := "fnExactCountBad", fn := fun _ => fun
  | [d1, d2, d3] => { results := [.lit (.bool false)], args := [d1, d2, d3] }
  | _ => none }
def FnExactCountBadWrongFalsely : Prop := fnExactCountBadRow.holds Try.pinned (OpenSpec.ofChange fnExactCountBadWrong)

/-- 'laws.FnCheapest': WHATEVER THE INPUT: true; the input reads as it did. -/
def fnCheapestSpec : ChangeSpec := { name := "fnCheapest", fn := fun _ => fun
  | [d] => { results := [.lit (.bool true)], args := [d] }
  | _ => none }
def fnCheapestRow : OpenClaim := { program := "ytjenjdhoblcohaa", sum := "0a72a379743e4854a14d44744288e1955d66737b07a127c1964d5a4f27e1c2d6", func := "loop.example/g00681/laws.FnCheapest", spec := "fnCheapest", unfollowed := true, recurses := true, apart := false }
def FnCheapestSaid : Prop := fnCheapestRow.holds Try.pinned (OpenSpec.ofChange fnCheapestSpec)

/-- ITS FALSE NEIGHBOUR: 'it returns false'. Refute it at one input. -/
def fnCheapestWrong : ChangeSpec := { name := "fnCheapest", fn := fun _ => fun
  | [d] => { results := [.lit (.bool false)], args := [d] }
  | _ => none }
def FnCheapestWrongFalsely : Prop := fnCheapestRow.holds Try.pinned (OpenSpec.ofChange fnCheapestWrong)

/-- 'laws.FnShares': WHATEVER THE INPUT: true; the input reads as it did. -/
def fnSharesSpec : ChangeSpec := { name := "fnShares", fn := fun _ => fun
  | [d] => { results := [.lit (.bool true)], args := [d] }
  | _ => none }
def fnSharesRow : OpenClaim := { program := "ytjenjdhoblcohaa", sum := "0a72a379743e4854a14d44744288e1955d66737b07a127c1964d5a4f27e1c2d6", func := "loop.example/g00681/laws.FnShares", spec := "fnShares", unfollowed := true, recurses := true, apart := false }
def FnSharesSaid : Prop := fnSharesRow.holds Try.pinned (OpenSpec.ofChange fnSharesSpec)

/-- ITS FALSE NEIGHBOUR: 'it returns false'. Refute it at one input. -/
def fnSharesWrong : ChangeSpec := { name := "fnShares", fn := fun _ => fun
  | [d] => { results := [.lit (.bool false)], args := [d] }
  | _ => none }
def FnSharesWrongFalsely : Prop := fnSharesRow.holds Try.pinned (OpenSpec.ofChange fnSharesWrong)

/- THE SECOND FORM. 'bulk': how many values and letters a reading holds, each counted each time it is reached (what is shared counts as often as it is met; a slice's spare places count too). A statement '..UptoSaid' is the law's where the arguments, and the package variables that the reading takes, are together of bulk at most 1048576: NARROWER than '..Said'. Prove '..Said' where nothing that the law and all that it calls make is longer than what came in: it says more and counts as full. Else prove '..UptoSaid'. A law counts once. -/
mutual
def uptoBulk {H : Type} : DataW H → Nat
  | .lit (.string bytes) => bytes.length + 1
  | .lit _ => 1
  | .nil => 1
  | .ptr d => uptoBulk d + 1
  | .slice elems spare => uptoBulkAll elems + uptoBulkAll spare + 1
  | .agg parts => uptoBulkAll parts + 1
  | .iface _ d => uptoBulk d + 1
  | .map entries => uptoBulkEntries entries + 1
  | .held _ => 1
def uptoBulkAll {H : Type} : List (DataW H) → Nat
  | [] => 0
  | d :: r => uptoBulk d + uptoBulkAll r
def uptoBulkEntries {H : Type} : List (Lit × DataW H) → Nat
  | [] => 0
  | x :: r => uptoBulkEntry x + uptoBulkEntries r
def uptoBulkEntry {H : Type} : Lit × DataW H → Nat
  | (.string bytes, d) => bytes.length + uptoBulk d + 1
  | (_, d) => uptoBulk d + 1
 end
def uptoSmall : (H : Type) → List (DataW H) → Bool := fun _ ds => decide (uptoBulkAll ds ≤ 1048576)
def OpenSpec.upto (s : _root_.Go.ChangeSpec) : _root_.Go.OpenSpec := { _root_.Go.OpenSpec.ofChange s with cond := some uptoSmall }

/-- 'laws.FnExactHopOf', WHERE WHAT IT READS IS OF BULK AT MOST 1048576: true; the input reads as it did. -/
def fnExactHopOfUptoRow : OpenClaim := { program := "ytjenjdhoblcohaa", sum := "0a72a379743e4854a14d44744288e1955d66737b07a127c1964d5a4f27e1c2d6", func := "loop.example/g00681/laws.FnExactHopOf", spec := "fnExactHopOf", unfollowed := true, recurses := true, apart := false, narrowed := true }
def FnExactHopOfUptoSaid : Prop := fnExactHopOfUptoRow.holds Try.pinned (OpenSpec.upto fnExactHopOfSpec)

/-- 'laws.FnExactMixedHops', WHERE WHAT IT READS IS OF BULK AT MOST 1048576: true; the input reads as it did. -/
def fnExactMixedHopsUptoRow : OpenClaim := { program := "ytjenjdhoblcohaa", sum := "0a72a379743e4854a14d44744288e1955d66737b07a127c1964d5a4f27e1c2d6", func := "loop.example/g00681/laws.FnExactMixedHops", spec := "fnExactMixedHops", unfollowed := true, recurses := true, apart := false, narrowed := true }
def FnExactMixedHopsUptoSaid : Prop := fnExactMixedHopsUptoRow.holds Try.pinned (OpenSpec.upto fnExactMixedHopsSpec)

/-- 'laws.FnExactLoopsIn', WHERE WHAT IT READS IS OF BULK AT MOST 1048576: true; the input reads as it did. -/
def fnExactLoopsInUptoRow : OpenClaim := { program := "ytjenjdhoblcohaa", sum := "0a72a379743e4854a14d44744288e1955d66737b07a127c1964d5a4f27e1c2d6", func := "loop.example/g00681/laws.FnExactLoopsIn", spec := "fnExactLoopsIn", apart := false, narrowed := true }
def FnExactLoopsInUptoSaid : Prop := fnExactLoopsInUptoRow.holds Try.pinned (OpenSpec.upto fnExactLoopsInSpec)

/-- 'laws.FnExactSafeOrder', WHERE WHAT IT READS IS OF BULK AT MOST 1048576: true; the input reads as it did. -/
def fnExactSafeOrderUptoRow : OpenClaim := { program := "ytjenjdhoblcohaa", sum := "0a72a379743e4854a14d44744288e1955d66737b07a127c1964d5a4f27e1c2d6", func := "loop.example/g00681/laws.FnExactSafeOrder", spec := "fnExactSafeOrder", unfollowed := true, recurses := true, apart := false, narrowed := true }
def FnExactSafeOrderUptoSaid : Prop := fnExactSafeOrderUptoRow.holds Try.pinned (OpenSpec.upto fnExactSafeOrderSpec)

/-- 'laws.FnExactFirstLoop', WHERE WHAT IT READS IS OF BULK AT MOST 1048576: true; the input reads as it did. -/
def fnExactFirstLoopUptoRow : OpenClaim := { program := "ytjenjdhoblcohaa", sum := "0a72a379743e4854a14d44744288e1955d66737b07a127c1964d5a4f27e1c2d6", func := "loop.example/g00681/laws.FnExactFirstLoop", spec := "fnExactFirstLoop", unfollowed := true, recurses := true, apart := false, narrowed := true }
def FnExactFirstLoopUptoSaid : Prop := fnExactFirstLoopUptoRow.holds Try.pinned (OpenSpec.upto fnExactFirstLoopSpec)

/-- 'laws.FnExactCountBad', WHERE WHAT IT READS IS OF BULK AT MOST 1048576: true; the input reads as it did. -/
def fnExactCountBadUptoRow : OpenClaim := { program := "ytjenjdhoblcohaa", sum := "0a72a379743e4854a14d44744288e1955d66737b07a127c1964d5a4f27e1c2d6", func := "loop.example/g00681/laws.FnExactCountBad", spec := "fnExactCountBad", unfollowed := true, recurses := true, apart := false, narrowed := true }
def FnExactCountBadUptoSaid : Prop := fnExactCountBadUptoRow.holds Try.pinned (OpenSpec.upto fnExactCountBadSpec)

/-- 'laws.FnCheapest', WHERE WHAT IT READS IS OF BULK AT MOST 1048576: true; the input reads as it did. -/
def fnCheapestUptoRow : OpenClaim := { program := "ytjenjdhoblcohaa", sum := "0a72a379743e4854a14d44744288e1955d66737b07a127c1964d5a4f27e1c2d6", func := "loop.example/g00681/laws.FnCheapest", spec := "fnCheapest", unfollowed := true, recurses := true, apart := false, narrowed := true }
def FnCheapestUptoSaid : Prop := fnCheapestUptoRow.holds Try.pinned (OpenSpec.upto fnCheapestSpec)

/-- 'laws.FnShares', WHERE WHAT IT READS IS OF BULK AT MOST 1048576: true; the input reads as it did. -/
def fnSharesUptoRow : OpenClaim := { program := "ytjenjdhoblcohaa", sum := "0a72a379743e4854a14d44744288e1955d66737b07a127c1964d5a4f27e1c2d6", func := "loop.example/g00681/laws.FnShares", spec := "fnShares", unfollowed := true, recurses := true, apart := false, narrowed := true }
def FnSharesUptoSaid : Prop := fnSharesUptoRow.holds Try.pinned (OpenSpec.upto fnSharesSpec)

end Rows
end Go.Proofs.Ytjenjdhoblcohaa
