/-
  No cell of these rows narrows 'for every input' (looked for: loops, veiled, ifaces, maps, wideKeys, modest, calm, conditions, laid).
  DERIVED. THE GIVEN ROWS OF THIS SEAT. 5 by the template 'for every input the law returns true; each argument reads behind the call as it read before'; 0 by the template 'total and deterministic' (their statements: YtflhbfndfjkfgaaTotals.lean).
  GIVEN WITH THE SEED: the statements are not yours to turn. If you find one false, say at which input.
  Laid BY PROGRAM, IN A SANDBOX (cutbox-rows.mjs): the forced cells as the released guide's own fill.sh prints them over the translation 0b378192e0606c4f… (all of the seat's roots in one cut). By AI agents, Wed Nov 11 2026. No macro, syntax, notation, axiom, sorry.
-/
import Derived.Test.YtflhbfndfjkfgaaChecked
import GoSem.Claim
import GoSem.ClaimJoined
import GoSem.ClaimMapViews
import Derived.JoinedTies
import Derived.KernelRfl
namespace Go.Proofs.Ytflhbfndfjkfgaa
/- THE CELL 'sum', in the pinned program and in every row, IS THE sha256 OF THE DUMP (.gsa) THAT YtflhbfndfjkfgaaProg.lean LOADS. Nothing in Lean hashes anything: it is a label: what it is worth is what the hold of that sum in a sandbox is worth. -/
noncomputable def Try.pinned : Pinned := { name := "ytflhbfndfjkfgaa", sum := "0b378192e0606c4f14bd994e1fb4dfdd8280001569c7582a86a65cad2be5eedf", checked := Try.checked }
namespace Rows
def none {H : Type} : Left H := { results := [], args := [] }

/-- 'laws.FnExactWalk': WHATEVER THE INPUT: true; the input reads as it did. -/
def fnExactWalkSpec : ChangeSpec := { name := "fnExactWalk", fn := fun _ => fun
  | [d1, d2, d3, d4] => { results := [.lit (.bool true)], args := [d1, d2, d3, d4] }
  | _ => none }
def fnExactWalkRow : OpenClaim := { program := "ytflhbfndfjkfgaa", sum := "0b378192e0606c4f14bd994e1fb4dfdd8280001569c7582a86a65cad2be5eedf", func := "loop.example/g00681/laws.FnExactWalk", spec := "fnExactWalk", unfollowed := true, recurses := true, apart := false }
def FnExactWalkSaid : Prop := fnExactWalkRow.holds Try.pinned (OpenSpec.ofChange fnExactWalkSpec)

/-- ITS FALSE NEIGHBOUR: 'it returns false'. Refute it at one input. -/
def fnExactWalkWrong : ChangeSpec := { name := "fnExactWalk", fn := fun _ => fun
  | [d1, d2, d3, d4] => { results := [.lit (.bool false)], args := [d1, d2, d3, d4] }
  | _ => none }
def FnExactWalkWrongFalsely : Prop := fnExactWalkRow.holds Try.pinned (OpenSpec.ofChange fnExactWalkWrong)

/-- 'laws.FnExactWalkCost': WHATEVER THE INPUT: true; the input reads as it did. -/
def fnExactWalkCostSpec : ChangeSpec := { name := "fnExactWalkCost", fn := fun _ => fun
  | [d1, d2] => { results := [.lit (.bool true)], args := [d1, d2] }
  | _ => none }
def fnExactWalkCostRow : OpenClaim := { program := "ytflhbfndfjkfgaa", sum := "0b378192e0606c4f14bd994e1fb4dfdd8280001569c7582a86a65cad2be5eedf", func := "loop.example/g00681/laws.FnExactWalkCost", spec := "fnExactWalkCost", apart := false }
def FnExactWalkCostSaid : Prop := fnExactWalkCostRow.holds Try.pinned (OpenSpec.ofChange fnExactWalkCostSpec)

/-- ITS FALSE NEIGHBOUR: 'it returns false'. Refute it at one input. -/
def fnExactWalkCostWrong : ChangeSpec := { name := "fnExactWalkCost", fn := fun _ => fun
  | [d1, d2] => { results := [.lit (.bool false)], args := [d1, d2] }
  | _ => none }
def FnExactWalkCostWrongFalsely : Prop := fnExactWalkCostRow.holds Try.pinned (OpenSpec.ofChange fnExactWalkCostWrong)

/-- 'laws.FnExactSinks': WHATEVER THE INPUT: true; the input reads as it did. -/
def fnExactSinksSpec : ChangeSpec := { name := "fnExactSinks", fn := fun _ => fun
  | [d1, d2] => { results := [.lit (.bool true)], args := [d1, d2] }
  | _ => none }
def fnExactSinksRow : OpenClaim := { program := "ytflhbfndfjkfgaa", sum := "0b378192e0606c4f14bd994e1fb4dfdd8280001569c7582a86a65cad2be5eedf", func := "loop.example/g00681/laws.FnExactSinks", spec := "fnExactSinks", unfollowed := true, recurses := true, apart := false }
def FnExactSinksSaid : Prop := fnExactSinksRow.holds Try.pinned (OpenSpec.ofChange fnExactSinksSpec)

/-- ITS FALSE NEIGHBOUR: 'it returns false'. Refute it at one input. -/
def fnExactSinksWrong : ChangeSpec := { name := "fnExactSinks", fn := fun _ => fun
  | [d1, d2] => { results := [.lit (.bool false)], args := [d1, d2] }
  | _ => none }
def FnExactSinksWrongFalsely : Prop := fnExactSinksRow.holds Try.pinned (OpenSpec.ofChange fnExactSinksWrong)

/-- 'laws.FnExactLoopsAt': WHATEVER THE INPUT: true; the input reads as it did. -/
def fnExactLoopsAtSpec : ChangeSpec := { name := "fnExactLoopsAt", fn := fun _ => fun
  | [d1, d2] => { results := [.lit (.bool true)], args := [d1, d2] }
  | _ => none }
def fnExactLoopsAtRow : OpenClaim := { program := "ytflhbfndfjkfgaa", sum := "0b378192e0606c4f14bd994e1fb4dfdd8280001569c7582a86a65cad2be5eedf", func := "loop.example/g00681/laws.FnExactLoopsAt", spec := "fnExactLoopsAt", unfollowed := true, recurses := true, apart := false }
def FnExactLoopsAtSaid : Prop := fnExactLoopsAtRow.holds Try.pinned (OpenSpec.ofChange fnExactLoopsAtSpec)

/-- ITS FALSE NEIGHBOUR: 'it returns false'. Refute it at one input. -/
def fnExactLoopsAtWrong : ChangeSpec := { name := "fnExactLoopsAt", fn := fun _ => fun
  | [d1, d2] => { results := [.lit (.bool false)], args := [d1, d2] }
  | _ => none }
def FnExactLoopsAtWrongFalsely : Prop := fnExactLoopsAtRow.holds Try.pinned (OpenSpec.ofChange fnExactLoopsAtWrong)

/-- 'laws.FnExactCountHome': WHATEVER THE INPUT: true; the input reads as it did. -/
def fnExactCountHomeSpec : ChangeSpec := { name := "fnExactCountHome", fn := fun _ => fun
  | [d1, d2] => { results := [.lit (.bool true)], args := [d1, d2] }
  | _ => none }
def fnExactCountHomeRow : OpenClaim := { program := "ytflhbfndfjkfgaa", sum := "0b378192e0606c4f14bd994e1fb4dfdd8280001569c7582a86a65cad2be5eedf", func := "loop.example/g00681/laws.FnExactCountHome", spec := "fnExactCountHome", unfollowed := true, recurses := true, apart := false }
def FnExactCountHomeSaid : Prop := fnExactCountHomeRow.holds Try.pinned (OpenSpec.ofChange fnExactCountHomeSpec)

/-- ITS FALSE NEIGHBOUR: 'it returns false'. Refute it at one input. -/
def fnExactCountHomeWrong : ChangeSpec := { name := "fnExactCountHome", fn := fun _ => fun
  | [d1, d2] => { results := [.lit (.bool false)], args := [d1, d2] }
  | _ => none }
def FnExactCountHomeWrongFalsely : Prop := fnExactCountHomeRow.holds Try.pinned (OpenSpec.ofChange fnExactCountHomeWrong)

/- THE SECOND FORM. 'bulk': how many values and letters a reading holds, each counted each time it is reached (what is shared counts as often as it is met; a slice's spare places count too). A statement '..UptoSaid' is the law's where the arguments, and the package variables that the reading takes, are together of bulk at most 1048576: NARROWER than '..Said'. Prove '..Said' where nothing that the law and all that it calls make is longer than what came in: it says more and counts as full. Else prove '..UptoSaid'. A law counts once. -/
mutual
def uptoBulk {H : Type} : DataW H → Nat
  | .lit (.string bytes) => bytes.length + 1
  | .lit _ => 1
  | .nil => 1
  | .ptr d => uptoBulk d + 1
  | .slice elems spare => uptoBulkAll elems + uptoBulkAll spare + 1
  | .agg parts => uptoBulkAll parts + 1
  | .iface _ d => uptoBulk d + 1
  | .map entries => uptoBulkEntries entries + 1
  | .held _ => 1
def uptoBulkAll {H : Type} : List (DataW H) → Nat
  | [] => 0
  | d :: r => uptoBulk d + uptoBulkAll r
def uptoBulkEntries {H : Type} : List (Lit × DataW H) → Nat
  | [] => 0
  | x :: r => uptoBulkEntry x + uptoBulkEntries r
def uptoBulkEntry {H : Type} : Lit × DataW H → Nat
  | (.string bytes, d) => bytes.length + uptoBulk d + 1
  | (_, d) => uptoBulk d + 1
 end
def uptoSmall : (H : Type) → List (DataW H) → Bool := fun _ ds => decide (uptoBulkAll ds ≤ 1048576)
def OpenSpec.upto (s : _root_.Go.ChangeSpec) : _root_.Go.OpenSpec := { _root_.Go.OpenSpec.ofChange s with cond := some uptoSmall }

/-- 'laws.FnExactWalk', WHERE WHAT IT READS IS OF BULK AT MOST 1048576: true; the input reads as it did. -/
def fnExactWalkUptoRow : OpenClaim := { program := "ytflhbfndfjkfgaa", sum := "0b378192e0606c4f14bd994e1fb4dfdd8280001569c7582a86a65cad2be5eedf", func := "loop.example/g00681/laws.FnExactWalk", spec := "fnExactWalk", unfollowed := true, recurses := true, apart := false, narrowed := true }
def FnExactWalkUptoSaid : Prop := fnExactWalkUptoRow.holds Try.pinned (OpenSpec.upto fnExactWalkSpec)

/-- 'laws.FnExactWalkCost', WHERE WHAT IT READS IS OF BULK AT MOST 1048576: true; the input reads as it did. -/
def fnExactWalkCostUptoRow : OpenClaim := { program := "ytflhbfndfjkfgaa", sum := "0b378192e0606c4f14bd994e1fb4dfdd8280001569c7582a86a65cad2be5eedf", func := "loop.example/g00681/laws.FnExactWalkCost", spec := "fnExactWalkCost", apart := false, narrowed := true }
def FnExactWalkCostUptoSaid : Prop := fnExactWalkCostUptoRow.holds Try.pinned (OpenSpec.upto fnExactWalkCostSpec)

/-- 'laws.FnExactSinks', WHERE WHAT IT READS IS OF BULK AT MOST 1048576: true; the input reads as it did. -/
def fnExactSinksUptoRow : OpenClaim := { program := "ytflhbfndfjkfgaa", sum := "0b378192e0606c4f14bd994e1fb4dfdd8280001569c7582a86a65cad2be5eedf", func := "loop.example/g00681/laws.FnExactSinks", spec := "fnExactSinks", unfollowed := true, recurses := true, apart := false, narrowed := true }
def FnExactSinksUptoSaid : Prop := fnExactSinksUptoRow.holds Try.pinned (OpenSpec.upto fnExactSinksSpec)

/-- 'laws.FnExactLoopsAt', WHERE WHAT IT READS IS OF BULK AT MOST 1048576: true; the input reads as it did. -/
def fnExactLoopsAtUptoRow : OpenClaim := { program := "ytflhbfndfjkfgaa", sum := "0b378192e0606c4f14bd994e1fb4dfdd8280001569c7582a86a65cad2be5eedf", func := "loop.example/g00681/laws.FnExactLoopsAt", spec := "fnExactLoopsAt", unfollowed := true, recurses := true, apart := false, narrowed := true }
def FnExactLoopsAtUptoSaid : Prop := fnExactLoopsAtUptoRow.holds Try.pinned (OpenSpec.upto fnExactLoopsAtSpec)

/-- 'laws.FnExactCountHome', WHERE WHAT IT READS IS OF BULK AT MOST 1048576: true; the input reads as it did. -/
def fnExactCountHomeUptoRow : OpenClaim := { program := "ytflhbfndfjkfgaa", sum := "0b378192e0606c4f14bd994e1fb4dfdd8280001569c7582a86a65cad2be5eedf", func := "loop.example/g00681/laws.FnExactCountHome", spec := "fnExactCountHome", unfollowed := true, recurses := true, apart := false, narrowed := true }
def FnExactCountHomeUptoSaid : Prop := fnExactCountHomeUptoRow.holds Try.pinned (OpenSpec.upto fnExactCountHomeSpec)

end Rows
end Go.Proofs.Ytflhbfndfjkfgaa
