/-
  No cell of these rows narrows 'for every input' (looked for: loops, veiled, ifaces, maps, wideKeys, modest, calm, conditions, laid).
  DERIVED. THE GIVEN ROWS OF THIS SEAT. 9 by the template 'for every input the law returns true; each argument reads behind the call as it read before'; 0 by the template 'total and deterministic' (their statements: YtfpafjdakipccaaTotals.lean).
  GIVEN WITH THE SEED: the statements are not yours to turn. If you find one false, say at which input.
  Laid BY PROGRAM, IN A SANDBOX (cutbox-rows.mjs): the forced cells as the released guide's own fill.sh prints them over the translation 4d1041b696821f5b… (all of the seat's roots in one cut). By AI agents, Wed Nov 11 2026. No macro, syntax, notation, axiom, sorry.
-/
import Derived.Test.YtfpafjdakipccaaChecked
import GoSem.Claim
import GoSem.ClaimJoined
import GoSem.ClaimMapViews
import Derived.JoinedTies
import Derived.KernelRfl
namespace Go.Proofs.Ytfpafjdakipccaa
/- THE CELL 'sum', in the pinned program and in every row, IS THE sha256 OF THE DUMP (.gsa) THAT YtfpafjdakipccaaProg.lean LOADS. Nothing in Lean hashes anything: it is a label: what it is worth is what the hold of that sum in a sandbox is worth. -/
noncomputable def Try.pinned : Pinned := { name := "ytfpafjdakipccaa", sum := "4d1041b696821f5b1383895e3054b2be6969e6f2327477236cc97fd584b60a3a", checked := Try.checked }
namespace Rows
def none {H : Type} : Left H := { results := [], args := [] }

/-- 'laws.FnMerged': WHATEVER THE INPUT: true; the input reads as it did. -/
def fnMergedSpec : ChangeSpec := { name := "fnMerged", fn := fun _ => fun
  | [d] => { results := [.lit (.bool true)], args := [d] }
  | _ => none }
def fnMergedRow : OpenClaim := { program := "ytfpafjdakipccaa", sum := "4d1041b696821f5b1383895e3054b2be6969e6f2327477236cc97fd584b60a3a", func := "loop.example/g00681/laws.FnMerged", spec := "fnMerged", unfollowed := true, recurses := true, apart := false }
def FnMergedSaid : Prop := fnMergedRow.holds Try.pinned (OpenSpec.ofChange fnMergedSpec)

/-- ITS FALSE NEIGHBOUR: 'it returns false'. Refute it at one input. -/
def fnMergedWrong : ChangeSpec := { name := "fnMerged", fn := fun _ => fun
  | [d] => { results := [.lit (.bool false)], args := [d] }
  | _ => none }
def FnMergedWrongFalsely : Prop := fnMergedRow.holds Try.pinned (OpenSpec.ofChange fnMergedWrong)

/-- 'laws.FnExactDbOk': WHATEVER THE INPUT: true; the input reads as it did. -/
def fnExactDbOkSpec : ChangeSpec := { name := "fnExactDbOk", fn := fun _ => fun
  | [d] => { results := [.lit (.bool true)], args := [d] }
  | _ => none }
def fnExactDbOkRow : OpenClaim := { program := "ytfpafjdakipccaa", sum := "4d1041b696821f5b1383895e3054b2be6969e6f2327477236cc97fd584b60a3a", func := "loop.example/g00681/laws.FnExactDbOk", spec := "fnExactDbOk", apart := false }
def FnExactDbOkSaid : Prop := fnExactDbOkRow.holds Try.pinned (OpenSpec.ofChange fnExactDbOkSpec)

/-- ITS FALSE NEIGHBOUR: 'it returns false'. Refute it at one input. -/
def fnExactDbOkWrong : ChangeSpec := { name := "fnExactDbOk", fn := fun _ => fun
  | [d] => { results := [.lit (.bool false)], args := [d] }
  | _ => none }
def FnExactDbOkWrongFalsely : Prop := fnExactDbOkRow.holds Try.pinned (OpenSpec.ofChange fnExactDbOkWrong)

/-- 'laws.FnExactFindLsa': WHATEVER THE INPUT: true; the input reads as it did. -/
def fnExactFindLsaSpec : ChangeSpec := { name := "fnExactFindLsa", fn := fun _ => fun
  | [d1, d2] => { results := [.lit (.bool true)], args := [d1, d2] }
  | _ => none }
def fnExactFindLsaRow : OpenClaim := { program := "ytfpafjdakipccaa", sum := "4d1041b696821f5b1383895e3054b2be6969e6f2327477236cc97fd584b60a3a", func := "loop.example/g00681/laws.FnExactFindLsa", spec := "fnExactFindLsa", apart := false }
def FnExactFindLsaSaid : Prop := fnExactFindLsaRow.holds Try.pinned (OpenSpec.ofChange fnExactFindLsaSpec)

/-- ITS FALSE NEIGHBOUR: 'it returns false'. Refute it at one input. -/
def fnExactFindLsaWrong : ChangeSpec := { name := "fnExactFindLsa", fn := fun _ => fun
  | [d1, d2] => { results := [.lit (.bool false)], args := [d1, d2] }
  | _ => none }
def FnExactFindLsaWrongFalsely : Prop := fnExactFindLsaRow.holds Try.pinned (OpenSpec.ofChange fnExactFindLsaWrong)

/-- 'laws.FnExactInstall': WHATEVER THE INPUT: true; the input reads as it did. -/
def fnExactInstallSpec : ChangeSpec := { name := "fnExactInstall", fn := fun _ => fun
  | [d1, d2] => { results := [.lit (.bool true)], args := [d1, d2] }
  | _ => none }
def fnExactInstallRow : OpenClaim := { program := "ytfpafjdakipccaa", sum := "4d1041b696821f5b1383895e3054b2be6969e6f2327477236cc97fd584b60a3a", func := "loop.example/g00681/laws.FnExactInstall", spec := "fnExactInstall", unfollowed := true, recurses := true, apart := false }
def FnExactInstallSaid : Prop := fnExactInstallRow.holds Try.pinned (OpenSpec.ofChange fnExactInstallSpec)

/-- ITS FALSE NEIGHBOUR: 'it returns false'. Refute it at one input. -/
def fnExactInstallWrong : ChangeSpec := { name := "fnExactInstall", fn := fun _ => fun
  | [d1, d2] => { results := [.lit (.bool false)], args := [d1, d2] }
  | _ => none }
def FnExactInstallWrongFalsely : Prop := fnExactInstallRow.holds Try.pinned (OpenSpec.ofChange fnExactInstallWrong)

/-- 'laws.FnExactAgeDb': WHATEVER THE INPUT: true; the input reads as it did. -/
def fnExactAgeDbSpec : ChangeSpec := { name := "fnExactAgeDb", fn := fun _ => fun
  | [d1, d2] => { results := [.lit (.bool true)], args := [d1, d2] }
  | _ => none }
def fnExactAgeDbRow : OpenClaim := { program := "ytfpafjdakipccaa", sum := "4d1041b696821f5b1383895e3054b2be6969e6f2327477236cc97fd584b60a3a", func := "loop.example/g00681/laws.FnExactAgeDb", spec := "fnExactAgeDb", unfollowed := true, recurses := true, apart := false }
def FnExactAgeDbSaid : Prop := fnExactAgeDbRow.holds Try.pinned (OpenSpec.ofChange fnExactAgeDbSpec)

/-- ITS FALSE NEIGHBOUR: 'it returns false'. Refute it at one input. -/
def fnExactAgeDbWrong : ChangeSpec := { name := "fnExactAgeDb", fn := fun _ => fun
  | [d1, d2] => { results := [.lit (.bool false)], args := [d1, d2] }
  | _ => none }
def FnExactAgeDbWrongFalsely : Prop := fnExactAgeDbRow.holds Try.pinned (OpenSpec.ofChange fnExactAgeDbWrong)

/-- 'laws.FnExactLacks': WHATEVER THE INPUT: true; the input reads as it did. -/
def fnExactLacksSpec : ChangeSpec := { name := "fnExactLacks", fn := fun _ => fun
  | [d1, d2] => { results := [.lit (.bool true)], args := [d1, d2] }
  | _ => none }
def fnExactLacksRow : OpenClaim := { program := "ytfpafjdakipccaa", sum := "4d1041b696821f5b1383895e3054b2be6969e6f2327477236cc97fd584b60a3a", func := "loop.example/g00681/laws.FnExactLacks", spec := "fnExactLacks", apart := false }
def FnExactLacksSaid : Prop := fnExactLacksRow.holds Try.pinned (OpenSpec.ofChange fnExactLacksSpec)

/-- ITS FALSE NEIGHBOUR: 'it returns false'. Refute it at one input. -/
def fnExactLacksWrong : ChangeSpec := { name := "fnExactLacks", fn := fun _ => fun
  | [d1, d2] => { results := [.lit (.bool false)], args := [d1, d2] }
  | _ => none }
def FnExactLacksWrongFalsely : Prop := fnExactLacksRow.holds Try.pinned (OpenSpec.ofChange fnExactLacksWrong)

/-- 'laws.FnExactMerge': WHATEVER THE INPUT: true; the input reads as it did. -/
def fnExactMergeSpec : ChangeSpec := { name := "fnExactMerge", fn := fun _ => fun
  | [d1, d2] => { results := [.lit (.bool true)], args := [d1, d2] }
  | _ => none }
def fnExactMergeRow : OpenClaim := { program := "ytfpafjdakipccaa", sum := "4d1041b696821f5b1383895e3054b2be6969e6f2327477236cc97fd584b60a3a", func := "loop.example/g00681/laws.FnExactMerge", spec := "fnExactMerge", unfollowed := true, recurses := true, apart := false }
def FnExactMergeSaid : Prop := fnExactMergeRow.holds Try.pinned (OpenSpec.ofChange fnExactMergeSpec)

/-- ITS FALSE NEIGHBOUR: 'it returns false'. Refute it at one input. -/
def fnExactMergeWrong : ChangeSpec := { name := "fnExactMerge", fn := fun _ => fun
  | [d1, d2] => { results := [.lit (.bool false)], args := [d1, d2] }
  | _ => none }
def FnExactMergeWrongFalsely : Prop := fnExactMergeRow.holds Try.pinned (OpenSpec.ofChange fnExactMergeWrong)

/-- 'laws.FnExactDbSum': WHATEVER THE INPUT: true; the input reads as it did. -/
def fnExactDbSumSpec : ChangeSpec := { name := "fnExactDbSum", fn := fun _ => fun
  | [d] => { results := [.lit (.bool true)], args := [d] }
  | _ => none }
def fnExactDbSumRow : OpenClaim := { program := "ytfpafjdakipccaa", sum := "4d1041b696821f5b1383895e3054b2be6969e6f2327477236cc97fd584b60a3a", func := "loop.example/g00681/laws.FnExactDbSum", spec := "fnExactDbSum", apart := false }
def FnExactDbSumSaid : Prop := fnExactDbSumRow.holds Try.pinned (OpenSpec.ofChange fnExactDbSumSpec)

/-- ITS FALSE NEIGHBOUR: 'it returns false'. Refute it at one input. -/
def fnExactDbSumWrong : ChangeSpec := { name := "fnExactDbSum", fn := fun _ => fun
  | [d] => { results := [.lit (.bool false)], args := [d] }
  | _ => none }
def FnExactDbSumWrongFalsely : Prop := fnExactDbSumRow.holds Try.pinned (OpenSpec.ofChange fnExactDbSumWrong)

/-- 'laws.FnExactGraphOf': WHATEVER THE INPUT: true; the input reads as it did. -/
def fnExactGraphOfSpec : ChangeSpec := { name := "fnExactGraphOf", fn := fun _ => fun
  | [d] => { results := [.lit (.bool true)], args := [d] }
  | _ => none }
def fnExactGraphOfRow : OpenClaim := { program := "ytfpafjdakipccaa", sum := "4d1041b696821f5b1383895e3054b2be6969e6f2327477236cc97fd584b60a3a", func := "loop.example/g00681/laws.FnExactGraphOf", spec := "fnExactGraphOf", unfollowed := true, recurses := true, apart := false }
def FnExactGraphOfSaid : Prop := fnExactGraphOfRow.holds Try.pinned (OpenSpec.ofChange fnExactGraphOfSpec)

/-- ITS FALSE NEIGHBOUR: 'it returns false'. Refute it at one input. -/
def fnExactGraphOfWrong : ChangeSpec := { name := "fnExactGraphOf", fn := fun _ => fun
  | [d] => { results := [.lit (.bool false)], args := [d] }
  | _ => none }
def FnExactGraphOfWrongFalsely : Prop := fnExactGraphOfRow.holds Try.pinned (OpenSpec.ofChange fnExactGraphOfWrong)

/- THE SECOND FORM. 'bulk': how many values and letters a reading holds, each counted each time it is reached (what is shared counts as often as it is met; a slice's spare places count too). A statement '..UptoSaid' is the law's where the arguments, and the package variables that the reading takes, are together of bulk at most 1048576: NARROWER than '..Said'. Prove '..Said' where nothing that the law and all that it calls make is longer than what came in: it says more and counts as full. Else prove '..UptoSaid'. A law counts once. -/
mutual
def uptoBulk {H : Type} : DataW H → Nat
  | .lit (.string bytes) => bytes.length + 1
  | .lit _ => 1
  | .nil => 1
  | .ptr d => uptoBulk d + 1
  | .slice elems spare => uptoBulkAll elems + uptoBulkAll spare + 1
  | .agg parts => uptoBulkAll parts + 1
  | .iface _ d => uptoBulk d + 1
  | .map entries => uptoBulkEntries entries + 1
  | .held _ => 1
def uptoBulkAll {H : Type} : List (DataW H) → Nat
  | [] => 0
  | d :: r => uptoBulk d + uptoBulkAll r
def uptoBulkEntries {H : Type} : List (Lit × DataW H) → Nat
  | [] => 0
  | x :: r => uptoBulkEntry x + uptoBulkEntries r
def uptoBulkEntry {H : Type} : Lit × DataW H → Nat
  | (.string bytes, d) => bytes.length + uptoBulk d + 1
  | (_, d) => uptoBulk d + 1
 end
def uptoSmall : (H : Type) → List (DataW H) → Bool := fun _ ds => decide (uptoBulkAll ds ≤ 1048576)
def OpenSpec.upto (s : _root_.Go.ChangeSpec) : _root_.Go.OpenSpec := { _root_.Go.OpenSpec.ofChange s with cond := some uptoSmall }

/-- 'laws.FnMerged', WHERE WHAT IT READS IS OF BULK AT MOST 1048576: true; the input reads as it did. -/
def fnMergedUptoRow : OpenClaim := { program := "ytfpafjdakipccaa", sum := "4d1041b696821f5b1383895e3054b2be6969e6f2327477236cc97fd584b60a3a", func := "loop.example/g00681/laws.FnMerged", spec := "fnMerged", unfollowed := true, recurses := true, apart := false, narrowed := true }
def FnMergedUptoSaid : Prop := fnMergedUptoRow.holds Try.pinned (OpenSpec.upto fnMergedSpec)

/-- 'laws.FnExactDbOk', WHERE WHAT IT READS IS OF BULK AT MOST 1048576: true; the input reads as it did. -/
def fnExactDbOkUptoRow : OpenClaim := { program := "ytfpafjdakipccaa", sum := "4d1041b696821f5b1383895e3054b2be6969e6f2327477236cc97fd584b60a3a", func := "loop.example/g00681/laws.FnExactDbOk", spec := "fnExactDbOk", apart := false, narrowed := true }
def FnExactDbOkUptoSaid : Prop := fnExactDbOkUptoRow.holds Try.pinned (OpenSpec.upto fnExactDbOkSpec)

/-- 'laws.FnExactFindLsa', WHERE WHAT IT READS IS OF BULK AT MOST 1048576: true; the input reads as it did. -/
def fnExactFindLsaUptoRow : OpenClaim := { program := "ytfpafjdakipccaa", sum := "4d1041b696821f5b1383895e3054b2be6969e6f2327477236cc97fd584b60a3a", func := "loop.example/g00681/laws.FnExactFindLsa", spec := "fnExactFindLsa", apart := false, narrowed := true }
def FnExactFindLsaUptoSaid : Prop := fnExactFindLsaUptoRow.holds Try.pinned (OpenSpec.upto fnExactFindLsaSpec)

/-- 'laws.FnExactInstall', WHERE WHAT IT READS IS OF BULK AT MOST 1048576: true; the input reads as it did. -/
def fnExactInstallUptoRow : OpenClaim := { program := "ytfpafjdakipccaa", sum := "4d1041b696821f5b1383895e3054b2be6969e6f2327477236cc97fd584b60a3a", func := "loop.example/g00681/laws.FnExactInstall", spec := "fnExactInstall", unfollowed := true, recurses := true, apart := false, narrowed := true }
def FnExactInstallUptoSaid : Prop := fnExactInstallUptoRow.holds Try.pinned (OpenSpec.upto fnExactInstallSpec)

/-- 'laws.FnExactAgeDb', WHERE WHAT IT READS IS OF BULK AT MOST 1048576: true; the input reads as it did. -/
def fnExactAgeDbUptoRow : OpenClaim := { program := "ytfpafjdakipccaa", sum := "4d1041b696821f5b1383895e3054b2be6969e6f2327477236cc97fd584b60a3a", func := "loop.example/g00681/laws.FnExactAgeDb", spec := "fnExactAgeDb", unfollowed := true, recurses := true, apart := false, narrowed := true }
def FnExactAgeDbUptoSaid : Prop := fnExactAgeDbUptoRow.holds Try.pinned (OpenSpec.upto fnExactAgeDbSpec)

/-- 'laws.FnExactLacks', WHERE WHAT IT READS IS OF BULK AT MOST 1048576: true; the input reads as it did. -/
def fnExactLacksUptoRow : OpenClaim := { program := "ytfpafjdakipccaa", sum := "4d1041b696821f5b1383895e3054b2be6969e6f2327477236cc97fd584b60a3a", func := "loop.example/g00681/laws.FnExactLacks", spec := "fnExactLacks", apart := false, narrowed := true }
def FnExactLacksUptoSaid : Prop := fnExactLacksUptoRow.holds Try.pinned (OpenSpec.upto fnExactLacksSpec)

/-- 'laws.FnExactMerge', WHERE WHAT IT READS IS OF BULK AT MOST 1048576: true; the input reads as it did. -/
def fnExactMergeUptoRow : OpenClaim := { program := "ytfpafjdakipccaa", sum := "4d1041b696821f5b1383895e3054b2be6969e6f2327477236cc97fd584b60a3a", func := "loop.example/g00681/laws.FnExactMerge", spec := "fnExactMerge", unfollowed := true, recurses := true, apart := false, narrowed := true }
def FnExactMergeUptoSaid : Prop := fnExactMergeUptoRow.holds Try.pinned (OpenSpec.upto fnExactMergeSpec)

/-- 'laws.FnExactDbSum', WHERE WHAT IT READS IS OF BULK AT MOST 1048576: true; the input reads as it did. -/
def fnExactDbSumUptoRow : OpenClaim := { program := "ytfpafjdakipccaa", sum := "4d1041b696821f5b1383895e3054b2be6969e6f2327477236cc97fd584b60a3a", func := "loop.example/g00681/laws.FnExactDbSum", spec := "fnExactDbSum", apart := false, narrowed := true }
def FnExactDbSumUptoSaid : Prop := fnExactDbSumUptoRow.holds Try.pinned (OpenSpec.upto fnExactDbSumSpec)

/-- 'laws.FnExactGraphOf', WHERE WHAT IT READS IS OF BULK AT MOST 1048576: true; the input reads as it did. -/
def fnExactGraphOfUptoRow : OpenClaim := { program := "ytfpafjdakipccaa", sum := "4d1041b696821f5b1383895e3054b2be6969e6f2327477236cc97fd584b60a3a", func := "loop.example/g00681/laws.FnExactGraphOf", spec := "fnExactGraphOf", unfollowed := true, recurses := true, apart := false, narrowed := true }
def FnExactGraphOfUptoSaid : Prop := fnExactGraphOfUptoRow.holds Try.pinned (OpenSpec.upto fnExactGraphOfSpec)

end Rows
end Go.Proofs.Ytfpafjdakipccaa
