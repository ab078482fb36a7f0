/-
  No cell of these rows narrows 'for every input' (looked for: loops, veiled, ifaces, maps, wideKeys, modest, calm, conditions, laid).
  DERIVED. THE GIVEN ROWS OF THIS SEAT. 8 by the template 'for every input the law returns true; each argument reads behind the call as it read before'; 0 by the template 'total and deterministic' (their statements: YtcaoohcfoccedaaTotals.lean).
  GIVEN WITH THE SEED: the statements are not yours to turn. If you find one false, say at which input.
  Laid BY PROGRAM, IN A SANDBOX (cutbox-rows.mjs): the forced cells as the released guide's own fill.sh prints them over the translation aa54f2791e0898ba… (all of the seat's roots in one cut). By AI agents, Wed Nov 11 2026. No macro, syntax, notation, axiom, sorry.
-/
import Derived.Test.YtcaoohcfoccedaaChecked
import GoSem.Claim
import GoSem.ClaimJoined
import GoSem.ClaimMapViews
import Derived.JoinedTies
import Derived.KernelRfl
namespace Go.Proofs.Ytcaoohcfoccedaa
/- THE CELL 'sum', in the pinned program and in every row, IS THE sha256 OF THE DUMP (.gsa) THAT YtcaoohcfoccedaaProg.lean LOADS. Nothing in Lean hashes anything: it is a label: what it is worth is what the hold of that sum in a sandbox is worth. -/
noncomputable def Try.pinned : Pinned := { name := "ytcaoohcfoccedaa", sum := "aa54f2791e0898ba26742c018e3199ad3031102ee9f93cff34a1b4df44ea48fc", checked := Try.checked }
namespace Rows
def none {H : Type} : Left H := { results := [], args := [] }

/-- 'laws.FnExactLsaOk': WHATEVER THE INPUT: true; the input reads as it did. -/
def fnExactLsaOkSpec : ChangeSpec := { name := "fnExactLsaOk", fn := fun _ => fun
  | [d] => { results := [.lit (.bool true)], args := [d] }
  | _ => none }
def fnExactLsaOkRow : OpenClaim := { program := "ytcaoohcfoccedaa", sum := "aa54f2791e0898ba26742c018e3199ad3031102ee9f93cff34a1b4df44ea48fc", func := "loop.example/g00681/laws.FnExactLsaOk", spec := "fnExactLsaOk", apart := false }
def FnExactLsaOkSaid : Prop := fnExactLsaOkRow.holds Try.pinned (OpenSpec.ofChange fnExactLsaOkSpec)

/-- ITS FALSE NEIGHBOUR: 'it returns false'. Refute it at one input. -/
def fnExactLsaOkWrong : ChangeSpec := { name := "fnExactLsaOk", fn := fun _ => fun
  | [d] => { results := [.lit (.bool false)], args := [d] }
  | _ => none }
def FnExactLsaOkWrongFalsely : Prop := fnExactLsaOkRow.holds Try.pinned (OpenSpec.ofChange fnExactLsaOkWrong)

/-- 'laws.FnExactLsaBytes': WHATEVER THE INPUT: true; the input reads as it did. -/
def fnExactLsaBytesSpec : ChangeSpec := { name := "fnExactLsaBytes", fn := fun _ => fun
  | [d] => { results := [.lit (.bool true)], args := [d] }
  | _ => none }
def fnExactLsaBytesRow : OpenClaim := { program := "ytcaoohcfoccedaa", sum := "aa54f2791e0898ba26742c018e3199ad3031102ee9f93cff34a1b4df44ea48fc", func := "loop.example/g00681/laws.FnExactLsaBytes", spec := "fnExactLsaBytes", apart := false }
def FnExactLsaBytesSaid : Prop := fnExactLsaBytesRow.holds Try.pinned (OpenSpec.ofChange fnExactLsaBytesSpec)

/-- ITS FALSE NEIGHBOUR: 'it returns false'. Refute it at one input. -/
def fnExactLsaBytesWrong : ChangeSpec := { name := "fnExactLsaBytes", fn := fun _ => fun
  | [d] => { results := [.lit (.bool false)], args := [d] }
  | _ => none }
def FnExactLsaBytesWrongFalsely : Prop := fnExactLsaBytesRow.holds Try.pinned (OpenSpec.ofChange fnExactLsaBytesWrong)

/-- 'laws.FnExactLsaSum': WHATEVER THE INPUT: true; the input reads as it did. -/
def fnExactLsaSumSpec : ChangeSpec := { name := "fnExactLsaSum", fn := fun _ => fun
  | [d] => { results := [.lit (.bool true)], args := [d] }
  | _ => none }
def fnExactLsaSumRow : OpenClaim := { program := "ytcaoohcfoccedaa", sum := "aa54f2791e0898ba26742c018e3199ad3031102ee9f93cff34a1b4df44ea48fc", func := "loop.example/g00681/laws.FnExactLsaSum", spec := "fnExactLsaSum", apart := false }
def FnExactLsaSumSaid : Prop := fnExactLsaSumRow.holds Try.pinned (OpenSpec.ofChange fnExactLsaSumSpec)

/-- ITS FALSE NEIGHBOUR: 'it returns false'. Refute it at one input. -/
def fnExactLsaSumWrong : ChangeSpec := { name := "fnExactLsaSum", fn := fun _ => fun
  | [d] => { results := [.lit (.bool false)], args := [d] }
  | _ => none }
def FnExactLsaSumWrongFalsely : Prop := fnExactLsaSumRow.holds Try.pinned (OpenSpec.ofChange fnExactLsaSumWrong)

/-- 'laws.FnExactNewer': WHATEVER THE INPUT: true; the input reads as it did. -/
def fnExactNewerSpec : ChangeSpec := { name := "fnExactNewer", fn := fun _ => fun
  | [d1, d2] => { results := [.lit (.bool true)], args := [d1, d2] }
  | _ => none }
def fnExactNewerRow : OpenClaim := { program := "ytcaoohcfoccedaa", sum := "aa54f2791e0898ba26742c018e3199ad3031102ee9f93cff34a1b4df44ea48fc", func := "loop.example/g00681/laws.FnExactNewer", spec := "fnExactNewer", apart := false }
def FnExactNewerSaid : Prop := fnExactNewerRow.holds Try.pinned (OpenSpec.ofChange fnExactNewerSpec)

/-- ITS FALSE NEIGHBOUR: 'it returns false'. Refute it at one input. -/
def fnExactNewerWrong : ChangeSpec := { name := "fnExactNewer", fn := fun _ => fun
  | [d1, d2] => { results := [.lit (.bool false)], args := [d1, d2] }
  | _ => none }
def FnExactNewerWrongFalsely : Prop := fnExactNewerRow.holds Try.pinned (OpenSpec.ofChange fnExactNewerWrong)

/-- 'laws.FnExactPutLsa': WHATEVER THE INPUT: true; the input reads as it did. -/
def fnExactPutLsaSpec : ChangeSpec := { name := "fnExactPutLsa", fn := fun _ => fun
  | [d] => { results := [.lit (.bool true)], args := [d] }
  | _ => none }
def fnExactPutLsaRow : OpenClaim := { program := "ytcaoohcfoccedaa", sum := "aa54f2791e0898ba26742c018e3199ad3031102ee9f93cff34a1b4df44ea48fc", func := "loop.example/g00681/laws.FnExactPutLsa", spec := "fnExactPutLsa", apart := false }
def FnExactPutLsaSaid : Prop := fnExactPutLsaRow.holds Try.pinned (OpenSpec.ofChange fnExactPutLsaSpec)

/-- ITS FALSE NEIGHBOUR: 'it returns false'. Refute it at one input. -/
def fnExactPutLsaWrong : ChangeSpec := { name := "fnExactPutLsa", fn := fun _ => fun
  | [d] => { results := [.lit (.bool false)], args := [d] }
  | _ => none }
def FnExactPutLsaWrongFalsely : Prop := fnExactPutLsaRow.holds Try.pinned (OpenSpec.ofChange fnExactPutLsaWrong)

/-- 'laws.FnExactAgeLsa': WHATEVER THE INPUT: true; the input reads as it did. -/
def fnExactAgeLsaSpec : ChangeSpec := { name := "fnExactAgeLsa", fn := fun _ => fun
  | [d1, d2] => { results := [.lit (.bool true)], args := [d1, d2] }
  | _ => none }
def fnExactAgeLsaRow : OpenClaim := { program := "ytcaoohcfoccedaa", sum := "aa54f2791e0898ba26742c018e3199ad3031102ee9f93cff34a1b4df44ea48fc", func := "loop.example/g00681/laws.FnExactAgeLsa", spec := "fnExactAgeLsa", apart := false }
def FnExactAgeLsaSaid : Prop := fnExactAgeLsaRow.holds Try.pinned (OpenSpec.ofChange fnExactAgeLsaSpec)

/-- ITS FALSE NEIGHBOUR: 'it returns false'. Refute it at one input. -/
def fnExactAgeLsaWrong : ChangeSpec := { name := "fnExactAgeLsa", fn := fun _ => fun
  | [d1, d2] => { results := [.lit (.bool false)], args := [d1, d2] }
  | _ => none }
def FnExactAgeLsaWrongFalsely : Prop := fnExactAgeLsaRow.holds Try.pinned (OpenSpec.ofChange fnExactAgeLsaWrong)

/-- 'laws.FnExactSameWords': WHATEVER THE INPUT: true; the input reads as it did. -/
def fnExactSameWordsSpec : ChangeSpec := { name := "fnExactSameWords", fn := fun _ => fun
  | [d1, d2] => { results := [.lit (.bool true)], args := [d1, d2] }
  | _ => none }
def fnExactSameWordsRow : OpenClaim := { program := "ytcaoohcfoccedaa", sum := "aa54f2791e0898ba26742c018e3199ad3031102ee9f93cff34a1b4df44ea48fc", func := "loop.example/g00681/laws.FnExactSameWords", spec := "fnExactSameWords", apart := false }
def FnExactSameWordsSaid : Prop := fnExactSameWordsRow.holds Try.pinned (OpenSpec.ofChange fnExactSameWordsSpec)

/-- ITS FALSE NEIGHBOUR: 'it returns false'. Refute it at one input. -/
def fnExactSameWordsWrong : ChangeSpec := { name := "fnExactSameWords", fn := fun _ => fun
  | [d1, d2] => { results := [.lit (.bool false)], args := [d1, d2] }
  | _ => none }
def FnExactSameWordsWrongFalsely : Prop := fnExactSameWordsRow.holds Try.pinned (OpenSpec.ofChange fnExactSameWordsWrong)

/-- 'laws.FnExactNextLsa': WHATEVER THE INPUT: true; the input reads as it did. -/
def fnExactNextLsaSpec : ChangeSpec := { name := "fnExactNextLsa", fn := fun _ => fun
  | [d1, d2, d3] => { results := [.lit (.bool true)], args := [d1, d2, d3] }
  | _ => none }
def fnExactNextLsaRow : OpenClaim := { program := "ytcaoohcfoccedaa", sum := "aa54f2791e0898ba26742c018e3199ad3031102ee9f93cff34a1b4df44ea48fc", func := "loop.example/g00681/laws.FnExactNextLsa", spec := "fnExactNextLsa", apart := false }
def FnExactNextLsaSaid : Prop := fnExactNextLsaRow.holds Try.pinned (OpenSpec.ofChange fnExactNextLsaSpec)

/-- ITS FALSE NEIGHBOUR: 'it returns false'. Refute it at one input. -/
def fnExactNextLsaWrong : ChangeSpec := { name := "fnExactNextLsa", fn := fun _ => fun
  | [d1, d2, d3] => { results := [.lit (.bool false)], args := [d1, d2, d3] }
  | _ => none }
def FnExactNextLsaWrongFalsely : Prop := fnExactNextLsaRow.holds Try.pinned (OpenSpec.ofChange fnExactNextLsaWrong)

/- THE SECOND FORM. 'bulk': how many values and letters a reading holds, each counted each time it is reached (what is shared counts as often as it is met; a slice's spare places count too). A statement '..UptoSaid' is the law's where the arguments, and the package variables that the reading takes, are together of bulk at most 1048576: NARROWER than '..Said'. Prove '..Said' where nothing that the law and all that it calls make is longer than what came in: it says more and counts as full. Else prove '..UptoSaid'. A law counts once. -/
mutual
def uptoBulk {H : Type} : DataW H → Nat
  | .lit (.string bytes) => bytes.length + 1
  | .lit _ => 1
  | .nil => 1
  | .ptr d => uptoBulk d + 1
  | .slice elems spare => uptoBulkAll elems + uptoBulkAll spare + 1
  | .agg parts => uptoBulkAll parts + 1
  | .iface _ d => uptoBulk d + 1
  | .map entries => uptoBulkEntries entries + 1
  | .held _ => 1
def uptoBulkAll {H : Type} : List (DataW H) → Nat
  | [] => 0
  | d :: r => uptoBulk d + uptoBulkAll r
def uptoBulkEntries {H : Type} : List (Lit × DataW H) → Nat
  | [] => 0
  | x :: r => uptoBulkEntry x + uptoBulkEntries r
def uptoBulkEntry {H : Type} : Lit × DataW H → Nat
  | (.string bytes, d) => bytes.length + uptoBulk d + 1
  | (_, d) => uptoBulk d + 1
 end
def uptoSmall : (H : Type) → List (DataW H) → Bool := fun _ ds => decide (uptoBulkAll ds ≤ 1048576)
def OpenSpec.upto (s : _root_.Go.ChangeSpec) : _root_.Go.OpenSpec := { _root_.Go.OpenSpec.ofChange s with cond := some uptoSmall }

/-- 'laws.FnExactLsaOk', WHERE WHAT IT READS IS OF BULK AT MOST 1048576: true; the input reads as it did. -/
def fnExactLsaOkUptoRow : OpenClaim := { program := "ytcaoohcfoccedaa", sum := "aa54f2791e0898ba26742c018e3199ad3031102ee9f93cff34a1b4df44ea48fc", func := "loop.example/g00681/laws.FnExactLsaOk", spec := "fnExactLsaOk", apart := false, narrowed := true }
def FnExactLsaOkUptoSaid : Prop := fnExactLsaOkUptoRow.holds Try.pinned (OpenSpec.upto fnExactLsaOkSpec)

/-- 'laws.FnExactLsaBytes', WHERE WHAT IT READS IS OF BULK AT MOST 1048576: true; the input reads as it did. -/
def fnExactLsaBytesUptoRow : OpenClaim := { program := "ytcaoohcfoccedaa", sum := "aa54f2791e0898ba26742c018e3199ad3031102ee9f93cff34a1b4df44ea48fc", func := "loop.example/g00681/laws.FnExactLsaBytes", spec := "fnExactLsaBytes", apart := false, narrowed := true }
def FnExactLsaBytesUptoSaid : Prop := fnExactLsaBytesUptoRow.holds Try.pinned (OpenSpec.upto fnExactLsaBytesSpec)

/-- 'laws.FnExactLsaSum', WHERE WHAT IT READS IS OF BULK AT MOST 1048576: true; the input reads as it did. -/
def fnExactLsaSumUptoRow : OpenClaim := { program := "ytcaoohcfoccedaa", sum := "aa54f2791e0898ba26742c018e3199ad3031102ee9f93cff34a1b4df44ea48fc", func := "loop.example/g00681/laws.FnExactLsaSum", spec := "fnExactLsaSum", apart := false, narrowed := true }
def FnExactLsaSumUptoSaid : Prop := fnExactLsaSumUptoRow.holds Try.pinned (OpenSpec.upto fnExactLsaSumSpec)

/-- 'laws.FnExactNewer', WHERE WHAT IT READS IS OF BULK AT MOST 1048576: true; the input reads as it did. -/
def fnExactNewerUptoRow : OpenClaim := { program := "ytcaoohcfoccedaa", sum := "aa54f2791e0898ba26742c018e3199ad3031102ee9f93cff34a1b4df44ea48fc", func := "loop.example/g00681/laws.FnExactNewer", spec := "fnExactNewer", apart := false, narrowed := true }
def FnExactNewerUptoSaid : Prop := fnExactNewerUptoRow.holds Try.pinned (OpenSpec.upto fnExactNewerSpec)

/-- 'laws.FnExactPutLsa', WHERE WHAT IT READS IS OF BULK AT MOST 1048576: true; the input reads as it did. -/
def fnExactPutLsaUptoRow : OpenClaim := { program := "ytcaoohcfoccedaa", sum := "aa54f2791e0898ba26742c018e3199ad3031102ee9f93cff34a1b4df44ea48fc", func := "loop.example/g00681/laws.FnExactPutLsa", spec := "fnExactPutLsa", apart := false, narrowed := true }
def FnExactPutLsaUptoSaid : Prop := fnExactPutLsaUptoRow.holds Try.pinned (OpenSpec.upto fnExactPutLsaSpec)

/-- 'laws.FnExactAgeLsa', WHERE WHAT IT READS IS OF BULK AT MOST 1048576: true; the input reads as it did. -/
def fnExactAgeLsaUptoRow : OpenClaim := { program := "ytcaoohcfoccedaa", sum := "aa54f2791e0898ba26742c018e3199ad3031102ee9f93cff34a1b4df44ea48fc", func := "loop.example/g00681/laws.FnExactAgeLsa", spec := "fnExactAgeLsa", apart := false, narrowed := true }
def FnExactAgeLsaUptoSaid : Prop := fnExactAgeLsaUptoRow.holds Try.pinned (OpenSpec.upto fnExactAgeLsaSpec)

/-- 'laws.FnExactSameWords', WHERE WHAT IT READS IS OF BULK AT MOST 1048576: true; the input reads as it did. -/
def fnExactSameWordsUptoRow : OpenClaim := { program := "ytcaoohcfoccedaa", sum := "aa54f2791e0898ba26742c018e3199ad3031102ee9f93cff34a1b4df44ea48fc", func := "loop.example/g00681/laws.FnExactSameWords", spec := "fnExactSameWords", apart := false, narrowed := true }
def FnExactSameWordsUptoSaid : Prop := fnExactSameWordsUptoRow.holds Try.pinned (OpenSpec.upto fnExactSameWordsSpec)

/-- 'laws.FnExactNextLsa', WHERE WHAT IT READS IS OF BULK AT MOST 1048576: true; the input reads as it did. -/
def fnExactNextLsaUptoRow : OpenClaim := { program := "ytcaoohcfoccedaa", sum := "aa54f2791e0898ba26742c018e3199ad3031102ee9f93cff34a1b4df44ea48fc", func := "loop.example/g00681/laws.FnExactNextLsa", spec := "fnExactNextLsa", apart := false, narrowed := true }
def FnExactNextLsaUptoSaid : Prop := fnExactNextLsaUptoRow.holds Try.pinned (OpenSpec.upto fnExactNextLsaSpec)

end Rows
end Go.Proofs.Ytcaoohcfoccedaa
