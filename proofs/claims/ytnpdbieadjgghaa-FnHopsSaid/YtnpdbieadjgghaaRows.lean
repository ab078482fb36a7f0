/-
  No cell of these rows narrows 'for every input' (looked for: loops, veiled, ifaces, maps, wideKeys, modest, calm, conditions, laid).
  DERIVED. THE GIVEN ROWS OF THIS SEAT. 9 by the template 'for every input the law returns true; each argument reads behind the call as it read before'; 0 by the template 'total and deterministic' (their statements: YtnpdbieadjgghaaTotals.lean).
  GIVEN WITH THE SEED: the statements are not yours to turn. If you find one false, say at which input.
  Laid BY PROGRAM, IN A SANDBOX (cutbox-rows.mjs): the forced cells as the released guide's own fill.sh prints them over the translation f12e97f3e769e990… (all of the seat's roots in one cut). By AI agents, Wed Nov 11 2026. No macro, syntax, notation, axiom, sorry.
-/
import Derived.Test.YtnpdbieadjgghaaChecked
import GoSem.Claim
import GoSem.ClaimJoined
import GoSem.ClaimMapViews
import Derived.JoinedTies
import Derived.KernelRfl
namespace Go.Proofs.Ytnpdbieadjgghaa
/- THE CELL 'sum', in the pinned program and in every row, IS THE sha256 OF THE DUMP (.gsa) THAT YtnpdbieadjgghaaProg.lean LOADS. Nothing in Lean hashes anything: it is a label: what it is worth is what the hold of that sum in a sandbox is worth. -/
noncomputable def Try.pinned : Pinned := { name := "ytnpdbieadjgghaa", sum := "f12e97f3e769e9909f3ed2c9ee807b656f75dd3ee0bd9c78df76bd78cea87ed9", checked := Try.checked }
namespace Rows
def none {H : Type} : Left H := { results := [], args := [] }

/-- 'laws.FnExactLoopFree': WHATEVER THE INPUT: true; the input reads as it did. -/
def fnExactLoopFreeSpec : ChangeSpec := { name := "fnExactLoopFree", fn := fun _ => fun
  | [d1, d2, d3, d4] => { results := [.lit (.bool true)], args := [d1, d2, d3, d4] }
  | _ => none }
def fnExactLoopFreeRow : OpenClaim := { program := "ytnpdbieadjgghaa", sum := "f12e97f3e769e9909f3ed2c9ee807b656f75dd3ee0bd9c78df76bd78cea87ed9", func := "loop.example/g00681/laws.FnExactLoopFree", spec := "fnExactLoopFree", inPlace := ["sync/atomic.LoadUint32", "(*internal/sync.Mutex).Lock", "internal/race.Disable", "sync/atomic.CompareAndSwapInt32", "internal/race.Enable", "internal/race.Acquire", "(*internal/sync.Mutex).lockSlow", "internal/sync.runtime_canSpin", "internal/sync.runtime_doSpin", "internal/sync.throw", "internal/sync.runtime_nanotime", "internal/sync.runtime_SemacquireMutex", "sync/atomic.AddInt32", "(*internal/sync.Mutex).Unlock", "internal/race.ReleaseMerge", "(*internal/sync.Mutex).unlockSlow", "internal/sync.fatal", "internal/sync.runtime_Semrelease", "sync/atomic.StoreUint32"], unfollowed := true, recurses := true, apart := false }
def FnExactLoopFreeSaid : Prop := fnExactLoopFreeRow.holds Try.pinned (OpenSpec.ofChange fnExactLoopFreeSpec)

/-- ITS FALSE NEIGHBOUR: 'it returns false'. Refute it at one input. -/
def fnExactLoopFreeWrong : ChangeSpec := { name := "fnExactLoopFree", fn := fun _ => fun
  | [d1, d2, d3, d4] => { results := [.lit (.bool false)], args := [d1, d2, d3, d4] }
  | _ => none }
def FnExactLoopFreeWrongFalsely : Prop := fnExactLoopFreeRow.holds Try.pinned (OpenSpec.ofChange fnExactLoopFreeWrong)

/-- 'laws.FnExactAlternates': WHATEVER THE INPUT: true; the input reads as it did. -/
def fnExactAlternatesSpec : ChangeSpec := { name := "fnExactAlternates", fn := fun _ => fun
  | [d1, d2, d3, d4] => { results := [.lit (.bool true)], args := [d1, d2, d3, d4] }
  | _ => none }
def fnExactAlternatesRow : OpenClaim := { program := "ytnpdbieadjgghaa", sum := "f12e97f3e769e9909f3ed2c9ee807b656f75dd3ee0bd9c78df76bd78cea87ed9", func := "loop.example/g00681/laws.FnExactAlternates", spec := "fnExactAlternates", inPlace := ["sync/atomic.LoadUint32", "(*internal/sync.Mutex).Lock", "internal/race.Disable", "sync/atomic.CompareAndSwapInt32", "internal/race.Enable", "internal/race.Acquire", "(*internal/sync.Mutex).lockSlow", "internal/sync.runtime_canSpin", "internal/sync.runtime_doSpin", "internal/sync.throw", "internal/sync.runtime_nanotime", "internal/sync.runtime_SemacquireMutex", "sync/atomic.AddInt32", "(*internal/sync.Mutex).Unlock", "internal/race.ReleaseMerge", "(*internal/sync.Mutex).unlockSlow", "internal/sync.fatal", "internal/sync.runtime_Semrelease", "sync/atomic.StoreUint32"], unfollowed := true, recurses := true, apart := false }
def FnExactAlternatesSaid : Prop := fnExactAlternatesRow.holds Try.pinned (OpenSpec.ofChange fnExactAlternatesSpec)

/-- ITS FALSE NEIGHBOUR: 'it returns false'. Refute it at one input. -/
def fnExactAlternatesWrong : ChangeSpec := { name := "fnExactAlternates", fn := fun _ => fun
  | [d1, d2, d3, d4] => { results := [.lit (.bool false)], args := [d1, d2, d3, d4] }
  | _ => none }
def FnExactAlternatesWrongFalsely : Prop := fnExactAlternatesRow.holds Try.pinned (OpenSpec.ofChange fnExactAlternatesWrong)

/-- 'laws.FnExactBestAlternate': WHATEVER THE INPUT: true; the input reads as it did. -/
def fnExactBestAlternateSpec : ChangeSpec := { name := "fnExactBestAlternate", fn := fun _ => fun
  | [d1, d2, d3, d4] => { results := [.lit (.bool true)], args := [d1, d2, d3, d4] }
  | _ => none }
def fnExactBestAlternateRow : OpenClaim := { program := "ytnpdbieadjgghaa", sum := "f12e97f3e769e9909f3ed2c9ee807b656f75dd3ee0bd9c78df76bd78cea87ed9", func := "loop.example/g00681/laws.FnExactBestAlternate", spec := "fnExactBestAlternate", inPlace := ["sync/atomic.LoadUint32", "(*internal/sync.Mutex).Lock", "internal/race.Disable", "sync/atomic.CompareAndSwapInt32", "internal/race.Enable", "internal/race.Acquire", "(*internal/sync.Mutex).lockSlow", "internal/sync.runtime_canSpin", "internal/sync.runtime_doSpin", "internal/sync.throw", "internal/sync.runtime_nanotime", "internal/sync.runtime_SemacquireMutex", "sync/atomic.AddInt32", "(*internal/sync.Mutex).Unlock", "internal/race.ReleaseMerge", "(*internal/sync.Mutex).unlockSlow", "internal/sync.fatal", "internal/sync.runtime_Semrelease", "sync/atomic.StoreUint32"], unfollowed := true, recurses := true, apart := false }
def FnExactBestAlternateSaid : Prop := fnExactBestAlternateRow.holds Try.pinned (OpenSpec.ofChange fnExactBestAlternateSpec)

/-- ITS FALSE NEIGHBOUR: 'it returns false'. Refute it at one input. -/
def fnExactBestAlternateWrong : ChangeSpec := { name := "fnExactBestAlternate", fn := fun _ => fun
  | [d1, d2, d3, d4] => { results := [.lit (.bool false)], args := [d1, d2, d3, d4] }
  | _ => none }
def FnExactBestAlternateWrongFalsely : Prop := fnExactBestAlternateRow.holds Try.pinned (OpenSpec.ofChange fnExactBestAlternateWrong)

/-- 'laws.FnExactNodeSafe': WHATEVER THE INPUT: true; the input reads as it did. -/
def fnExactNodeSafeSpec : ChangeSpec := { name := "fnExactNodeSafe", fn := fun _ => fun
  | [d1, d2, d3, d4, d5] => { results := [.lit (.bool true)], args := [d1, d2, d3, d4, d5] }
  | _ => none }
def fnExactNodeSafeRow : OpenClaim := { program := "ytnpdbieadjgghaa", sum := "f12e97f3e769e9909f3ed2c9ee807b656f75dd3ee0bd9c78df76bd78cea87ed9", func := "loop.example/g00681/laws.FnExactNodeSafe", spec := "fnExactNodeSafe", inPlace := ["sync/atomic.LoadUint32", "(*internal/sync.Mutex).Lock", "internal/race.Disable", "sync/atomic.CompareAndSwapInt32", "internal/race.Enable", "internal/race.Acquire", "(*internal/sync.Mutex).lockSlow", "internal/sync.runtime_canSpin", "internal/sync.runtime_doSpin", "internal/sync.throw", "internal/sync.runtime_nanotime", "internal/sync.runtime_SemacquireMutex", "sync/atomic.AddInt32", "(*internal/sync.Mutex).Unlock", "internal/race.ReleaseMerge", "(*internal/sync.Mutex).unlockSlow", "internal/sync.fatal", "internal/sync.runtime_Semrelease", "sync/atomic.StoreUint32"], unfollowed := true, recurses := true, apart := false }
def FnExactNodeSafeSaid : Prop := fnExactNodeSafeRow.holds Try.pinned (OpenSpec.ofChange fnExactNodeSafeSpec)

/-- ITS FALSE NEIGHBOUR: 'it returns false'. Refute it at one input. -/
def fnExactNodeSafeWrong : ChangeSpec := { name := "fnExactNodeSafe", fn := fun _ => fun
  | [d1, d2, d3, d4, d5] => { results := [.lit (.bool false)], args := [d1, d2, d3, d4, d5] }
  | _ => none }
def FnExactNodeSafeWrongFalsely : Prop := fnExactNodeSafeRow.holds Try.pinned (OpenSpec.ofChange fnExactNodeSafeWrong)

/-- 'laws.FnExactWalkAround': WHATEVER THE INPUT: true; the input reads as it did. -/
def fnExactWalkAroundSpec : ChangeSpec := { name := "fnExactWalkAround", fn := fun _ => fun
  | [d1, d2, d3, d4] => { results := [.lit (.bool true)], args := [d1, d2, d3, d4] }
  | _ => none }
def fnExactWalkAroundRow : OpenClaim := { program := "ytnpdbieadjgghaa", sum := "f12e97f3e769e9909f3ed2c9ee807b656f75dd3ee0bd9c78df76bd78cea87ed9", func := "loop.example/g00681/laws.FnExactWalkAround", spec := "fnExactWalkAround", inPlace := ["sync/atomic.LoadUint32", "(*internal/sync.Mutex).Lock", "internal/race.Disable", "sync/atomic.CompareAndSwapInt32", "internal/race.Enable", "internal/race.Acquire", "(*internal/sync.Mutex).lockSlow", "internal/sync.runtime_canSpin", "internal/sync.runtime_doSpin", "internal/sync.throw", "internal/sync.runtime_nanotime", "internal/sync.runtime_SemacquireMutex", "sync/atomic.AddInt32", "(*internal/sync.Mutex).Unlock", "internal/race.ReleaseMerge", "(*internal/sync.Mutex).unlockSlow", "internal/sync.fatal", "internal/sync.runtime_Semrelease", "sync/atomic.StoreUint32"], unfollowed := true, recurses := true, apart := false }
def FnExactWalkAroundSaid : Prop := fnExactWalkAroundRow.holds Try.pinned (OpenSpec.ofChange fnExactWalkAroundSpec)

/-- ITS FALSE NEIGHBOUR: 'it returns false'. Refute it at one input. -/
def fnExactWalkAroundWrong : ChangeSpec := { name := "fnExactWalkAround", fn := fun _ => fun
  | [d1, d2, d3, d4] => { results := [.lit (.bool false)], args := [d1, d2, d3, d4] }
  | _ => none }
def FnExactWalkAroundWrongFalsely : Prop := fnExactWalkAroundRow.holds Try.pinned (OpenSpec.ofChange fnExactWalkAroundWrong)

/-- 'laws.FnExactRemote': WHATEVER THE INPUT: true; the input reads as it did. -/
def fnExactRemoteSpec : ChangeSpec := { name := "fnExactRemote", fn := fun _ => fun
  | [d1, d2, d3, d4] => { results := [.lit (.bool true)], args := [d1, d2, d3, d4] }
  | _ => none }
def fnExactRemoteRow : OpenClaim := { program := "ytnpdbieadjgghaa", sum := "f12e97f3e769e9909f3ed2c9ee807b656f75dd3ee0bd9c78df76bd78cea87ed9", func := "loop.example/g00681/laws.FnExactRemote", spec := "fnExactRemote", inPlace := ["sync/atomic.LoadUint32", "(*internal/sync.Mutex).Lock", "internal/race.Disable", "sync/atomic.CompareAndSwapInt32", "internal/race.Enable", "internal/race.Acquire", "(*internal/sync.Mutex).lockSlow", "internal/sync.runtime_canSpin", "internal/sync.runtime_doSpin", "internal/sync.throw", "internal/sync.runtime_nanotime", "internal/sync.runtime_SemacquireMutex", "sync/atomic.AddInt32", "(*internal/sync.Mutex).Unlock", "internal/race.ReleaseMerge", "(*internal/sync.Mutex).unlockSlow", "internal/sync.fatal", "internal/sync.runtime_Semrelease", "sync/atomic.StoreUint32"], unfollowed := true, recurses := true, apart := false }
def FnExactRemoteSaid : Prop := fnExactRemoteRow.holds Try.pinned (OpenSpec.ofChange fnExactRemoteSpec)

/-- ITS FALSE NEIGHBOUR: 'it returns false'. Refute it at one input. -/
def fnExactRemoteWrong : ChangeSpec := { name := "fnExactRemote", fn := fun _ => fun
  | [d1, d2, d3, d4] => { results := [.lit (.bool false)], args := [d1, d2, d3, d4] }
  | _ => none }
def FnExactRemoteWrongFalsely : Prop := fnExactRemoteRow.holds Try.pinned (OpenSpec.ofChange fnExactRemoteWrong)

/-- 'laws.FnHops': WHATEVER THE INPUT: true; the input reads as it did. -/
def fnHopsSpec : ChangeSpec := { name := "fnHops", fn := fun _ => fun
  | [d] => { results := [.lit (.bool true)], args := [d] }
  | _ => none }
def fnHopsRow : OpenClaim := { program := "ytnpdbieadjgghaa", sum := "f12e97f3e769e9909f3ed2c9ee807b656f75dd3ee0bd9c78df76bd78cea87ed9", func := "loop.example/g00681/laws.FnHops", spec := "fnHops", unfollowed := true, recurses := true, apart := false }
def FnHopsSaid : Prop := fnHopsRow.holds Try.pinned (OpenSpec.ofChange fnHopsSpec)

/-- ITS FALSE NEIGHBOUR: 'it returns false'. Refute it at one input. -/
def fnHopsWrong : ChangeSpec := { name := "fnHops", fn := fun _ => fun
  | [d] => { results := [.lit (.bool false)], args := [d] }
  | _ => none }
def FnHopsWrongFalsely : Prop := fnHopsRow.holds Try.pinned (OpenSpec.ofChange fnHopsWrong)

/-- 'laws.FnCheapest': WHATEVER THE INPUT: true; the input reads as it did. -/
def fnCheapestSpec : ChangeSpec := { name := "fnCheapest", fn := fun _ => fun
  | [d] => { results := [.lit (.bool true)], args := [d] }
  | _ => none }
def fnCheapestRow : OpenClaim := { program := "ytnpdbieadjgghaa", sum := "f12e97f3e769e9909f3ed2c9ee807b656f75dd3ee0bd9c78df76bd78cea87ed9", func := "loop.example/g00681/laws.FnCheapest", spec := "fnCheapest", unfollowed := true, recurses := true, apart := false }
def FnCheapestSaid : Prop := fnCheapestRow.holds Try.pinned (OpenSpec.ofChange fnCheapestSpec)

/-- ITS FALSE NEIGHBOUR: 'it returns false'. Refute it at one input. -/
def fnCheapestWrong : ChangeSpec := { name := "fnCheapest", fn := fun _ => fun
  | [d] => { results := [.lit (.bool false)], args := [d] }
  | _ => none }
def FnCheapestWrongFalsely : Prop := fnCheapestRow.holds Try.pinned (OpenSpec.ofChange fnCheapestWrong)

/-- 'laws.FnShares': WHATEVER THE INPUT: true; the input reads as it did. -/
def fnSharesSpec : ChangeSpec := { name := "fnShares", fn := fun _ => fun
  | [d] => { results := [.lit (.bool true)], args := [d] }
  | _ => none }
def fnSharesRow : OpenClaim := { program := "ytnpdbieadjgghaa", sum := "f12e97f3e769e9909f3ed2c9ee807b656f75dd3ee0bd9c78df76bd78cea87ed9", func := "loop.example/g00681/laws.FnShares", spec := "fnShares", unfollowed := true, recurses := true, apart := false }
def FnSharesSaid : Prop := fnSharesRow.holds Try.pinned (OpenSpec.ofChange fnSharesSpec)

/-- ITS FALSE NEIGHBOUR: 'it returns false'. Refute it at one input. -/
def fnSharesWrong : ChangeSpec := { name := "fnShares", fn := fun _ => fun
  | [d] => { results := [.lit (.bool false)], args := [d] }
  | _ => none }
def FnSharesWrongFalsely : Prop := fnSharesRow.holds Try.pinned (OpenSpec.ofChange fnSharesWrong)

/- THE SECOND FORM. 'bulk': how many values and letters a reading holds, each counted each time it is reached (what is shared counts as often as it is met; a slice's spare places count too). A statement '..UptoSaid' is the law's where the arguments, and the package variables that the reading takes, are together of bulk at most 1048576: NARROWER than '..Said'. Prove '..Said' where nothing that the law and all that it calls make is longer than what came in: it says more and counts as full. Else prove '..UptoSaid'. A law counts once. -/
mutual
def uptoBulk {H : Type} : DataW H → Nat
  | .lit (.string bytes) => bytes.length + 1
  | .lit _ => 1
  | .nil => 1
  | .ptr d => uptoBulk d + 1
  | .slice elems spare => uptoBulkAll elems + uptoBulkAll spare + 1
  | .agg parts => uptoBulkAll parts + 1
  | .iface _ d => uptoBulk d + 1
  | .map entries => uptoBulkEntries entries + 1
  | .held _ => 1
def uptoBulkAll {H : Type} : List (DataW H) → Nat
  | [] => 0
  | d :: r => uptoBulk d + uptoBulkAll r
def uptoBulkEntries {H : Type} : List (Lit × DataW H) → Nat
  | [] => 0
  | x :: r => uptoBulkEntry x + uptoBulkEntries r
def uptoBulkEntry {H : Type} : Lit × DataW H → Nat
  | (.string bytes, d) => bytes.length + uptoBulk d + 1
  | (_, d) => uptoBulk d + 1
 end
def uptoSmall : (H : Type) → List (DataW H) → Bool := fun _ ds => decide (uptoBulkAll ds ≤ 1048576)
def OpenSpec.upto (s : _root_.Go.ChangeSpec) : _root_.Go.OpenSpec := { _root_.Go.OpenSpec.ofChange s with cond := some uptoSmall }

/-- 'laws.FnExactLoopFree', WHERE WHAT IT READS IS OF BULK AT MOST 1048576: true; the input reads as it did. -/
def fnExactLoopFreeUptoRow : OpenClaim := { program := "ytnpdbieadjgghaa", sum := "f12e97f3e769e9909f3ed2c9ee807b656f75dd3ee0bd9c78df76bd78cea87ed9", func := "loop.example/g00681/laws.FnExactLoopFree", spec := "fnExactLoopFree", inPlace := ["sync/atomic.LoadUint32", "(*internal/sync.Mutex).Lock", "internal/race.Disable", "sync/atomic.CompareAndSwapInt32", "internal/race.Enable", "internal/race.Acquire", "(*internal/sync.Mutex).lockSlow", "internal/sync.runtime_canSpin", "internal/sync.runtime_doSpin", "internal/sync.throw", "internal/sync.runtime_nanotime", "internal/sync.runtime_SemacquireMutex", "sync/atomic.AddInt32", "(*internal/sync.Mutex).Unlock", "internal/race.ReleaseMerge", "(*internal/sync.Mutex).unlockSlow", "internal/sync.fatal", "internal/sync.runtime_Semrelease", "sync/atomic.StoreUint32"], unfollowed := true, recurses := true, apart := false, narrowed := true }
def FnExactLoopFreeUptoSaid : Prop := fnExactLoopFreeUptoRow.holds Try.pinned (OpenSpec.upto fnExactLoopFreeSpec)

/-- 'laws.FnExactAlternates', WHERE WHAT IT READS IS OF BULK AT MOST 1048576: true; the input reads as it did. -/
def fnExactAlternatesUptoRow : OpenClaim := { program := "ytnpdbieadjgghaa", sum := "f12e97f3e769e9909f3ed2c9ee807b656f75dd3ee0bd9c78df76bd78cea87ed9", func := "loop.example/g00681/laws.FnExactAlternates", spec := "fnExactAlternates", inPlace := ["sync/atomic.LoadUint32", "(*internal/sync.Mutex).Lock", "internal/race.Disable", "sync/atomic.CompareAndSwapInt32", "internal/race.Enable", "internal/race.Acquire", "(*internal/sync.Mutex).lockSlow", "internal/sync.runtime_canSpin", "internal/sync.runtime_doSpin", "internal/sync.throw", "internal/sync.runtime_nanotime", "internal/sync.runtime_SemacquireMutex", "sync/atomic.AddInt32", "(*internal/sync.Mutex).Unlock", "internal/race.ReleaseMerge", "(*internal/sync.Mutex).unlockSlow", "internal/sync.fatal", "internal/sync.runtime_Semrelease", "sync/atomic.StoreUint32"], unfollowed := true, recurses := true, apart := false, narrowed := true }
def FnExactAlternatesUptoSaid : Prop := fnExactAlternatesUptoRow.holds Try.pinned (OpenSpec.upto fnExactAlternatesSpec)

/-- 'laws.FnExactBestAlternate', WHERE WHAT IT READS IS OF BULK AT MOST 1048576: true; the input reads as it did. -/
def fnExactBestAlternateUptoRow : OpenClaim := { program := "ytnpdbieadjgghaa", sum := "f12e97f3e769e9909f3ed2c9ee807b656f75dd3ee0bd9c78df76bd78cea87ed9", func := "loop.example/g00681/laws.FnExactBestAlternate", spec := "fnExactBestAlternate", inPlace := ["sync/atomic.LoadUint32", "(*internal/sync.Mutex).Lock", "internal/race.Disable", "sync/atomic.CompareAndSwapInt32", "internal/race.Enable", "internal/race.Acquire", "(*internal/sync.Mutex).lockSlow", "internal/sync.runtime_canSpin", "internal/sync.runtime_doSpin", "internal/sync.throw", "internal/sync.runtime_nanotime", "internal/sync.runtime_SemacquireMutex", "sync/atomic.AddInt32", "(*internal/sync.Mutex).Unlock", "internal/race.ReleaseMerge", "(*internal/sync.Mutex).unlockSlow", "internal/sync.fatal", "internal/sync.runtime_Semrelease", "sync/atomic.StoreUint32"], unfollowed := true, recurses := true, apart := false, narrowed := true }
def FnExactBestAlternateUptoSaid : Prop := fnExactBestAlternateUptoRow.holds Try.pinned (OpenSpec.upto fnExactBestAlternateSpec)

/-- 'laws.FnExactNodeSafe', WHERE WHAT IT READS IS OF BULK AT MOST 1048576: true; the input reads as it did. -/
def fnExactNodeSafeUptoRow : OpenClaim := { program := "ytnpdbieadjgghaa", sum := "f12e97f3e769e9909f3ed2c9ee807b656f75dd3ee0bd9c78df76bd78cea87ed9", func := "loop.example/g00681/laws.FnExactNodeSafe", spec := "fnExactNodeSafe", inPlace := ["sync/atomic.LoadUint32", "(*internal/sync.Mutex).Lock", "internal/race.Disable", "sync/atomic.CompareAndSwapInt32", "internal/race.Enable", "internal/race.Acquire", "(*internal/sync.Mutex).lockSlow", "internal/sync.runtime_canSpin", "internal/sync.runtime_doSpin", "internal/sync.throw", "internal/sync.runtime_nanotime", "internal/sync.runtime_SemacquireMutex", "sync/atomic.AddInt32", "(*internal/sync.Mutex).Unlock", "internal/race.ReleaseMerge", "(*internal/sync.Mutex).unlockSlow", "internal/sync.fatal", "internal/sync.runtime_Semrelease", "sync/atomic.StoreUint32"], unfollowed := true, recurses := true, apart := false, narrowed := true }
def FnExactNodeSafeUptoSaid : Prop := fnExactNodeSafeUptoRow.holds Try.pinned (OpenSpec.upto fnExactNodeSafeSpec)

/-- 'laws.FnExactWalkAround', WHERE WHAT IT READS IS OF BULK AT MOST 1048576: true; the input reads as it did. -/
def fnExactWalkAroundUptoRow : OpenClaim := { program := "ytnpdbieadjgghaa", sum := "f12e97f3e769e9909f3ed2c9ee807b656f75dd3ee0bd9c78df76bd78cea87ed9", func := "loop.example/g00681/laws.FnExactWalkAround", spec := "fnExactWalkAround", inPlace := ["sync/atomic.LoadUint32", "(*internal/sync.Mutex).Lock", "internal/race.Disable", "sync/atomic.CompareAndSwapInt32", "internal/race.Enable", "internal/race.Acquire", "(*internal/sync.Mutex).lockSlow", "internal/sync.runtime_canSpin", "internal/sync.runtime_doSpin", "internal/sync.throw", "internal/sync.runtime_nanotime", "internal/sync.runtime_SemacquireMutex", "sync/atomic.AddInt32", "(*internal/sync.Mutex).Unlock", "internal/race.ReleaseMerge", "(*internal/sync.Mutex).unlockSlow", "internal/sync.fatal", "internal/sync.runtime_Semrelease", "sync/atomic.StoreUint32"], unfollowed := true, recurses := true, apart := false, narrowed := true }
def FnExactWalkAroundUptoSaid : Prop := fnExactWalkAroundUptoRow.holds Try.pinned (OpenSpec.upto fnExactWalkAroundSpec)

/-- 'laws.FnExactRemote', WHERE WHAT IT READS IS OF BULK AT MOST 1048576: true; the input reads as it did. -/
def fnExactRemoteUptoRow : OpenClaim := { program := "ytnpdbieadjgghaa", sum := "f12e97f3e769e9909f3ed2c9ee807b656f75dd3ee0bd9c78df76bd78cea87ed9", func := "loop.example/g00681/laws.FnExactRemote", spec := "fnExactRemote", inPlace := ["sync/atomic.LoadUint32", "(*internal/sync.Mutex).Lock", "internal/race.Disable", "sync/atomic.CompareAndSwapInt32", "internal/race.Enable", "internal/race.Acquire", "(*internal/sync.Mutex).lockSlow", "internal/sync.runtime_canSpin", "internal/sync.runtime_doSpin", "internal/sync.throw", "internal/sync.runtime_nanotime", "internal/sync.runtime_SemacquireMutex", "sync/atomic.AddInt32", "(*internal/sync.Mutex).Unlock", "internal/race.ReleaseMerge", "(*internal/sync.Mutex).unlockSlow", "internal/sync.fatal", "internal/sync.runtime_Semrelease", "sync/atomic.StoreUint32"], unfollowed := true, recurses := true, apart := false, narrowed := true }
def FnExactRemoteUptoSaid : Prop := fnExactRemoteUptoRow.holds Try.pinned (OpenSpec.upto fnExactRemoteSpec)

/-- 'laws.FnHops', WHERE WHAT IT READS IS OF BULK AT MOST 1048576: true; the input reads as it did. -/
def fnHopsUptoRow : OpenClaim := { program := "ytnpdbieadjgghaa", sum := "f12e97f3e769e9909f3ed2c9ee807b656f75dd3ee0bd9c78df76bd78cea87ed9", func := "loop.example/g00681/laws.FnHops", spec := "fnHops", unfollowed := true, recurses := true, apart := false, narrowed := true }
def FnHopsUptoSaid : Prop := fnHopsUptoRow.holds Try.pinned (OpenSpec.upto fnHopsSpec)

/-- 'laws.FnCheapest', WHERE WHAT IT READS IS OF BULK AT MOST 1048576: true; the input reads as it did. -/
def fnCheapestUptoRow : OpenClaim := { program := "ytnpdbieadjgghaa", sum := "f12e97f3e769e9909f3ed2c9ee807b656f75dd3ee0bd9c78df76bd78cea87ed9", func := "loop.example/g00681/laws.FnCheapest", spec := "fnCheapest", unfollowed := true, recurses := true, apart := false, narrowed := true }
def FnCheapestUptoSaid : Prop := fnCheapestUptoRow.holds Try.pinned (OpenSpec.upto fnCheapestSpec)

/-- 'laws.FnShares', WHERE WHAT IT READS IS OF BULK AT MOST 1048576: true; the input reads as it did. -/
def fnSharesUptoRow : OpenClaim := { program := "ytnpdbieadjgghaa", sum := "f12e97f3e769e9909f3ed2c9ee807b656f75dd3ee0bd9c78df76bd78cea87ed9", func := "loop.example/g00681/laws.FnShares", spec := "fnShares", unfollowed := true, recurses := true, apart := false, narrowed := true }
def FnSharesUptoSaid : Prop := fnSharesUptoRow.holds Try.pinned (OpenSpec.upto fnSharesSpec)

end Rows
end Go.Proofs.Ytnpdbieadjgghaa
