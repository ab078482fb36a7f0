/- How the arguments of this seat's laws read. -/
import Derived.Test.YtnaifkmganngfaaRows
import Derived.Test.YtnaifkmganngfaaLaw
import Derived.Test.YtnaifkmganngfaaGa
import Derived.ProofKit
import Derived.Lib.SmallJoins
namespace Go.Proofs.Ytnaifkmganngfaa
open Go.ChangeShapes Go.WideShapes Go.ChangeAt Go.RowKit Go.Joins


theorem Try.own : ownKnob Try.prog.godebug = none := by kernel_rfl
theorem Try.laidOut : laidOutB Try.prog = true := by kernel_rfl
theorem Try.cells3 : Try.prog.cellsOf 3 = 1 := by kernel_rfl
theorem Try.read3 : Try.prog.readableRec 3 = true ∧ 3 < Try.prog.types.size := ⟨by kernel_rfl, of_decide_eq_true (by kernel_rfl)⟩
set_option maxRecDepth 100000 in
theorem open_num {H : Type} {enc : TypeId × Value → H} {W : World} {v : Value} {d : DataW H} {p : List MemPlace} {r : Reach} {b base : Nat}
    (hv : Value.okWide Try.prog W r base 3 v) (h : DataW.Trod enc Try.prog W b (fun _ => true) true 3 v d p) :
    ∃ a : Int, v = .int .i64 a ∧ -9223372036854775808 ≤ a ∧ a ≤ 9223372036854775807 := by
  obtain ⟨a, rfl, rfl, rfl, wa⟩ := open_int Try.underlying3 hv h
  simp [Lit.wf, show IntKind.i64.min = -9223372036854775808 from rfl] at wa
  exact ⟨a, rfl, by omega, by omega⟩


theorem Try.intTy90 : intTy Try.prog 3 90 = true := by kernel_rfl
theorem Try.cells90 : Try.prog.cellsOf 90 = 5 := by kernel_rfl

theorem Try.read78 : Try.prog.readableRec 78 = true ∧ 78 < Try.prog.types.size := ⟨by kernel_rfl, of_decide_eq_true (by kernel_rfl)⟩
set_option maxRecDepth 100000 in
theorem open_RowS {H : Type} {enc : TypeId × Value → H} {W : World} {base : Nat} {v : Value} {d : DataW H} {p : List MemPlace} {r : Reach} {b : Nat}
    (hv : Value.okWide Try.prog W r base 78 v) (h : DataW.Trod enc Try.prog W b (fun _ => true) true 78 v d p) : ∃ n Z, Arg 5 W v n Z := by
  obtain ⟨a, l, c, rfl⟩ := okWide_slice Try.underlying78 hv
  obtain ⟨fuel, hf⟩ := h
  obtain ⟨sv, n', Z, hcs, hA⟩ := open_islice Try.underlying78 Try.intTy90 Try.cells90 (by decide) hf
  have : Value.slice a l c = sv := by simpa [Value.cells] using hcs
  subst this
  exact ⟨n', Z, hA⟩

end Go.Proofs.Ytnaifkmganngfaa
