/- How the arguments of this seat's laws read. -/
import Derived.Test.YtadanckhmjgphaaRows
import Derived.Test.YtadanckhmjgphaaLaw
import Derived.Test.YtadanckhmjgphaaGa
import Derived.ProofKit
import Derived.Lib.SmallJoins
namespace Go.Proofs.Ytadanckhmjgphaa
open Go.ChangeShapes Go.WideShapes Go.ChangeAt Go.RowKit Go.Joins


theorem Try.own : ownKnob Try.prog.godebug = none := by kernel_rfl
theorem Try.laidOut : laidOutB Try.prog = true := by kernel_rfl
theorem Try.cells3 : Try.prog.cellsOf 3 = 1 := by kernel_rfl
theorem Try.read3 : Try.prog.readableRec 3 = true ∧ 3 < Try.prog.types.size := ⟨by kernel_rfl, of_decide_eq_true (by kernel_rfl)⟩
set_option maxRecDepth 100000 in
theorem open_num {H : Type} {enc : TypeId × Value → H} {W : World} {v : Value} {d : DataW H} {p : List MemPlace} {r : Reach} {b base : Nat}
    (hv : Value.okWide Try.prog W r base 3 v) (h : DataW.Trod enc Try.prog W b (fun _ => true) true 3 v d p) :
    ∃ a : Int, v = .int .i64 a ∧ -9223372036854775808 ≤ a ∧ a ≤ 9223372036854775807 := by
  obtain ⟨a, rfl, rfl, rfl, wa⟩ := open_int Try.underlying3 hv h
  simp [Lit.wf, show IntKind.i64.min = -9223372036854775808 from rfl] at wa
  exact ⟨a, rfl, by omega, by omega⟩

theorem Try.intTy43 : intTy Try.prog 3 43 = true := by kernel_rfl
theorem Try.cells43 : Try.prog.cellsOf 43 = 3 := by kernel_rfl

theorem Try.read38 : Try.prog.readableRec 38 = true ∧ 38 < Try.prog.types.size := ⟨by kernel_rfl, of_decide_eq_true (by kernel_rfl)⟩
set_option maxRecDepth 100000 in
theorem open_SampleS {H : Type} {enc : TypeId × Value → H} {W : World} {base : Nat} {v : Value} {d : DataW H} {p : List MemPlace} {r : Reach} {b : Nat}
    (hv : Value.okWide Try.prog W r base 38 v) (h : DataW.Trod enc Try.prog W b (fun _ => true) true 38 v d p) : ∃ n Z, Arg 3 W v n Z := by
  obtain ⟨a, l, c, rfl⟩ := okWide_slice Try.underlying38 hv
  obtain ⟨fuel, hf⟩ := h
  obtain ⟨sv, n', Z, hcs, hA⟩ := open_islice Try.underlying38 Try.intTy43 Try.cells43 (by decide) hf
  have : Value.slice a l c = sv := by simpa [Value.cells] using hcs
  subst this
  exact ⟨n', Z, hA⟩

theorem Try.read43 : Try.prog.readableRec 43 = true ∧ 43 < Try.prog.types.size := ⟨by kernel_rfl, of_decide_eq_true (by kernel_rfl)⟩
set_option maxRecDepth 100000 in
theorem open_Sample {H : Type} {enc : TypeId × Value → H} {W : World} {base : Nat} {v : Value} {d : DataW H} {p : List MemPlace} {r : Reach} {b : Nat}
    (hv : Value.okWide Try.prog W r base 43 v) (h : DataW.Trod enc Try.prog W b (fun _ => true) true 43 v d p) : ∃ z0 z1 z2 : Int, v = .agg #[.int .i64 z0, .int .i64 z1, .int .i64 z2] ∧ I64 z0 ∧ I64 z1 ∧ I64 z2 := by
  obtain ⟨cs, rfl, hsz, hc⟩ := open_istruct Try.underlying43 Try.intTy43 hv h
  rw [Try.cells43] at hsz
  obtain ⟨cl⟩ := cs
  match cl, hsz with
  | [c0, c1, c2], _ =>
    obtain ⟨z0, rfl, i0⟩ := hc 0 c0 rfl
    obtain ⟨z1, rfl, i1⟩ := hc 1 c1 rfl
    obtain ⟨z2, rfl, i2⟩ := hc 2 c2 rfl
    exact ⟨z0, z1, z2, rfl, i0, i1, i2⟩

end Go.Proofs.Ytadanckhmjgphaa
