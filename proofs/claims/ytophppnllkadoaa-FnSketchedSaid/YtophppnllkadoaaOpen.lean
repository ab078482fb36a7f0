/- How the arguments of this seat's laws read. -/
import Derived.Test.YtophppnllkadoaaRows
import Derived.Test.YtophppnllkadoaaLaw
import Derived.Test.YtophppnllkadoaaGa
import Derived.ProofKit
import Derived.Lib.SmallJoins
namespace Go.Proofs.Ytophppnllkadoaa
open Go.ChangeShapes Go.WideShapes Go.ChangeAt Go.RowKit Go.Joins


theorem Try.own : ownKnob Try.prog.godebug = none := by kernel_rfl
theorem Try.laidOut : laidOutB Try.prog = true := by kernel_rfl
theorem Try.cells3 : Try.prog.cellsOf 3 = 1 := by kernel_rfl
theorem Try.read3 : Try.prog.readableRec 3 = true ∧ 3 < Try.prog.types.size := ⟨by kernel_rfl, of_decide_eq_true (by kernel_rfl)⟩
set_option maxRecDepth 100000 in
theorem open_num {H : Type} {enc : TypeId × Value → H} {W : World} {v : Value} {d : DataW H} {p : List MemPlace} {r : Reach} {b base : Nat}
    (hv : Value.okWide Try.prog W r base 3 v) (h : DataW.Trod enc Try.prog W b (fun _ => true) true 3 v d p) :
    ∃ a : Int, v = .int .i64 a ∧ -9223372036854775808 ≤ a ∧ a ≤ 9223372036854775807 := by
  obtain ⟨a, rfl, rfl, rfl, wa⟩ := open_int Try.underlying3 hv h
  simp [Lit.wf, show IntKind.i64.min = -9223372036854775808 from rfl] at wa
  exact ⟨a, rfl, by omega, by omega⟩

theorem Try.intTy109 : intTy Try.prog 3 109 = true := by kernel_rfl
theorem Try.cells109 : Try.prog.cellsOf 109 = 3 := by kernel_rfl
theorem Try.cells61 : Try.prog.cellsOf 61 = 1 := by kernel_rfl
theorem Try.cells59 : Try.prog.cellsOf 59 = 1 := by kernel_rfl
theorem Try.read61 : Try.prog.readableRec 61 = true ∧ 61 < Try.prog.types.size := ⟨by kernel_rfl, of_decide_eq_true (by kernel_rfl)⟩
theorem Try.fields61 : ∃ f, Try.prog.underlying 61 = some (.struct #[f]) ∧ f.type = 59 ∧ f.offset = 0 := ⟨_, Try.underlying61, rfl, rfl⟩

set_option maxRecDepth 100000 in
theorem open_Top {H : Type} {enc : TypeId × Value → H} {W : World} {base : Nat} {v : Value} {d : DataW H} {p : List MemPlace} {r : Reach} {b : Nat}
    (hv : Value.okWide Try.prog W r base 61 v) (h : DataW.Trod enc Try.prog W b (fun _ => true) true 61 v d p) : ∃ sv n Z, v = .agg #[sv] ∧ Arg 3 W sv n Z := by
  obtain ⟨f, hu, hft, hfo⟩ := Try.fields61
  obtain ⟨cs, rfl, hsz⟩ := okWide_struct hu hv
  rw [Try.cells61] at hsz
  obtain ⟨fuel, hf⟩ := h
  obtain ⟨xs, n, _, _, hlen, hxs, hfs⟩ := DataW.trod_struct hu hf
  have h0 := hfs 0 f rfl
  rw [hft, hfo, Try.cells59] at h0
  obtain ⟨cl⟩ := cs
  match cl, hsz with
  | [c0], _ =>
    have hx : 0 < xs.length := by rw [hxs]; simp
    rw [List.getElem?_eq_getElem hx] at h0
    obtain ⟨sv, n', Z, hcs, hA⟩ := open_islice Try.underlying59 Try.intTy109 Try.cells109 (by decide) h0
    have : c0 = sv := by simpa [Value.cells] using hcs
    subst this
    exact ⟨c0, n', Z, rfl, hA⟩

theorem Try.intTy96 : intTy Try.prog 3 96 = true := by kernel_rfl
theorem Try.cells96 : Try.prog.cellsOf 96 = 2 := by kernel_rfl

theorem Try.read69 : Try.prog.readableRec 69 = true ∧ 69 < Try.prog.types.size := ⟨by kernel_rfl, of_decide_eq_true (by kernel_rfl)⟩
set_option maxRecDepth 100000 in
theorem open_AddS {H : Type} {enc : TypeId × Value → H} {W : World} {base : Nat} {v : Value} {d : DataW H} {p : List MemPlace} {r : Reach} {b : Nat}
    (hv : Value.okWide Try.prog W r base 69 v) (h : DataW.Trod enc Try.prog W b (fun _ => true) true 69 v d p) : ∃ n Z, Arg 2 W v n Z := by
  obtain ⟨a, l, c, rfl⟩ := okWide_slice Try.underlying69 hv
  obtain ⟨fuel, hf⟩ := h
  obtain ⟨sv, n', Z, hcs, hA⟩ := open_islice Try.underlying69 Try.intTy96 Try.cells96 (by decide) hf
  have : Value.slice a l c = sv := by simpa [Value.cells] using hcs
  subst this
  exact ⟨n', Z, hA⟩

end Go.Proofs.Ytophppnllkadoaa
