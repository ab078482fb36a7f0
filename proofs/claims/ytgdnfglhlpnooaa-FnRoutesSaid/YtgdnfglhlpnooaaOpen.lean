/- How the arguments of this seat's laws read. -/
import Derived.Test.YtgdnfglhlpnooaaRows
import Derived.Test.YtgdnfglhlpnooaaLaw
import Derived.Test.YtgdnfglhlpnooaaGa
import Derived.ProofKit
import Derived.Lib.SmallJoins
namespace Go.Proofs.Ytgdnfglhlpnooaa
open Go.ChangeShapes Go.WideShapes Go.ChangeAt Go.RowKit Go.Joins


theorem Try.own : ownKnob Try.prog.godebug = none := by kernel_rfl
theorem Try.laidOut : laidOutB Try.prog = true := by kernel_rfl
theorem Try.cells3 : Try.prog.cellsOf 3 = 1 := by kernel_rfl
theorem Try.read3 : Try.prog.readableRec 3 = true ∧ 3 < Try.prog.types.size := ⟨by kernel_rfl, of_decide_eq_true (by kernel_rfl)⟩
set_option maxRecDepth 100000 in
theorem open_num {H : Type} {enc : TypeId × Value → H} {W : World} {v : Value} {d : DataW H} {p : List MemPlace} {r : Reach} {b base : Nat}
    (hv : Value.okWide Try.prog W r base 3 v) (h : DataW.Trod enc Try.prog W b (fun _ => true) true 3 v d p) :
    ∃ a : Int, v = .int .i64 a ∧ -9223372036854775808 ≤ a ∧ a ≤ 9223372036854775807 := by
  obtain ⟨a, rfl, rfl, rfl, wa⟩ := open_int Try.underlying3 hv h
  simp [Lit.wf, show IntKind.i64.min = -9223372036854775808 from rfl] at wa
  exact ⟨a, rfl, by omega, by omega⟩

theorem Try.intTy40 : intTy Try.prog 3 40 = true := by kernel_rfl
theorem Try.cells40 : Try.prog.cellsOf 40 = 3 := by kernel_rfl
theorem Try.cells24 : Try.prog.cellsOf 24 = 1 := by kernel_rfl
theorem Try.cells22 : Try.prog.cellsOf 22 = 1 := by kernel_rfl
theorem Try.read24 : Try.prog.readableRec 24 = true ∧ 24 < Try.prog.types.size := ⟨by kernel_rfl, of_decide_eq_true (by kernel_rfl)⟩
theorem Try.fields24 : ∃ f, Try.prog.underlying 24 = some (.struct #[f]) ∧ f.type = 22 ∧ f.offset = 0 := ⟨_, Try.underlying24, rfl, rfl⟩

set_option maxRecDepth 100000 in
theorem open_Table {H : Type} {enc : TypeId × Value → H} {W : World} {base : Nat} {v : Value} {d : DataW H} {p : List MemPlace} {r : Reach} {b : Nat}
    (hv : Value.okWide Try.prog W r base 24 v) (h : DataW.Trod enc Try.prog W b (fun _ => true) true 24 v d p) : ∃ sv n Z, v = .agg #[sv] ∧ Arg 3 W sv n Z := by
  obtain ⟨f, hu, hft, hfo⟩ := Try.fields24
  obtain ⟨cs, rfl, hsz⟩ := okWide_struct hu hv
  rw [Try.cells24] at hsz
  obtain ⟨fuel, hf⟩ := h
  obtain ⟨xs, n, _, _, hlen, hxs, hfs⟩ := DataW.trod_struct hu hf
  have h0 := hfs 0 f rfl
  rw [hft, hfo, Try.cells22] at h0
  obtain ⟨cl⟩ := cs
  match cl, hsz with
  | [c0], _ =>
    have hx : 0 < xs.length := by rw [hxs]; simp
    rw [List.getElem?_eq_getElem hx] at h0
    obtain ⟨sv, n', Z, hcs, hA⟩ := open_islice Try.underlying22 Try.intTy40 Try.cells40 (by decide) h0
    have : c0 = sv := by simpa [Value.cells] using hcs
    subst this
    exact ⟨c0, n', Z, rfl, hA⟩

theorem Try.read40 : Try.prog.readableRec 40 = true ∧ 40 < Try.prog.types.size := ⟨by kernel_rfl, of_decide_eq_true (by kernel_rfl)⟩
set_option maxRecDepth 100000 in
theorem open_Route {H : Type} {enc : TypeId × Value → H} {W : World} {base : Nat} {v : Value} {d : DataW H} {p : List MemPlace} {r : Reach} {b : Nat}
    (hv : Value.okWide Try.prog W r base 40 v) (h : DataW.Trod enc Try.prog W b (fun _ => true) true 40 v d p) : ∃ z0 z1 z2 : Int, v = .agg #[.int .i64 z0, .int .i64 z1, .int .i64 z2] ∧ I64 z0 ∧ I64 z1 ∧ I64 z2 := by
  obtain ⟨cs, rfl, hsz, hc⟩ := open_istruct Try.underlying40 Try.intTy40 hv h
  rw [Try.cells40] at hsz
  obtain ⟨cl⟩ := cs
  match cl, hsz with
  | [c0, c1, c2], _ =>
    obtain ⟨z0, rfl, i0⟩ := hc 0 c0 rfl
    obtain ⟨z1, rfl, i1⟩ := hc 1 c1 rfl
    obtain ⟨z2, rfl, i2⟩ := hc 2 c2 rfl
    exact ⟨z0, z1, z2, rfl, i0, i1, i2⟩

theorem Try.intTy26 : intTy Try.prog 3 26 = true := by kernel_rfl
theorem Try.cells26 : Try.prog.cellsOf 26 = 2 := by kernel_rfl

theorem Try.read26 : Try.prog.readableRec 26 = true ∧ 26 < Try.prog.types.size := ⟨by kernel_rfl, of_decide_eq_true (by kernel_rfl)⟩
set_option maxRecDepth 100000 in
theorem open_Prefix {H : Type} {enc : TypeId × Value → H} {W : World} {base : Nat} {v : Value} {d : DataW H} {p : List MemPlace} {r : Reach} {b : Nat}
    (hv : Value.okWide Try.prog W r base 26 v) (h : DataW.Trod enc Try.prog W b (fun _ => true) true 26 v d p) : ∃ z0 z1 : Int, v = .agg #[.int .i64 z0, .int .i64 z1] ∧ I64 z0 ∧ I64 z1 := by
  obtain ⟨cs, rfl, hsz, hc⟩ := open_istruct Try.underlying26 Try.intTy26 hv h
  rw [Try.cells26] at hsz
  obtain ⟨cl⟩ := cs
  match cl, hsz with
  | [c0, c1], _ =>
    obtain ⟨z0, rfl, i0⟩ := hc 0 c0 rfl
    obtain ⟨z1, rfl, i1⟩ := hc 1 c1 rfl
    exact ⟨z0, z1, rfl, i0, i1⟩

end Go.Proofs.Ytgdnfglhlpnooaa
