/- How the arguments of this seat's laws read. -/
import Derived.Test.YtcchoiobdcaboaaRows
import Derived.Test.YtcchoiobdcaboaaLaw
import Derived.Test.YtcchoiobdcaboaaGh
import Derived.ProofKit
import Derived.Lib.SmallJoins
namespace Go.Proofs.Ytcchoiobdcaboaa
open Go.ChangeShapes Go.WideShapes Go.ChangeAt Go.RowKit Go.Joins


theorem Try.own : ownKnob Try.prog.godebug = none := by kernel_rfl
theorem Try.laidOut : laidOutB Try.prog = true := by kernel_rfl
theorem Try.cells3 : Try.prog.cellsOf 3 = 1 := by kernel_rfl
theorem Try.read3 : Try.prog.readableRec 3 = true ∧ 3 < Try.prog.types.size := ⟨by kernel_rfl, of_decide_eq_true (by kernel_rfl)⟩
set_option maxRecDepth 100000 in
theorem open_num {H : Type} {enc : TypeId × Value → H} {W : World} {v : Value} {d : DataW H} {p : List MemPlace} {r : Reach} {b base : Nat}
    (hv : Value.okWide Try.prog W r base 3 v) (h : DataW.Trod enc Try.prog W b (fun _ => true) true 3 v d p) :
    ∃ a : Int, v = .int .i64 a ∧ -9223372036854775808 ≤ a ∧ a ≤ 9223372036854775807 := by
  obtain ⟨a, rfl, rfl, rfl, wa⟩ := open_int Try.underlying3 hv h
  simp [Lit.wf, show IntKind.i64.min = -9223372036854775808 from rfl] at wa
  exact ⟨a, rfl, by omega, by omega⟩

theorem Try.cells24 : Try.prog.cellsOf 24 = 1 := by kernel_rfl
theorem Try.intTyI3 : intTy Try.prog 3 3 = true := by kernel_rfl
theorem Try.read24 : Try.prog.readableRec 24 = true ∧ 24 < Try.prog.types.size := ⟨by kernel_rfl, of_decide_eq_true (by kernel_rfl)⟩
theorem trod_intsS {H : Type} {enc : TypeId × Value → H} {W : World} {sp : Nat → Bool} {held : Bool} {b fuel : Nat} {cs : List Value} {x : DataW H × List MemPlace}
    (hf : DataW.trod enc Try.prog W b sp held fuel 24 cs = some x) : ∃ (l : List Int) (u : Value), cs = [u] ∧ TArg W u l := by
  obtain ⟨sv, n', Z, hcs, hA⟩ := open_islice Try.underlying24 Try.intTyI3 Try.cells3 (by decide) hf
  refine ⟨(List.range n').map Z, sv, hcs, Z, ?_, ?_⟩
  · rw [List.length_map, List.length_range]; exact hA
  · rw [List.length_map, List.length_range, Nat.mul_one]
set_option maxRecDepth 100000 in
theorem open_Ints {H : Type} {enc : TypeId × Value → H} {W : World} {base : Nat} {v : Value} {d : DataW H} {p : List MemPlace} {r : Reach} {b : Nat}
    (hv : Value.okWide Try.prog W r base 24 v) (h : DataW.Trod enc Try.prog W b (fun _ => true) true 24 v d p) : ∃ D, TArg W v D := by
  obtain ⟨a, l, c, rfl⟩ := okWide_slice Try.underlying24 hv
  obtain ⟨fuel, hf⟩ := h
  obtain ⟨D, sv, hcs, hA⟩ := trod_intsS hf
  have : Value.slice a l c = sv := by simpa [Value.cells] using hcs
  subst this
  exact ⟨D, hA⟩
theorem Try.cells39 : Try.prog.cellsOf 39 = 2 := by kernel_rfl
theorem Try.read39 : Try.prog.readableRec 39 = true ∧ 39 < Try.prog.types.size := ⟨by kernel_rfl, of_decide_eq_true (by kernel_rfl)⟩
theorem Try.fields39 : ∃ f f', Try.prog.underlying 39 = some (.struct #[f, f']) ∧ f.type = 24 ∧ f.offset = 0 ∧ f'.type = 3 ∧ f'.offset = 1 := ⟨_, _, Try.underlying39, rfl, rfl, rfl, rfl⟩
set_option maxRecDepth 100000 in
theorem open_Hist {H : Type} {enc : TypeId × Value → H} {W : World} {base : Nat} {v : Value} {d : DataW H} {p : List MemPlace} {r : Reach} {b : Nat}
    (hv : Value.okWide Try.prog W r base 39 v) (h : DataW.Trod enc Try.prog W b (fun _ => true) true 39 v d p) : ∃ sv x D, v = .agg #[sv, .int .i64 x] ∧ TArg W sv D ∧ I64 x := by
  obtain ⟨f, f', hu, hft, hfo, hft', hfo'⟩ := Try.fields39
  obtain ⟨cs, rfl, hsz⟩ := okWide_struct hu hv
  rw [Try.cells39] at hsz
  obtain ⟨fuel, hf⟩ := h
  obtain ⟨xs, n, _, _, hlen, hxs, hfs⟩ := DataW.trod_struct hu hf
  have h0 := hfs 0 f rfl
  have h1 := hfs 1 f' rfl
  rw [hft, hfo, Try.cells24] at h0
  rw [hft', hfo', Try.cells3] at h1
  obtain ⟨cl⟩ := cs
  match cl, hsz with
  | [c0, c1], _ =>
    have hx : 0 < xs.length := by rw [hxs]; simp
    have hx1 : 1 < xs.length := by rw [hxs]; simp
    rw [List.getElem?_eq_getElem hx] at h0
    rw [List.getElem?_eq_getElem hx1] at h1
    obtain ⟨z, hz, hzz⟩ := trod_ints 1 3 _ _ _ (by kernel_rfl) h1 0 c1 (by simp [Value.cells])
    obtain ⟨D, sv, hcs, hA⟩ := trod_intsS h0
    have : c0 = sv := by simpa [Value.cells] using hcs
    subst this hz
    exact ⟨c0, z, D, rfl, hA, hzz⟩

end Go.Proofs.Ytcchoiobdcaboaa
