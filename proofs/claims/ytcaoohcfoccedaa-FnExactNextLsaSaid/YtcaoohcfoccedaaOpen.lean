/- What an argument of the laws is. -/
import Derived.Test.YtcaoohcfoccedaaRows
import Derived.Test.YtcaoohcfoccedaaGz
import Derived.Test.YtcaoohcfoccedaaLaw
namespace Go.Proofs.Ytcaoohcfoccedaa
open Go.ChangeShapes Go.WideShapes Go.ChangeAt Go.RowKit Go.Joins


theorem Try.own : ownKnob Try.prog.godebug = none := by kernel_rfl
theorem Try.laidOut : laidOutB Try.prog = true := by kernel_rfl
theorem Try.cells3 : Try.prog.cellsOf 3 = 1 := by kernel_rfl
theorem Try.read3 : Try.prog.readableRec 3 = true ∧ 3 < Try.prog.types.size := ⟨by kernel_rfl, of_decide_eq_true (by kernel_rfl)⟩
set_option maxRecDepth 100000 in
theorem open_num {H : Type} {enc : TypeId × Value → H} {W : World} {v : Value} {d : DataW H} {p : List MemPlace} {r : Reach} {b base : Nat}
    (hv : Value.okWide Try.prog W r base 3 v) (h : DataW.Trod enc Try.prog W b (fun _ => true) true 3 v d p) :
    ∃ a : Int, v = .int .i64 a ∧ -9223372036854775808 ≤ a ∧ a ≤ 9223372036854775807 := by
  obtain ⟨a, rfl, rfl, rfl, wa⟩ := open_int Try.underlying3 hv h
  simp [Lit.wf, show IntKind.i64.min = -9223372036854775808 from rfl] at wa
  exact ⟨a, rfl, by omega, by omega⟩

theorem Try.intTy79 : intTy Try.prog 3 79 = true := by kernel_rfl
theorem Try.cells79 : Try.prog.cellsOf 79 = 2 := by kernel_rfl

theorem Try.intTy83 : intTy Try.prog 3 83 = true := by kernel_rfl
theorem Try.cells83 : Try.prog.cellsOf 83 = 3 := by kernel_rfl

theorem Try.cells25 : Try.prog.cellsOf 25 = 5 := by kernel_rfl
theorem Try.read25 : Try.prog.readableRec 25 = true ∧ 25 < Try.prog.types.size := ⟨by kernel_rfl, of_decide_eq_true (by kernel_rfl)⟩

theorem Try.cells22 : Try.prog.cellsOf 22 = 1 := by kernel_rfl
theorem Try.read22 : Try.prog.readableRec 22 = true ∧ 22 < Try.prog.types.size := ⟨by kernel_rfl, of_decide_eq_true (by kernel_rfl)⟩

theorem Try.cells23 : Try.prog.cellsOf 23 = 1 := by kernel_rfl
theorem Try.read23 : Try.prog.readableRec 23 = true ∧ 23 < Try.prog.types.size := ⟨by kernel_rfl, of_decide_eq_true (by kernel_rfl)⟩

theorem Try.fields25 : ∃ f0 f1 f2 f3 f4, Try.prog.underlying 25 = some (.struct #[f0, f1, f2, f3, f4]) ∧ (f0.type = 3 ∧ f0.offset = 0) ∧ (f1.type = 3 ∧ f1.offset = 1) ∧ (f2.type = 3 ∧ f2.offset = 2) ∧ (f3.type = 22 ∧ f3.offset = 3) ∧ (f4.type = 23 ∧ f4.offset = 4) := ⟨_, _, _, _, _, Try.underlying25, ⟨rfl, rfl⟩, ⟨rfl, rfl⟩, ⟨rfl, rfl⟩, ⟨rfl, rfl⟩, ⟨rfl, rfl⟩⟩

set_option maxRecDepth 100000 in
theorem open_Lsa {H : Type} {enc : TypeId × Value → H} {W : World} {base : Nat} {v : Value} {d : DataW H} {p : List MemPlace} {r : Reach} {b : Nat}
    (hv : Value.okWide Try.prog W r base 25 v) (h : DataW.Trod enc Try.prog W b (fun _ => true) true 25 v d p) : ∃ o s g u x n m Y Z, v = .agg #[.int .i64 o, .int .i64 s, .int .i64 g, u, x] ∧ I64 o ∧ I64 s ∧ I64 g ∧ LArg W u x n m Y Z := by
  obtain ⟨f0, f1, f2, f3, f4, hu, ⟨t0, o0⟩, ⟨t1, o1⟩, ⟨t2, o2⟩, ⟨t3, o3⟩, ⟨t4, o4⟩⟩ := Try.fields25
  obtain ⟨cs, rfl, hsz⟩ := okWide_struct hu hv
  rw [Try.cells25] at hsz
  obtain ⟨fuel, hf⟩ := h
  obtain ⟨xs, n, _, _, hlen, hxs, hfs⟩ := DataW.trod_struct hu hf
  have h0 := hfs 0 f0 rfl
  have h1 := hfs 1 f1 rfl
  have h2 := hfs 2 f2 rfl
  have h3 := hfs 3 f3 rfl
  have h4 := hfs 4 f4 rfl
  rw [t0, o0, Try.cells3] at h0
  rw [t1, o1, Try.cells3] at h1
  rw [t2, o2, Try.cells3] at h2
  rw [t3, o3, Try.cells22] at h3
  rw [t4, o4, Try.cells23] at h4
  obtain ⟨cl⟩ := cs
  match cl, hsz with
  | [c0, c1, c2, c3, c4], _ =>
    have hx : xs.length = 5 := by rw [hxs]; simp
    rw [List.getElem?_eq_getElem (by omega)] at h0
    rw [List.getElem?_eq_getElem (by omega)] at h1
    rw [List.getElem?_eq_getElem (by omega)] at h2
    rw [List.getElem?_eq_getElem (by omega)] at h3
    rw [List.getElem?_eq_getElem (by omega)] at h4
    obtain ⟨z0, e0, i0⟩ := trod_ints 1 3 _ _ _ (by kernel_rfl) h0 0 c0 (by simp [Value.cells])
    obtain ⟨z1, e1, i1⟩ := trod_ints 1 3 _ _ _ (by kernel_rfl) h1 0 c1 (by simp [Value.cells])
    obtain ⟨z2, e2, i2⟩ := trod_ints 1 3 _ _ _ (by kernel_rfl) h2 0 c2 (by simp [Value.cells])
    obtain ⟨sv, n', Y, hcs, hA⟩ := open_islice Try.underlying22 Try.intTy79 Try.cells79 (by decide) h3
    obtain ⟨sw, m', Z, hcs', hA'⟩ := open_islice Try.underlying23 Try.intTy83 Try.cells83 (by decide) h4
    have : c3 = sv := by simpa [Value.cells] using hcs
    have : c4 = sw := by simpa [Value.cells] using hcs'
    subst c3 c4 e0 e1 e2
    exact ⟨z0, z1, z2, sv, sw, n', m', Y, Z, rfl, i0, i1, i2, hA, hA'⟩

set_option maxRecDepth 100000 in
theorem open_LinkS {H : Type} {enc : TypeId × Value → H} {W : World} {base : Nat} {v : Value} {d : DataW H} {p : List MemPlace} {r : Reach} {b : Nat}
    (hv : Value.okWide Try.prog W r base 22 v) (h : DataW.Trod enc Try.prog W b (fun _ => true) true 22 v d p) : ∃ n Z, Arg 2 W v n Z := by
  obtain ⟨a, l, c, rfl⟩ := okWide_slice Try.underlying22 hv
  obtain ⟨fuel, hf⟩ := h
  obtain ⟨sv, n', Z, hcs, hA⟩ := open_islice Try.underlying22 Try.intTy79 Try.cells79 (by decide) hf
  have : Value.slice a l c = sv := by simpa [Value.cells] using hcs
  subst this
  exact ⟨n', Z, hA⟩

set_option maxRecDepth 100000 in
theorem open_StubS {H : Type} {enc : TypeId × Value → H} {W : World} {base : Nat} {v : Value} {d : DataW H} {p : List MemPlace} {r : Reach} {b : Nat}
    (hv : Value.okWide Try.prog W r base 23 v) (h : DataW.Trod enc Try.prog W b (fun _ => true) true 23 v d p) : ∃ n Z, Arg 3 W v n Z := by
  obtain ⟨a, l, c, rfl⟩ := okWide_slice Try.underlying23 hv
  obtain ⟨fuel, hf⟩ := h
  obtain ⟨sv, n', Z, hcs, hA⟩ := open_islice Try.underlying23 Try.intTy83 Try.cells83 (by decide) hf
  have : Value.slice a l c = sv := by simpa [Value.cells] using hcs
  subst this
  exact ⟨n', Z, hA⟩

end Go.Proofs.Ytcaoohcfoccedaa
