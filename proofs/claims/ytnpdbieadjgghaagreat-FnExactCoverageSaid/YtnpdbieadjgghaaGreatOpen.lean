/- What an argument of the laws is: a number, a graph, a list of numbers. -/
import Derived.ProofKit
import Derived.Below
import Derived.Carry
import Derived.Test.YtnpdbieadjgghaaGreatRows
import Derived.Test.YtnpdbieadjgghaaGreatGa
namespace Go.Proofs.YtnpdbieadjgghaaGreat
open Go.ChangeShapes Go.WideShapes Go.ChangeAt Go.RowKit Go.Joins
open Go.ChangeShapes Go.WideShapes Go.ChangeAt Go.RowKit

section
variable {H : Type} {enc : TypeId × Value → H} {P : Program}

theorem all_stay (hl : laidOutB P = true) {W W' : World} (hb : Below W.heap.size W W') :
    ∀ (ts : List TypeId) (vs : List Value) (ds : List (DataW H)) (ps : List MemPlace), (∀ t ∈ ts, P.readableRec t = true ∧ t < P.types.size) → (∀ x ∈ ps, x.block < W.heap.size) →
      DataW.TrodAll enc P W 0 (fun _ => true) true ts vs ds ps → DataW.TrodAll enc P W' 0 (fun b => decide (b < W.heap.size)) true ts vs ds ps
  | [], [], [], _, _, _, h => h
  | t :: ts, v :: vs, d :: ds, ps, hr, hlt, ⟨p, q, h1, h2, e⟩ =>
    ⟨p, q, Below.trod hl (hr t List.mem_cons_self).1 (hr t List.mem_cons_self).2 h1 hb (fun x hx => hlt x (by rw [e]; exact List.mem_append_left _ hx)),
      all_stay hl hb ts vs ds q (fun t ht => hr t (List.mem_cons_of_mem _ ht)) (fun x hx => hlt x (by rw [e]; exact List.mem_append_right _ hx)) h2, e⟩
  | [], [], _ :: _, _, _, _, h => h.elim
  | [], _ :: _, _, _, _, _, h => h.elim
  | _ :: _, [], _, _, _, _, h => h.elim
  | _ :: _, _ :: _, [], _, _, _, h => h.elim

/-- What a law's call owes, from: it answers true, and below the heap's old size nothing has turned. -/
theorem law_post {f : Func} {s : ChangeSpec} {W W' : World} {args : Array Value} {ds gs : List (DataW H)} {before : List MemPlace} {t : TypeId}
    (hl : laidOutB P = true) (hr : ∀ u ∈ f.params.toList, P.readableRec u = true ∧ u < P.types.size) (hv : s.vars = []) (hrt : f.resultTypes = #[t]) (hu : P.underlying t = some .bool)
    (hW : DataW.Whole enc P f.params.toList s.vars false W args.toList ds gs before)
    (hfn : s.fn H ds = { results := [.lit (.bool true)], args := ds }) (hb : Below W.heap.size W W') :
    s.post enc P f false true false false W args (.bool true) W' := by
  have hlt : ∀ x ∈ before, x.block < W.heap.size := fun x hx => hW.lt x hx
  have hW0 := hW
  obtain ⟨p, q, hA, hV, e, hz, hn⟩ := hW
  rw [hv] at hV
  obtain ⟨rfl, rfl⟩ := trodVars_none hV
  rw [List.append_nil] at e
  subst e
  refine ⟨ds, [], before, [], before, [], hW0, ?_, ?_, ?_, hb.frame _, fun h => by cases h⟩
  · rw [List.append_nil, hfn, hrt]; exact trodAll_mk1 (shut_bool hu true)
  · rw [List.append_nil, hfn]; exact all_stay hl hb _ _ _ _ hr hlt hA
  · rw [List.append_nil, hfn, hv]; rfl
end

theorem Tryz.own : ownKnob Tryz.prog.godebug = none := by kernel_rfl
theorem Tryz.laidOut : laidOutB Tryz.prog = true := by kernel_rfl
theorem Tryz.cells3 : Tryz.prog.cellsOf 3 = 1 := by kernel_rfl
theorem Tryz.read3 : Tryz.prog.readableRec 3 = true ∧ 3 < Tryz.prog.types.size := ⟨by kernel_rfl, of_decide_eq_true (by kernel_rfl)⟩
set_option maxRecDepth 100000 in
theorem open_num {H : Type} {enc : TypeId × Value → H} {W : World} {v : Value} {d : DataW H} {p : List MemPlace} {r : Reach} {b base : Nat}
    (hv : Value.okWide Tryz.prog W r base 3 v) (h : DataW.Trod enc Tryz.prog W b (fun _ => true) true 3 v d p) :
    ∃ a : Int, v = .int .i64 a ∧ -9223372036854775808 ≤ a ∧ a ≤ 9223372036854775807 := by
  obtain ⟨a, rfl, rfl, rfl, wa⟩ := open_int Tryz.underlying3 hv h
  simp [Lit.wf, show IntKind.i64.min = -9223372036854775808 from rfl] at wa
  exact ⟨a, rfl, by omega, by omega⟩

theorem Tryz.intTy88 : intTy Tryz.prog 3 88 = true := by kernel_rfl
theorem Tryz.cells88 : Tryz.prog.cellsOf 88 = 3 := by kernel_rfl
theorem Tryz.cells24 : Tryz.prog.cellsOf 24 = 2 := by kernel_rfl
theorem Tryz.cells22 : Tryz.prog.cellsOf 22 = 1 := by kernel_rfl
theorem Tryz.read24 : Tryz.prog.readableRec 24 = true ∧ 24 < Tryz.prog.types.size := ⟨by kernel_rfl, of_decide_eq_true (by kernel_rfl)⟩
theorem Tryz.fields24 : ∃ f f', Tryz.prog.underlying 24 = some (.struct #[f, f']) ∧ f.type = 3 ∧ f.offset = 0 ∧ f'.type = 22 ∧ f'.offset = 1 := ⟨_, _, Tryz.underlying24, rfl, rfl, rfl, rfl⟩

set_option maxRecDepth 100000 in
theorem open_Graph {H : Type} {enc : TypeId × Value → H} {W : World} {base : Nat} {v : Value} {d : DataW H} {p : List MemPlace} {r : Reach} {b : Nat}
    (hv : Value.okWide Tryz.prog W r base 24 v) (h : DataW.Trod enc Tryz.prog W b (fun _ => true) true 24 v d p) : ∃ x sv n Z, v = .agg #[.int .i64 x, sv] ∧ I64 x ∧ Arg 3 W sv n Z := by
  obtain ⟨f, f', hu, hft, hfo, hft', hfo'⟩ := Tryz.fields24
  obtain ⟨cs, rfl, hsz⟩ := okWide_struct hu hv
  rw [Tryz.cells24] at hsz
  obtain ⟨fuel, hf⟩ := h
  obtain ⟨xs, n, _, _, hlen, hxs, hfs⟩ := DataW.trod_struct hu hf
  have h0 := hfs 0 f rfl
  have h1 := hfs 1 f' rfl
  rw [hft, hfo, Tryz.cells3] at h0
  rw [hft', hfo', Tryz.cells22] at h1
  obtain ⟨cl⟩ := cs
  match cl, hsz with
  | [c0, c1], _ =>
    have hx : 0 < xs.length := by rw [hxs]; simp
    have hx1 : 1 < xs.length := by rw [hxs]; simp
    rw [List.getElem?_eq_getElem hx] at h0
    rw [List.getElem?_eq_getElem hx1] at h1
    obtain ⟨z, hz, hzz⟩ := trod_ints 1 3 _ _ _ (by kernel_rfl) h0 0 c0 (by simp [Value.cells])
    obtain ⟨sv, n', Z, hcs, hA⟩ := open_islice Tryz.underlying22 Tryz.intTy88 Tryz.cells88 (by decide) h1
    have : c1 = sv := by simpa [Value.cells] using hcs
    subst this hz
    exact ⟨z, c1, n', Z, rfl, hzz, hA⟩

theorem Tryz.intTy3 : intTy Tryz.prog 3 3 = true := by kernel_rfl
theorem Tryz.read38 : Tryz.prog.readableRec 38 = true ∧ 38 < Tryz.prog.types.size := ⟨by kernel_rfl, of_decide_eq_true (by kernel_rfl)⟩
set_option maxRecDepth 100000 in
theorem open_intS {H : Type} {enc : TypeId × Value → H} {W : World} {base : Nat} {v : Value} {d : DataW H} {p : List MemPlace} {r : Reach} {b : Nat}
    (hv : Value.okWide Tryz.prog W r base 38 v) (h : DataW.Trod enc Tryz.prog W b (fun _ => true) true 38 v d p) : ∃ n Z, Arg 1 W v n Z := by
  obtain ⟨a, l, c, rfl⟩ := okWide_slice Tryz.underlying38 hv
  obtain ⟨fuel, hf⟩ := h
  obtain ⟨sv, n', Z, hcs, hA⟩ := open_islice Tryz.underlying38 Tryz.intTy3 Tryz.cells3 (by decide) hf
  have : Value.slice a l c = sv := by simpa [Value.cells] using hcs
  subst this
  exact ⟨n', Z, hA⟩

end Go.Proofs.YtnpdbieadjgghaaGreat
