/- What an argument of bytes is. -/
import Derived.ProofKit
import Derived.Below
import Derived.Carry
import Derived.Test.YtjenjdhoblcohaaRows
import Derived.Test.YtjenjdhoblcohaaGa
import Derived.Test.YtjenjdhoblcohaaDr
namespace Go.Proofs.Ytjenjdhoblcohaa
open Go.ChangeShapes Go.WideShapes Go.ChangeAt Go.RowKit Go.Joins
open Go.ChangeShapes Go.WideShapes Go.ChangeAt Go.RowKit

section
variable {H : Type} {enc : TypeId × Value → H} {P : Program}

theorem all_stay (hl : laidOutB P = true) {W W' : World} (hb : Below W.heap.size W W') :
    ∀ (ts : List TypeId) (vs : List Value) (ds : List (DataW H)) (ps : List MemPlace), (∀ t ∈ ts, P.readableRec t = true ∧ t < P.types.size) → (∀ x ∈ ps, x.block < W.heap.size) →
      DataW.TrodAll enc P W 0 (fun _ => true) true ts vs ds ps → DataW.TrodAll enc P W' 0 (fun b => decide (b < W.heap.size)) true ts vs ds ps
  | [], [], [], _, _, _, h => h
  | t :: ts, v :: vs, d :: ds, ps, hr, hlt, ⟨p, q, h1, h2, e⟩ =>
    ⟨p, q, Below.trod hl (hr t List.mem_cons_self).1 (hr t List.mem_cons_self).2 h1 hb (fun x hx => hlt x (by rw [e]; exact List.mem_append_left _ hx)),
      all_stay hl hb ts vs ds q (fun t ht => hr t (List.mem_cons_of_mem _ ht)) (fun x hx => hlt x (by rw [e]; exact List.mem_append_right _ hx)) h2, e⟩
  | [], [], _ :: _, _, _, _, h => h.elim
  | [], _ :: _, _, _, _, _, h => h.elim
  | _ :: _, [], _, _, _, _, h => h.elim
  | _ :: _, _ :: _, [], _, _, _, h => h.elim

/-- What a law's call owes, from: it answers true, and below the heap's old size nothing has turned. -/
theorem law_post {f : Func} {s : ChangeSpec} {W W' : World} {args : Array Value} {ds gs : List (DataW H)} {before : List MemPlace} {t : TypeId}
    (hl : laidOutB P = true) (hr : ∀ u ∈ f.params.toList, P.readableRec u = true ∧ u < P.types.size) (hv : s.vars = []) (hrt : f.resultTypes = #[t]) (hu : P.underlying t = some .bool)
    (hW : DataW.Whole enc P f.params.toList s.vars false W args.toList ds gs before)
    (hfn : s.fn H ds = { results := [.lit (.bool true)], args := ds }) (hb : Below W.heap.size W W') :
    s.post enc P f false true false false W args (.bool true) W' := by
  have hlt : ∀ x ∈ before, x.block < W.heap.size := fun x hx => hW.lt x hx
  have hW0 := hW
  obtain ⟨p, q, hA, hV, e, hz, hn⟩ := hW
  rw [hv] at hV
  obtain ⟨rfl, rfl⟩ := trodVars_none hV
  rw [List.append_nil] at e
  subst e
  refine ⟨ds, [], before, [], before, [], hW0, ?_, ?_, ?_, hb.frame _, fun h => by cases h⟩
  · rw [List.append_nil, hfn, hrt]; exact trodAll_mk1 (shut_bool hu true)
  · rw [List.append_nil, hfn]; exact all_stay hl hb _ _ _ _ hr hlt hA
  · rw [List.append_nil, hfn, hv]; rfl
end

theorem Try.own : ownKnob Try.prog.godebug = none := by kernel_rfl
theorem Try.laidOut : laidOutB Try.prog = true := by kernel_rfl
theorem Try.cells3 : Try.prog.cellsOf 3 = 1 := by kernel_rfl
theorem Try.read3 : Try.prog.readableRec 3 = true ∧ 3 < Try.prog.types.size := ⟨by kernel_rfl, of_decide_eq_true (by kernel_rfl)⟩
set_option maxRecDepth 100000 in
theorem open_num {H : Type} {enc : TypeId × Value → H} {W : World} {v : Value} {d : DataW H} {p : List MemPlace} {r : Reach} {b base : Nat}
    (hv : Value.okWide Try.prog W r base 3 v) (h : DataW.Trod enc Try.prog W b (fun _ => true) true 3 v d p) :
    ∃ a : Int, v = .int .i64 a ∧ -9223372036854775808 ≤ a ∧ a ≤ 9223372036854775807 := by
  obtain ⟨a, rfl, rfl, rfl, wa⟩ := open_int Try.underlying3 hv h
  simp [Lit.wf, show IntKind.i64.min = -9223372036854775808 from rfl] at wa
  exact ⟨a, rfl, by omega, by omega⟩

theorem Try.intTy111 : intTy Try.prog 3 111 = true := by kernel_rfl
theorem Try.cells111 : Try.prog.cellsOf 111 = 3 := by kernel_rfl
theorem Try.cells24 : Try.prog.cellsOf 24 = 2 := by kernel_rfl
theorem Try.cells22 : Try.prog.cellsOf 22 = 1 := by kernel_rfl
theorem Try.read24 : Try.prog.readableRec 24 = true ∧ 24 < Try.prog.types.size := ⟨by kernel_rfl, of_decide_eq_true (by kernel_rfl)⟩
theorem Try.fields24 : ∃ f f', Try.prog.underlying 24 = some (.struct #[f, f']) ∧ f.type = 3 ∧ f.offset = 0 ∧ f'.type = 22 ∧ f'.offset = 1 := ⟨_, _, Try.underlying24, rfl, rfl, rfl, rfl⟩

set_option maxRecDepth 100000 in
theorem open_Graph {H : Type} {enc : TypeId × Value → H} {W : World} {base : Nat} {v : Value} {d : DataW H} {p : List MemPlace} {r : Reach} {b : Nat}
    (hv : Value.okWide Try.prog W r base 24 v) (h : DataW.Trod enc Try.prog W b (fun _ => true) true 24 v d p) : ∃ x sv n Z, v = .agg #[.int .i64 x, sv] ∧ I64 x ∧ Arg 3 W sv n Z := by
  obtain ⟨f, f', hu, hft, hfo, hft', hfo'⟩ := Try.fields24
  obtain ⟨cs, rfl, hsz⟩ := okWide_struct hu hv
  rw [Try.cells24] at hsz
  obtain ⟨fuel, hf⟩ := h
  obtain ⟨xs, n, _, _, hlen, hxs, hfs⟩ := DataW.trod_struct hu hf
  have h0 := hfs 0 f rfl
  have h1 := hfs 1 f' rfl
  rw [hft, hfo, Try.cells3] at h0
  rw [hft', hfo', Try.cells22] at h1
  obtain ⟨cl⟩ := cs
  match cl, hsz with
  | [c0, c1], _ =>
    have hx : 0 < xs.length := by rw [hxs]; simp
    have hx1 : 1 < xs.length := by rw [hxs]; simp
    rw [List.getElem?_eq_getElem hx] at h0
    rw [List.getElem?_eq_getElem hx1] at h1
    obtain ⟨z, hz, hzz⟩ := trod_ints 1 3 _ _ _ (by kernel_rfl) h0 0 c0 (by simp [Value.cells])
    obtain ⟨sv, n', Z, hcs, hA⟩ := open_islice Try.underlying22 Try.intTy111 Try.cells111 (by decide) h1
    have : c1 = sv := by simpa [Value.cells] using hcs
    subst this hz
    exact ⟨z, c1, n', Z, rfl, hzz, hA⟩

theorem Try.intTy3 : intTy Try.prog 3 3 = true := by kernel_rfl
theorem Try.read33 : Try.prog.readableRec 33 = true ∧ 33 < Try.prog.types.size := ⟨by kernel_rfl, of_decide_eq_true (by kernel_rfl)⟩
set_option maxRecDepth 100000 in
theorem open_intS {H : Type} {enc : TypeId × Value → H} {W : World} {base : Nat} {v : Value} {d : DataW H} {p : List MemPlace} {r : Reach} {b : Nat}
    (hv : Value.okWide Try.prog W r base 33 v) (h : DataW.Trod enc Try.prog W b (fun _ => true) true 33 v d p) : ∃ n Z, Arg 1 W v n Z := by
  obtain ⟨a, l, c, rfl⟩ := okWide_slice Try.underlying33 hv
  obtain ⟨fuel, hf⟩ := h
  obtain ⟨sv, n', Z, hcs, hA⟩ := open_islice Try.underlying33 Try.intTy3 Try.cells3 (by decide) hf
  have : Value.slice a l c = sv := by simpa [Value.cells] using hcs
  subst this
  exact ⟨n', Z, hA⟩

theorem Try.cells5 : Try.prog.cellsOf 5 = 1 := by kernel_rfl
theorem Try.read47 : Try.prog.readableRec 47 = true ∧ 47 < Try.prog.types.size := ⟨by kernel_rfl, of_decide_eq_true (by kernel_rfl)⟩
theorem lt_of_shape {w : World} {b : Nat} {x : TypeId × Nat} (h : w.shape? b = some x) : b < w.heap.size := by
  unfold World.shape? at h
  by_cases hb : b < w.heap.size
  · exact hb
  · rw [Array.getElem?_eq_none (by omega)] at h
    cases h
set_option maxRecDepth 100000 in
theorem open_bytes {H : Type} {enc : TypeId × Value → H} {W : World} {base : Nat} {v : Value} {d : DataW H} {p : List MemPlace} {r : Reach} {b : Nat}
    (hv : Value.okWide Try.prog W r base 47 v) (h : DataW.Trod enc Try.prog W b (fun _ => true) true 47 v d p) : ∃ a n c, v = .slice a n c ∧ (n ≤ 1099511627776 → BytesAt W a n) ∧ n ≤ maxLen ∧ ∀ p : Addr, a = some p → p.block < W.heap.size := by
  obtain ⟨a, l, c, rfl⟩ := okWide_slice Try.underlying47 hv
  obtain ⟨fuel, hf⟩ := h
  rcases open_ints Try.underlying47 Try.underlying5 Try.cells5 hf with ⟨e, _⟩ | ⟨a', len, cap, zs, e, hb, hl, hm, hlen, _, hat, hwf⟩
  · have e2 : Value.slice a l c = .slice none 0 0 := by simpa [Value.cells] using e
    cases e2
    exact ⟨none, 0, 0, rfl, fun _ => ⟨by omega, fun h => absurd h (Nat.lt_irrefl _)⟩, Nat.zero_le _, fun p e => by cases e⟩
  · have e2 : Value.slice a l c = .slice (some a') len cap := by simpa [Value.cells] using e
    cases e2
    have hlt : a'.block < W.heap.size ∧ a'.spot = none := by
      simp only [Value.okWide, Try.underlying47, Cell.okWide, Cell.ok] at hv
      obtain ⟨_, _, _, hs, row, cells, hsh, _⟩ := hv
      exact ⟨lt_of_shape hsh, hs⟩
    refine ⟨some a', l, c, rfl, fun hn => ⟨hn, fun h0 => ?_⟩, by omega, fun p e => by cases e; exact hlt.1⟩
    obtain ⟨b, off, spot⟩ := a'
    obtain ⟨hb1, hb2⟩ := hlt
    simp only at hb2
    subst hb2
    refine ⟨b, off, rfl, hb1, fun q hq => ?_⟩
    have hz : q < zs.length := by rw [hlen]; simp; omega
    have h1 := hat q hz
    have h2 := hwf (zs.getD q 0) (by rw [List.getD_eq_getElem?_getD, List.getElem?_eq_getElem hz]; exact List.getElem_mem hz)
    have e3 : (⟨b, off, none⟩ : Addr).add q = ⟨b, off + q, none⟩ := by unfold Addr.add; split <;> simp_all
    rw [e3] at h1
    generalize zs.getD q 0 = z at h1 h2
    refine ⟨z, h1, ?_⟩
    simp [Lit.wf, show IntKind.u8.min = 0 from rfl, show IntKind.u8.max = 255 from rfl] at h2
    omega

end Go.Proofs.Ytjenjdhoblcohaa
