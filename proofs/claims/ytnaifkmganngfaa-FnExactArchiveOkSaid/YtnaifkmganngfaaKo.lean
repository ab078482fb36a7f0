/- How an archive reads. -/
import Derived.Test.YtnaifkmganngfaaOpen
import Derived.Test.YtnaifkmganngfaaKa
namespace Go.Proofs.Ytnaifkmganngfaa
open Go.ChangeShapes Go.WideShapes Go.ChangeAt Go.RowKit Go.Joins


theorem Try.cells78 : Try.prog.cellsOf 78 = 1 := by kernel_rfl
theorem Try.cells36 : Try.prog.cellsOf 36 = 1 := by kernel_rfl
theorem trod_rows {H : Type} {enc : TypeId × Value → H} {W : World} {sp : Nat → Bool} {held : Bool} {b fuel : Nat} {cs : List Value} {x : DataW H × List MemPlace}
    (hf : DataW.trod enc Try.prog W b sp held fuel 78 cs = some x) : ∃ (l : List Rw) (u : Value), cs = [u] ∧ RArg W u l := by
  obtain ⟨sv, n', Z, hcs, hA⟩ := open_islice Try.underlying78 Try.intTy90 Try.cells90 (by decide) hf
  refine ⟨rws Z n', sv, hcs, Z, ?_, ?_⟩
  · rw [rws_len]; exact hA
  · rw [rws_len, flat_rws]
theorem choose2 {α β : Type} [Inhabited α] [Inhabited β] {n : Nat} {p : Nat → α → β → Prop} (h : ∀ i, i < n → ∃ a b, p i a b) : ∃ (f : Nat → α) (g : Nat → β), ∀ i, i < n → p i (f i) (g i) := by
  have h' : ∀ i, i < n → ∃ z : α × β, p i z.1 z.2 := fun i hi => by obtain ⟨a, b, hp⟩ := h i hi; exact ⟨(a, b), hp⟩
  obtain ⟨F, hF⟩ := Deep.choose_lt h'
  exact ⟨fun i => (F i).1, fun i => (F i).2, hF⟩


set_option maxRecDepth 100000 in
theorem open_SS {H : Type} {enc : TypeId × Value → H} {W : World} {sp : Nat → Bool} {held : Bool} {b fuel : Nat} {cs : List Value} {x : DataW H × List MemPlace}
    (hf : DataW.trod enc Try.prog W b sp held fuel 36 cs = some x) : ∃ D v, cs = [v] ∧ TArg W v D := by
  rcases Deep.open_slice Try.underlying36 hf with ⟨e, _⟩ | ⟨a, len, cap, m, n, E, Pl, e, hb, hl, hm, hmm, _, hel⟩
  · exact ⟨[], _, e, Nat.zero_le _, .inl ⟨rfl, none, 0, rfl⟩⟩
  · refine Exists.elim (?_ : ∃ D, TArg W (.slice (some a) len cap) D) (fun D hD => ⟨D, _, e, hD⟩)
    have hlm : len ≤ m := by rw [hmm]; split <;> omega
    have hcell : ∀ i, i < len → ∃ (l : List Rw) (u : Value), W.cell? (a.add i) = some u ∧ RArg W u l := by
      intro i hi
      obtain ⟨cs', hc, htr⟩ := hel i (by omega)
      rw [Try.cells78] at hc
      obtain ⟨_, hcl, hat⟩ := World.cells?_some hc
      obtain ⟨l, u, rfl, hL⟩ := trod_rows htr
      refine ⟨l, u, ?_, hL⟩
      have := hat 0 (by omega)
      rw [Deep.add_add] at this
      simpa using this
    obtain ⟨fl, fu, hF⟩ := choose2 hcell
    refine ⟨(List.range len).map fl, by simp; omega, ?_⟩
    by_cases h0 : len = 0
    · subst h0; exact .inl ⟨rfl, _, _, rfl⟩
    · obtain ⟨hlt, hsp⟩ := lt_of_cell (hF 0 (by omega)).1
      obtain ⟨bb, off, spot⟩ := a
      simp [Addr.add] at hlt hsp
      subst hsp
      have hcs : ∀ q, Addr.add ⟨bb, off, none⟩ q = ⟨bb, off + q, none⟩ := fun q => by
        unfold Addr.add
        split
        · rename_i e; subst e; simp
        · rfl
      refine .inr ⟨bb, off, cap, by simp, hlt, fu, fun i l hi => ?_⟩
      have hil : i < len := by have := (List.getElem?_eq_some_iff.1 hi).1; simpa using this
      rw [List.getElem?_map, List.getElem?_range hil] at hi
      obtain rfl := Option.some.inj hi
      obtain ⟨h1, h2⟩ := hF i hil
      rw [hcs] at h1
      exact ⟨h1, h2⟩
theorem Try.cells38 : Try.prog.cellsOf 38 = 2 := by kernel_rfl
theorem Try.read38 : Try.prog.readableRec 38 = true ∧ 38 < Try.prog.types.size := ⟨by kernel_rfl, of_decide_eq_true (by kernel_rfl)⟩
theorem Try.fields38 : ∃ f f', Try.prog.underlying 38 = some (.struct #[f, f']) ∧ f.type = 36 ∧ f.offset = 0 ∧ f'.type = 3 ∧ f'.offset = 1 := ⟨_, _, Try.underlying38, rfl, rfl, rfl, rfl⟩
set_option maxRecDepth 100000 in
theorem open_Archive {H : Type} {enc : TypeId × Value → H} {W : World} {base : Nat} {v : Value} {d : DataW H} {p : List MemPlace} {r : Reach} {b : Nat}
    (hv : Value.okWide Try.prog W r base 38 v) (h : DataW.Trod enc Try.prog W b (fun _ => true) true 38 v d p) : ∃ sv x D, v = .agg #[sv, .int .i64 x] ∧ TArg W sv D ∧ I64 x := by
  obtain ⟨f, f', hu, hft, hfo, hft', hfo'⟩ := Try.fields38
  obtain ⟨cs, rfl, hsz⟩ := okWide_struct hu hv
  rw [Try.cells38] at hsz
  obtain ⟨fuel, hf⟩ := h
  obtain ⟨xs, n, _, _, hlen, hxs, hfs⟩ := DataW.trod_struct hu hf
  have h0 := hfs 0 f rfl
  have h1 := hfs 1 f' rfl
  rw [hft, hfo, Try.cells36] at h0
  rw [hft', hfo', Try.cells3] at h1
  obtain ⟨cl⟩ := cs
  match cl, hsz with
  | [c0, c1], _ =>
    have hx : 0 < xs.length := by rw [hxs]; simp
    have hx1 : 1 < xs.length := by rw [hxs]; simp
    rw [List.getElem?_eq_getElem hx] at h0
    rw [List.getElem?_eq_getElem hx1] at h1
    obtain ⟨z, hz, hzz⟩ := trod_ints 1 3 _ _ _ (by kernel_rfl) h1 0 c1 (by simp [Value.cells])
    obtain ⟨D, sv, hcs, hA⟩ := open_SS h0
    have : c0 = sv := by simpa [Value.cells] using hcs
    subst this hz
    exact ⟨c0, z, D, rfl, hA, hzz⟩

end Go.Proofs.Ytnaifkmganngfaa
