/- What an argument of the laws is: a number, a list of tables. -/
import Derived.Test.YtflhbfndfjkfgaaRows
import Derived.Test.YtflhbfndfjkfgaaGa
import Derived.Test.YtflhbfndfjkfgaaLaw
import Derived.Test.YtflhbfndfjkfgaaTm
namespace Go.Proofs.Ytflhbfndfjkfgaa
open Go.ChangeShapes Go.WideShapes Go.ChangeAt Go.RowKit Go.Joins


theorem Try.own : ownKnob Try.prog.godebug = none := by kernel_rfl
theorem Try.laidOut : laidOutB Try.prog = true := by kernel_rfl
theorem Try.cells3 : Try.prog.cellsOf 3 = 1 := by kernel_rfl
theorem Try.read3 : Try.prog.readableRec 3 = true ∧ 3 < Try.prog.types.size := ⟨by kernel_rfl, of_decide_eq_true (by kernel_rfl)⟩
set_option maxRecDepth 100000 in
theorem open_num {H : Type} {enc : TypeId × Value → H} {W : World} {v : Value} {d : DataW H} {p : List MemPlace} {r : Reach} {b base : Nat}
    (hv : Value.okWide Try.prog W r base 3 v) (h : DataW.Trod enc Try.prog W b (fun _ => true) true 3 v d p) :
    ∃ a : Int, v = .int .i64 a ∧ -9223372036854775808 ≤ a ∧ a ≤ 9223372036854775807 := by
  obtain ⟨a, rfl, rfl, rfl, wa⟩ := open_int Try.underlying3 hv h
  simp [Lit.wf, show IntKind.i64.min = -9223372036854775808 from rfl] at wa
  exact ⟨a, rfl, by omega, by omega⟩

theorem Try.intTy103 : intTy Try.prog 3 103 = true := by kernel_rfl
theorem Try.cells103 : Try.prog.cellsOf 103 = 3 := by kernel_rfl
theorem Try.cells51 : Try.prog.cellsOf 51 = 1 := by kernel_rfl
theorem Try.cells49 : Try.prog.cellsOf 49 = 1 := by kernel_rfl
theorem Try.read22 : Try.prog.readableRec 22 = true ∧ 22 < Try.prog.types.size := ⟨by kernel_rfl, of_decide_eq_true (by kernel_rfl)⟩
theorem Try.fields51 : ∃ f, Try.prog.underlying 51 = some (.struct #[f]) ∧ f.type = 49 ∧ f.offset = 0 := ⟨_, Try.underlying51, rfl, rfl⟩

set_option maxRecDepth 100000 in
theorem trod_Table {H : Type} {enc : TypeId × Value → H} {W : World} {sp : Nat → Bool} {held : Bool} {b fuel : Nat} {cs : List Value} {x : DataW H × List MemPlace}
    (hf : DataW.trod enc Try.prog W b sp held fuel 51 cs = some x) : ∃ (l : List Rt) (u : Value), cs = [u] ∧ RArg W u l := by
  obtain ⟨f, hu, hft, hfo⟩ := Try.fields51
  obtain ⟨xs, n, _, _, hsz, hxs, hfs⟩ := DataW.trod_struct hu hf
  rw [Try.cells51] at hsz
  have h0 := hfs 0 f rfl
  rw [hft, hfo, Try.cells49] at h0
  match cs, hsz with
  | [c0], _ =>
    have hx : xs.length = 1 := by rw [hxs]; simp
    rw [List.getElem?_eq_getElem (by omega)] at h0
    obtain ⟨sv, n', Z, hcs, hA⟩ := open_islice Try.underlying49 Try.intTy103 Try.cells103 (by decide) h0
    have : c0 = sv := by simpa using hcs
    subst this
    refine ⟨rts Z n', c0, rfl, Z, ?_, ?_⟩
    · rw [rts_len]; exact hA
    · rw [rts_len, flat_rts]

theorem choose2 {α β : Type} [Inhabited α] [Inhabited β] {n : Nat} {p : Nat → α → β → Prop} (h : ∀ i, i < n → ∃ a b, p i a b) : ∃ (f : Nat → α) (g : Nat → β), ∀ i, i < n → p i (f i) (g i) := by
  have h' : ∀ i, i < n → ∃ z : α × β, p i z.1 z.2 := fun i hi => by obtain ⟨a, b, hp⟩ := h i hi; exact ⟨(a, b), hp⟩
  obtain ⟨F, hF⟩ := Deep.choose_lt h'
  exact ⟨fun i => (F i).1, fun i => (F i).2, hF⟩

set_option maxRecDepth 100000 in
theorem open_TableS {H : Type} {enc : TypeId × Value → H} {W : World} {base : Nat} {v : Value} {d : DataW H} {p : List MemPlace} {r : Reach} {b : Nat}
    (hv : Value.okWide Try.prog W r base 22 v) (h : DataW.Trod enc Try.prog W b (fun _ => true) true 22 v d p) : ∃ D, TArg W v D := by
  obtain ⟨a0, l0, c0, rfl⟩ := okWide_slice Try.underlying22 hv
  obtain ⟨fuel, hf⟩ := h
  rcases Deep.open_slice Try.underlying22 hf with ⟨e, _⟩ | ⟨a, len, cap, m, n, E, Pl, e, hb, hl, hm, hmm, _, hel⟩
  · have e' : Value.slice a0 l0 c0 = .slice none 0 0 := by simpa [Value.cells] using e
    rw [e']
    exact ⟨[], Nat.zero_le _, .inl ⟨rfl, none, 0, rfl⟩⟩
  · have e' : Value.slice a0 l0 c0 = .slice (some a) len cap := by simpa [Value.cells] using e
    rw [e']
    have hlm : len ≤ m := by rw [hmm]; split <;> omega
    have hcell : ∀ i, i < len → ∃ (l : List Rt) (u : Value), W.cell? (a.add i) = some u ∧ RArg W u l := by
      intro i hi
      obtain ⟨cs', hc, htr⟩ := hel i (by omega)
      rw [Try.cells51] at hc
      obtain ⟨_, hcl, hat⟩ := World.cells?_some hc
      obtain ⟨l, u, rfl, hL⟩ := trod_Table htr
      refine ⟨l, u, ?_, hL⟩
      have := hat 0 (by omega)
      rw [Deep.add_add] at this
      simpa using this
    obtain ⟨fl, fu, hF⟩ := choose2 hcell
    refine ⟨(List.range len).map fl, by simp; omega, ?_⟩
    by_cases h0 : len = 0
    · subst h0; exact .inl ⟨rfl, _, _, rfl⟩
    · obtain ⟨hlt, hsp⟩ := lt_of_cell (hF 0 (by omega)).1
      obtain ⟨bb, off, spot⟩ := a
      simp [Addr.add] at hlt hsp
      subst hsp
      have hcs : ∀ q, Addr.add ⟨bb, off, none⟩ q = ⟨bb, off + q, none⟩ := fun q => by
        unfold Addr.add
        split
        · rename_i e; subst e; simp
        · rfl
      refine .inr ⟨bb, off, cap, by simp, hlt, fu, fun i l hi => ?_⟩
      have hil : i < len := by have := (List.getElem?_eq_some_iff.1 hi).1; simpa using this
      rw [List.getElem?_map, List.getElem?_range hil] at hi
      obtain rfl := Option.some.inj hi
      obtain ⟨h1, h2⟩ := hF i hil
      rw [hcs] at h1
      exact ⟨h1, h2⟩

end Go.Proofs.Ytflhbfndfjkfgaa
