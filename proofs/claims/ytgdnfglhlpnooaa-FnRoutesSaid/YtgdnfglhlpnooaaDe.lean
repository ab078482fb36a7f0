/- Draws: a table, what is known of it on the way. -/
import Derived.Test.YtgdnfglhlpnooaaDb
import Derived.Test.YtgdnfglhlpnooaaPq
namespace Go.Proofs.Ytgdnfglhlpnooaa
open Go.RowKit

/-- What holds while a table is drawn: the result's cell lies at w.heap.size, the table's one block on. -/
structure TbK (w : World) (C : Nat) (a : Option Addr) (n cp H : Nat) (v : Value) (L : List Rt) (wr : World) : Prop where
  old : ∀ p : Addr, a = some p → p.block < w.heap.size
  hC : C < w.heap.size
  cur : ∃ i, Cur wr C a n cp i
  els : Else C w wr
  hX : w.heap.size + 1 < wr.heap.size
  r0 : wr.cell? ⟨w.heap.size, 0, none⟩ = some (.slice none 0 0)
  rf : ∀ o, wr.frozen? ⟨w.heap.size, o, none⟩ = false
  t0 : wr.cell? ⟨w.heap.size + 1, 0, none⟩ = some v
  tf : ∀ o, wr.frozen? ⟨w.heap.size + 1, o, none⟩ = false
  row : ∃ lo, RowT wr lo H v L.length L ∧ w.heap.size + 1 < lo
  hH : H ≤ wr.heap.size
theorem TbK.on {w wr w2 : World} {C n cp H : Nat} {a : Option Addr} {v : Value} {L : List Rt} (h : TbK w C a n cp H v L wr) (hc : ∃ i, Cur w2 C a n cp i) (he : Else C wr w2) : TbK w C a n cp H v L w2 := by
  have hX := h.hX; have hC := h.hC; have hH := h.hH; have sz := he.2.2.2.1
  obtain ⟨lo, hr, hl⟩ := h.row
  refine ⟨h.old, hC, hc, h.els.trans he, by omega, ?_, fun o => ?_, ?_, fun o => ?_, ⟨lo, hr.else_ he hH (.inr (by omega)), hl⟩, by omega⟩
  · rw [he.cell (by omega) (by omega)]; exact h.r0
  · rw [World.frozen?_of_block (w := wr) (a := ⟨w.heap.size, o, none⟩) (he.2.2.2.2 w.heap.size (by omega) (by omega))]; exact h.rf o
  · rw [he.cell (by omega) (by omega)]; exact h.t0
  · rw [World.frozen?_of_block (w := wr) (a := ⟨w.heap.size + 1, o, none⟩) (he.2.2.2.2 (w.heap.size + 1) (by omega) (by omega))]; exact h.tf o
theorem TbK.grow {w wr w2 : World} {C n cp H : Nat} {a : Option Addr} {v : Value} {L : List Rt} (h : TbK w C a n cp H v L wr) (b : Below wr.heap.size wr w2) : TbK w C a n cp H v L w2 := by
  obtain ⟨i, hc⟩ := h.cur
  exact h.on ⟨i, hc.below b⟩ (Else.of_below b)
/-- A box of a round is written. -/
theorem TbK.box {w wr : World} {C n cp H E j : Nat} {a : Option Addr} {v u : Value} {L : List Rt} (h : TbK w C a n cp H v L wr) (hE : H ≤ E) (hX : w.heap.size + 1 < E) : TbK w C a n cp H v L (wr.setCell ⟨E, j, none⟩ u) := by
  obtain ⟨i, hc⟩ := h.cur
  obtain ⟨lo, hr, hl⟩ := h.row
  have hC := h.hC
  exact ⟨h.old, hC, ⟨i, hc.far h.old hC (by omega)⟩, h.els.set' (by omega) j u, by simpa [World.setCell] using h.hX, by rw [World.cell?_setCell_other _ _ _ _ (by simp; try omega)]; exact h.r0, fun o => by simpa using h.rf o, by rw [World.cell?_setCell_other _ _ _ _ (by simp; try omega)]; exact h.t0, fun o => by simpa using h.tf o, ⟨lo, hr.setCell (p := ⟨E, j, none⟩) (.inr hE) u, hl⟩, by simpa [World.setCell] using h.hH⟩
/-- The table gets other routes. -/
theorem TbK.put {w wr : World} {C n cp H lo : Nat} {a : Option Addr} {v rv : Value} {L L2 : List Rt} (h : TbK w C a n cp H v L wr) (hr : RowT wr lo wr.heap.size rv L2.length L2) (hlo : w.heap.size + 1 < lo) : TbK w C a n cp wr.heap.size rv L2 (wr.setCell ⟨w.heap.size + 1, 0, none⟩ rv) := by
  obtain ⟨i, hc⟩ := h.cur
  have hC := h.hC
  exact ⟨h.old, hC, ⟨i, hc.far h.old hC (by omega)⟩, h.els.set' (by omega) 0 rv, by simpa [World.setCell] using h.hX, by rw [World.cell?_setCell_other _ _ _ _ (by simp)]; exact h.r0, fun o => by simpa using h.rf o, World.cell?_setCell_same _ _ _ h.t0, fun o => by simpa using h.tf o, ⟨lo, hr.setCell (p := ⟨w.heap.size + 1, 0, none⟩) (.inl (by show w.heap.size + 1 < lo; omega)) rv, hlo⟩, by simp [World.setCell]⟩
theorem TbK.start {w : World} {C n cp i : Nat} {a : Option Addr} {T : TypeId} (h : Cur w C a n cp i) (old : ∀ p : Addr, a = some p → p.block < w.heap.size) : TbK w C a n cp (w.heap.size + 1 + 1) (.slice none 0 0) [] ((w.alloc (.cells #[.slice none 0 0] T)).alloc (.cells #[.slice none 0 0] T)) := by
  have hb : Below w.heap.size w ((w.alloc (.cells #[.slice none 0 0] T)).alloc (.cells #[.slice none 0 0] T)) := by go_grown
  exact ⟨old, h.lt, ⟨i, h.below hb⟩, Else.of_below hb, by simp, by simp, fun o => by simp, by simp, fun o => by simp, ⟨w.heap.size + 1 + 1, ⟨Row.empty 3 _ _ _ _ _, World.ownsRow_nil _ _ _ _, fun k e => by cases e⟩, by omega⟩, by simp⟩
/-- What a drawn table is: some routes, whatever they are. -/
def TbPost (w : World) (C : Nat) (a : Option Addr) (n cp m : Nat) (e : Ending) (w' : World) : Prop := ∃ rv L, e = .returned (.agg #[rv]) ∧ (∃ lo, Row 3 w' lo w'.heap.size rv L.length (flat L) ∧ w.heap.size ≤ lo) ∧ L.length ≤ m ∧ CurPost w C a n cp w'
theorem TbK.done {w wr : World} {C n cp H : Nat} {a : Option Addr} {v : Value} {L : List Rt} (h : TbK w C a n cp H v L wr) (u : Value) : (∃ lo, Row 3 (wr.setCell ⟨w.heap.size, 0, none⟩ u) lo (wr.setCell ⟨w.heap.size, 0, none⟩ u).heap.size v L.length (flat L) ∧ w.heap.size ≤ lo) ∧ CurPost w C a n cp (wr.setCell ⟨w.heap.size, 0, none⟩ u) := by
  obtain ⟨i, hc⟩ := h.cur
  obtain ⟨lo, hr, hl⟩ := h.row
  have hC := h.hC; have hH := h.hH
  exact ⟨⟨lo, ((hr.row.setCell (p := ⟨w.heap.size, 0, none⟩) (.inl (by show w.heap.size < lo; omega)) u).wide (Nat.le_refl _) (by simp [World.setCell]; omega)), by omega⟩, ⟨i, hc.far h.old hC (Nat.le_refl _)⟩, h.els.set' (Nat.le_refl _) 0 u⟩
theorem flat_set : ∀ (L : List Rt) (i j : Nat) (z : Int), i < L.length → j < 3 → ∃ L' : List Rt, flat L' = (flat L).set (i * 3 + j) z ∧ L'.length = L.length
  | [], i, j, z, hi, _ => absurd hi (Nat.not_lt_zero _)
  | (a, b, c) :: L, 0, j, z, _, hj => by
    rcases j with _ | _ | _ | j
    · exact ⟨(z, b, c) :: L, rfl, rfl⟩
    · exact ⟨(a, z, c) :: L, rfl, rfl⟩
    · exact ⟨(a, b, z) :: L, rfl, rfl⟩
    · omega
  | (a, b, c) :: L, i + 1, j, z, hi, hj => by
    obtain ⟨L', h1, h2⟩ := flat_set L i j z (by simpa using hi) hj
    refine ⟨(a, b, c) :: L', ?_, by simp [h2]⟩
    have e : (i + 1) * 3 + j = (i * 3 + j) + 3 := by omega
    rw [e]
    show a :: b :: c :: flat L' = (a :: b :: c :: flat L).set (i * 3 + j + 3) z
    rw [h1]
    rfl
theorem ints_set (Z : List Int) (i : Nat) (z : Int) : (ints Z).set i (.int .i64 z) = ints (Z.set i z) := by simp [ints, List.map_set]
theorem RowT.store {w : World} {n c g q : Nat} {L L' : List Rt} {z : Int} (h : RowT w g (g + 1) (.slice (some ⟨g, 0, none⟩) n c) n L) (hn : n = L.length) (hq : q < n * 3) (e : flat L' = (flat L).set q z) : RowT (w.setCell ⟨g, q, none⟩ (.int .i64 z)) g (g + 1) (.slice (some ⟨g, 0, none⟩) n c) n L' := by
  subst hn
  have ho := h.own
  have hcell : ∀ j, j < L.length * 3 → w.cell? ⟨g, j, none⟩ = (ints (flat L))[j]? := fun j hj => ho.cellAt j hj
  have hq' : q < (flat L).length := by have := h.row.1; omega
  have hown : (w.setCell ⟨g, q, none⟩ (.int .i64 z)).ownsRow g 43 3 (.slice (some ⟨g, 0, none⟩) L.length c) L.length (ints (flat L')) := by
    rw [e, ← ints_set]
    exact (ho.stored q _).1
  refine ⟨?_, hown, h.top⟩
  obtain ⟨a0, a1⟩ := h.row
  refine ⟨by rw [e, List.length_set]; exact a0, ?_⟩
  rcases a1 with ⟨b0, _⟩ | ⟨g', c', e', b1, b2, b3, b4, b5⟩
  · omega
  · cases e'
    refine .inr ⟨g, c, rfl, b1, b2, b3, fun j y hj => ?_, fun o => by simpa using b5 o⟩
    rw [e, List.getElem?_set] at hj
    by_cases hjq : q = j
    · subst hjq
      rw [if_pos rfl, if_pos hq'] at hj
      cases hj
      obtain ⟨y0, hy0⟩ : ∃ y0, (flat L)[q]? = some y0 := ⟨_, List.getElem?_eq_getElem hq'⟩
      exact World.cell?_setCell_same _ _ _ (b4 q y0 hy0)
    · rw [if_neg hjq] at hj
      rw [World.cell?_setCell_other _ _ _ _ (by intro e; cases e; exact hjq rfl)]
      exact b4 j y hj

end Go.Proofs.Ytgdnfglhlpnooaa
