/- Draws: a table, written to in place and appended to. -/
import Derived.Test.YtgdnfglhlpnooaaDe
namespace Go.Proofs.Ytgdnfglhlpnooaa
open Go.RowKit

theorem RowT.narrow {w : World} {lo hi n c g : Nat} {L : List Rt} (h : RowT w lo hi (.slice (some ⟨g, 0, none⟩) n c) n L) : RowT w g (g + 1) (.slice (some ⟨g, 0, none⟩) n c) n L ∧ lo ≤ g ∧ g < hi := by
  have h1 := h.own.lt g rfl
  have h2 := h.top g rfl
  refine ⟨⟨?_, ?_, fun k e => by cases e; exact Nat.lt_succ_self _⟩, h1.1, h2⟩
  · obtain ⟨a0, a1⟩ := h.row
    refine ⟨a0, ?_⟩
    rcases a1 with a1 | ⟨g', c', e, b1, b2, b3⟩
    · exact .inl a1
    · cases e; exact .inr ⟨g, c, rfl, Nat.le_refl _, Nat.lt_succ_self _, b3⟩
  · obtain ⟨a0, a1⟩ := h.own
    refine ⟨a0, ?_⟩
    rcases a1 with a1 | ⟨g', c', cur, e, b1, b2⟩
    · exact .inl a1
    · cases e; exact .inr ⟨g, c, cur, rfl, Nat.le_refl _, b2⟩
/-- A cell of the table's own is written. -/
theorem TbK.cellset {w wr : World} {C n cp H m c g q : Nat} {a : Option Addr} {z : Int} {L L' : List Rt} (h : TbK w C a n cp H (.slice (some ⟨g, 0, none⟩) m c) L wr) (hm : m = L.length) (hq : q < m * 3) (e : flat L' = (flat L).set q z) (hl : L'.length = L.length) : TbK w C a n cp H (.slice (some ⟨g, 0, none⟩) m c) L' (wr.setCell ⟨g, q, none⟩ (.int .i64 z)) := by
  obtain ⟨i, hc⟩ := h.cur
  obtain ⟨lo, hr, hlo⟩ := h.row
  subst hm
  obtain ⟨hn, n1, n2⟩ := hr.narrow
  have hC := h.hC
  refine ⟨h.old, hC, ⟨i, hc.far h.old hC (by omega)⟩, h.els.set' (by omega) q _, by simpa [World.setCell] using h.hX, by rw [World.cell?_setCell_other _ _ _ _ (by simp; try omega)]; exact h.r0, fun o => by simpa using h.rf o, by rw [World.cell?_setCell_other _ _ _ _ (by simp; try omega)]; exact h.t0, fun o => by simpa using h.tf o, ⟨g, ?_, by omega⟩, by simpa [World.setCell] using h.hH⟩
  rw [hl]
  exact (RowT.store hn rfl hq e).wide (Nat.le_refl _) (by omega)
theorem TbK.blk {w wr : World} {C n cp H : Nat} {a : Option Addr} {v : Value} {L : List Rt} (h : TbK w C a n cp H v L wr) : ∀ k, v.ownBlock = some k → w.heap.size + 1 < k ∧ k < wr.heap.size := by
  intro k hk
  obtain ⟨lo, hr, hlo⟩ := h.row
  have h1 := hr.own.lt k hk
  have h2 := hr.top k hk
  have h3 := h.hH
  omega
theorem TbK.own {w wr : World} {C n cp H : Nat} {a : Option Addr} {v : Value} {L : List Rt} (h : TbK w C a n cp H v L wr) : wr.ownsRow (w.heap.size + 1 + 1) 43 3 v L.length (ints (flat L)) := by
  obtain ⟨lo, hr, hlo⟩ := h.row
  exact ownsRow_low hr.own (by omega)
/-- A route is appended, and the struct's cell written. -/
theorem TbK.app {w wr w4 : World} {C n cp H g4 cap4 : Nat} {a : Option Addr} {x y z : Int} {v : Value} {L : List Rt} (h : TbK w C a n cp H v L wr) (hl : L.length ≤ 1000000) (hown : w4.ownsRow (w.heap.size + 1 + 1) 43 3 (.slice (some ⟨g4, 0, none⟩) (L.length + 1) cap4) (L.length + 1) (ints (flat L) ++ [.int .i64 x, .int .i64 y, .int .i64 z]))
    (hg : wr.grownBy w4 v.ownBlock) : TbK w C a n cp w4.heap.size (.slice (some ⟨g4, 0, none⟩) (L.length + 1) cap4) (L ++ [(x, y, z)]) (w4.setCell ⟨w.heap.size + 1, 0, none⟩ (.slice (some ⟨g4, 0, none⟩) (L.length + 1) cap4)) := by
  have hb := h.blk
  have hX := h.hX
  have hC := h.hC
  obtain ⟨i, hc⟩ := h.cur
  have hs := hg.size
  have hes := h.els.2.2.2.1
  have bk : ∀ b, b ≤ w.heap.size + 1 → w4.heap[b]? = wr.heap[b]? := fun b h1 => hg.block b (by omega) (fun e => by have := hb b e.symm; omega)
  have cc : ∀ b o', b ≤ w.heap.size + 1 → w4.cell? ⟨b, o', none⟩ = wr.cell? ⟨b, o', none⟩ := fun b o' h1 => World.cell?_of_block (w := wr) (a := ⟨b, o', none⟩) (bk b h1)
  have ff : ∀ b o', b ≤ w.heap.size + 1 → w4.frozen? ⟨b, o', none⟩ = wr.frozen? ⟨b, o', none⟩ := fun b o' h1 => World.frozen?_of_block (w := wr) (a := ⟨b, o', none⟩) (bk b h1)
  have hc4 : Cur w4 C a n cp i := by
    obtain ⟨q, hq⟩ := hc.c2
    refine ⟨by rw [cc C _ (by omega)]; exact hc.c0, by rw [cc C _ (by omega)]; exact hc.c1, ⟨q, by rw [cc C _ (by omega)]; exact hq⟩, fun o' => by rw [ff C _ (by omega)]; exact hc.frz o', by omega, hc.le, fun hn => ?_⟩
    obtain ⟨b, off, e1, e2, e3, e4⟩ := hc.bytes hn
    have hbl : b < w.heap.size := h.old _ e1
    refine ⟨b, off, e1, by omega, e3, fun q hq => ?_⟩
    obtain ⟨u, h5, h6⟩ := e4 q hq
    exact ⟨u, by rw [cc b _ (by omega)]; exact h5, h6⟩
  have he4 : Else C w w4 := ⟨hg.os.trans h.els.1, hg.tape.trans h.els.2.1, hg.output.trans h.els.2.2.1, by omega, fun b h1 h2 => (bk b (by omega)).trans (h.els.2.2.2.2 b h1 h2)⟩
  have hg4 := hown.lt g4 rfl
  have e : ints (flat (L ++ [(x, y, z)])) = ints (flat L) ++ [.int .i64 x, .int .i64 y, .int .i64 z] := by rw [flat_app, flat_one, ints_app]; rfl
  have hl4 : (L ++ [(x, y, z)]).length = L.length + 1 := by simp
  have hRO : RowT w4 (w.heap.size + 1 + 1) w4.heap.size (.slice (some ⟨g4, 0, none⟩) (L.length + 1) cap4) (L.length + 1) (L ++ [(x, y, z)]) :=
    ⟨(row_of_own (by rw [e]; exact hown) (by omega)).wide (Nat.le_refl _) (Nat.le_refl _), by rw [e]; exact hown, fun k hk => by cases hk; exact hg4.2⟩
  refine ⟨h.old, hC, ⟨i, hc4.far h.old hC (by omega)⟩, he4.set' (by omega) 0 _, by simp [World.setCell]; omega, by rw [World.cell?_setCell_other _ _ _ _ (by simp), cc _ _ (by omega)]; exact h.r0, fun o => by rw [World.frozen?_setCell, ff _ _ (by omega)]; exact h.rf o, World.cell?_setCell_same _ _ _ (by rw [cc _ _ (by omega)]; exact h.t0), fun o => by rw [World.frozen?_setCell, ff _ _ (by omega)]; exact h.tf o, ⟨w.heap.size + 1 + 1, ?_, by omega⟩, by simp [World.setCell]⟩
  rw [hl4]
  exact hRO.setCell (p := ⟨w.heap.size + 1, 0, none⟩) (.inl (by show w.heap.size + 1 < w.heap.size + 1 + 1; omega)) _
/-- The end. -/
theorem TbK.post {w wr : World} {C n cp H m : Nat} {a : Option Addr} {v : Value} {L : List Rt} (h : TbK w C a n cp H v L wr) (hm : L.length ≤ m) : TbPost w C a n cp m (.returned (.agg #[v])) (wr.setCell ⟨w.heap.size, 0, none⟩ v) := by
  obtain ⟨h1, h2⟩ := h.done v
  exact ⟨v, L, rfl, h1, hm, h2⟩

end Go.Proofs.Ytgdnfglhlpnooaa
