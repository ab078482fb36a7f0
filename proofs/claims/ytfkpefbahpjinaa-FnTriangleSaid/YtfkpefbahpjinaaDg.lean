/- Draws: a graph. -/
import Derived.Test.YtfkpefbahpjinaaPt
namespace Go.Proofs.Ytfkpefbahpjinaa
open Go.RowKit


theorem Cur.below {w w' : World} {C : Nat} {a : Option Addr} {n cp i : Nat} (h : Cur w C a n cp i) (b : Below w.heap.size w w') : Cur w' C a n cp i := by
  obtain ⟨q, hq⟩ := h.c2
  exact h.keep (Else.of_below b) h.le.1 (by rw [b.cell (p := ⟨C, 0, none⟩) h.lt]; exact h.c0) (by rw [b.cell (p := ⟨C, 1, none⟩) h.lt]; exact h.c1) ⟨q, by rw [b.cell (p := ⟨C, 2, none⟩) h.lt]; exact hq⟩ (fun o => by rw [b.frozen (p := ⟨C, o, none⟩) h.lt]; exact h.frz o)
theorem Else.set' {C X : Nat} {w w' : World} (h : Else C w w') (hX : w.heap.size ≤ X) (j : Nat) (u : Value) : Else C w (w'.setCell ⟨X, j, none⟩ u) :=
  ⟨h.1, h.2.1, h.2.2.1, by simpa [World.setCell] using h.2.2.2.1, fun b hb hn => (Below.heap_setCell _ _ _ _ (show b ≠ X by omega)).trans (h.2.2.2.2 b hb hn)⟩
/-- What holds at the head of a drawn graph's rounds: R the result's cell, X the graph's struct. -/
structure DgS (w wr : World) (C : Nat) (a : Option Addr) (n cp : Nat) (m : Int) (R X H : Nat) (gv : Value) (L' : List Ed) : Prop where
  old : ∀ p : Addr, a = some p → p.block < w.heap.size
  cur : ∃ i, Cur wr C a n cp i
  fr : Else C w wr
  ord : C < w.heap.size ∧ w.heap.size ≤ R ∧ R < X ∧ X < wr.heap.size
  r0 : wr.cell? ⟨R, 0, none⟩ = some (.int .i64 0) ∧ wr.cell? ⟨R, 1, none⟩ = some (.slice none 0 0)
  rf : ∀ o, wr.frozen? ⟨R, o, none⟩ = false
  x0 : wr.cell? ⟨X, 0, none⟩ = some (.int .i64 m)
  x1 : wr.cell? ⟨X, 1, none⟩ = some gv
  xf : ∀ o, wr.frozen? ⟨X, o, none⟩ = false
  row : ∃ lo, RowO wr lo H gv L' ∧ X < lo
  hH : H ≤ wr.heap.size
  len : L'.length ≤ 60
theorem DgS.else_ {w wr w2 : World} {C n cp R X H : Nat} {a : Option Addr} {m : Int} {gv : Value} {L' : List Ed} (h : DgS w wr C a n cp m R X H gv L') (he : Else C wr w2) (hc : ∃ i, Cur w2 C a n cp i) : DgS w w2 C a n cp m R X H gv L' := by
  have o := h.ord
  have hs := he.2.2.2.1
  have hH := h.hH
  have bk : ∀ b, b < wr.heap.size → b ≠ C → w2.heap[b]? = wr.heap[b]? := he.2.2.2.2
  have cR : ∀ o', w2.cell? ⟨R, o', none⟩ = wr.cell? ⟨R, o', none⟩ := fun o' => World.cell?_of_block (w := wr) (a := ⟨R, o', none⟩) (bk R (by omega) (by omega))
  have cX : ∀ o', w2.cell? ⟨X, o', none⟩ = wr.cell? ⟨X, o', none⟩ := fun o' => World.cell?_of_block (w := wr) (a := ⟨X, o', none⟩) (bk X (by omega) (by omega))
  obtain ⟨lo, h1, h2⟩ := h.row
  exact ⟨h.old, hc, h.fr.trans he, ⟨o.1, o.2.1, o.2.2.1, by omega⟩, ⟨by rw [cR]; exact h.r0.1, by rw [cR]; exact h.r0.2⟩, fun o' => by rw [World.frozen?_of_block (w := wr) (a := ⟨R, o', none⟩) (bk R (by omega) (by omega))]; exact h.rf o', by rw [cX]; exact h.x0, by rw [cX]; exact h.x1, fun o' => by rw [World.frozen?_of_block (w := wr) (a := ⟨X, o', none⟩) (bk X (by omega) (by omega))]; exact h.xf o', ⟨lo, h1.else_ he hH (by omega), h2⟩, by omega, h.len⟩
theorem DgS.grow {w wr w2 : World} {C n cp R X H : Nat} {a : Option Addr} {m : Int} {gv : Value} {L' : List Ed} (h : DgS w wr C a n cp m R X H gv L') (b : Below wr.heap.size wr w2) : DgS w w2 C a n cp m R X H gv L' := by
  obtain ⟨i, hc⟩ := h.cur
  exact h.else_ (Else.of_below b) ⟨i, hc.below b⟩
theorem DgS.drewN {w wr : World} {C n cp R X H : Nat} {a : Option Addr} {m : Int} {gv : Value} {L' : List Ed} (h : DgS w wr C a n cp m R X H gv L') (k : Nat) : DgS w (wr.drewN k) C a n cp m R X H gv L' := h.grow (below_drewN wr k)
theorem Cur.far {w wr : World} {C n cp i E j : Nat} {a : Option Addr} {u : Value} (hc : Cur wr C a n cp i) (old : ∀ p : Addr, a = some p → p.block < w.heap.size) (hC : C < w.heap.size) (hE : w.heap.size ≤ E) : Cur (wr.setCell ⟨E, j, none⟩ u) C a n cp i := by
  have bk : ∀ b, b ≠ E → (wr.setCell ⟨E, j, none⟩ u).heap[b]? = wr.heap[b]? := fun b hb => Below.heap_setCell _ _ _ _ hb
  have sz : (wr.setCell ⟨E, j, none⟩ u).heap.size = wr.heap.size := by simp [World.setCell]
  obtain ⟨q, hq⟩ := hc.c2
  have cc : ∀ b o', b ≠ E → (wr.setCell ⟨E, j, none⟩ u).cell? ⟨b, o', none⟩ = wr.cell? ⟨b, o', none⟩ := fun b o' hb => World.cell?_of_block (w := wr) (a := ⟨b, o', none⟩) (bk b hb)
  refine ⟨by rw [cc C _ (by omega)]; exact hc.c0, by rw [cc C _ (by omega)]; exact hc.c1, ⟨q, by rw [cc C _ (by omega)]; exact hq⟩, fun o' => by rw [World.frozen?_of_block (w := wr) (a := ⟨C, o', none⟩) (bk C (by omega))]; exact hc.frz o', by rw [sz]; exact hc.lt, hc.le, fun hn => ?_⟩
  obtain ⟨b, off, e1, e2, e3, e4⟩ := hc.bytes hn
  have hb : b < w.heap.size := old _ e1
  refine ⟨b, off, e1, by rw [sz]; exact e2, e3, fun x hx => ?_⟩
  obtain ⟨z, h5, h6⟩ := e4 x hx
  exact ⟨z, by rw [cc b _ (by omega)]; exact h5, h6⟩
/-- A box of the round is written. -/
theorem DgS.box {w wr : World} {C n cp R X H E j : Nat} {a : Option Addr} {m : Int} {gv u : Value} {L' : List Ed} (h : DgS w wr C a n cp m R X H gv L') (hE : X < E) (hH : H ≤ E) : DgS w (wr.setCell ⟨E, j, none⟩ u) C a n cp m R X H gv L' := by
  have o := h.ord
  have bk : ∀ b, b ≠ E → (wr.setCell ⟨E, j, none⟩ u).heap[b]? = wr.heap[b]? := fun b hb => Below.heap_setCell _ _ _ _ hb
  have sz : (wr.setCell ⟨E, j, none⟩ u).heap.size = wr.heap.size := by simp [World.setCell]
  obtain ⟨i, hc⟩ := h.cur
  have cc : ∀ b o', b ≠ E → (wr.setCell ⟨E, j, none⟩ u).cell? ⟨b, o', none⟩ = wr.cell? ⟨b, o', none⟩ := fun b o' hb => World.cell?_of_block (w := wr) (a := ⟨b, o', none⟩) (bk b hb)
  have ff : ∀ b o', b ≠ E → (wr.setCell ⟨E, j, none⟩ u).frozen? ⟨b, o', none⟩ = wr.frozen? ⟨b, o', none⟩ := fun b o' hb => World.frozen?_of_block (w := wr) (a := ⟨b, o', none⟩) (bk b hb)
  obtain ⟨lo, h1, h2⟩ := h.row
  exact ⟨h.old, ⟨i, hc.far h.old o.1 (by omega)⟩, h.fr.set' (by omega) j u, ⟨o.1, o.2.1, o.2.2.1, by omega⟩, ⟨by rw [cc R _ (by omega)]; exact h.r0.1, by rw [cc R _ (by omega)]; exact h.r0.2⟩, fun o' => by rw [ff R _ (by omega)]; exact h.rf o', by rw [cc X _ (by omega)]; exact h.x0, by rw [cc X _ (by omega)]; exact h.x1, fun o' => by rw [ff X _ (by omega)]; exact h.xf o', ⟨lo, h1.setCell (p := ⟨E, j, none⟩) (.inr hH) u, h2⟩, by rw [sz]; exact h.hH, h.len⟩
/-- The graph's edges are another row. -/
theorem DgS.edges {w wr : World} {C n cp R X H lo : Nat} {a : Option Addr} {m : Int} {gv rv : Value} {L' L2 : List Ed} (h : DgS w wr C a n cp m R X H gv L') (hr : RowO wr lo wr.heap.size rv L2) (hlo : X < lo) (hl : L2.length ≤ 60) : DgS w (wr.setCell ⟨X, 1, none⟩ rv) C a n cp m R X wr.heap.size rv L2 := by
  have o := h.ord
  have bk : ∀ b, b ≠ X → (wr.setCell ⟨X, 1, none⟩ rv).heap[b]? = wr.heap[b]? := fun b hb => Below.heap_setCell _ _ _ _ hb
  have sz : (wr.setCell ⟨X, 1, none⟩ rv).heap.size = wr.heap.size := by simp [World.setCell]
  obtain ⟨i, hc⟩ := h.cur
  have cc : ∀ b o', b ≠ X → (wr.setCell ⟨X, 1, none⟩ rv).cell? ⟨b, o', none⟩ = wr.cell? ⟨b, o', none⟩ := fun b o' hb => World.cell?_of_block (w := wr) (a := ⟨b, o', none⟩) (bk b hb)
  have ff : ∀ b o', b ≠ X → (wr.setCell ⟨X, 1, none⟩ rv).frozen? ⟨b, o', none⟩ = wr.frozen? ⟨b, o', none⟩ := fun b o' hb => World.frozen?_of_block (w := wr) (a := ⟨b, o', none⟩) (bk b hb)
  exact ⟨h.old, ⟨i, hc.far h.old o.1 (by omega)⟩, h.fr.set' (by omega) 1 rv, ⟨o.1, o.2.1, o.2.2.1, by omega⟩, ⟨by rw [cc R _ (by omega)]; exact h.r0.1, by rw [cc R _ (by omega)]; exact h.r0.2⟩, fun o' => by rw [ff R _ (by omega)]; exact h.rf o', by rw [World.cell?_setCell_other _ _ _ _ (by simp)]; exact h.x0, World.cell?_setCell_same _ _ _ h.x1, fun o' => by simpa using h.xf o', ⟨lo, hr.setCell (p := ⟨X, 1, none⟩) (.inl hlo) rv, hlo⟩, by rw [sz]; exact Nat.le_refl _, hl⟩

end Go.Proofs.Ytfkpefbahpjinaa
