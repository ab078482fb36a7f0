/- Draws: a graph is drawn. -/
import Derived.Test.YtfkpefbahpjinaaBw
import Derived.Test.YtfkpefbahpjinaaDh
namespace Go.Proofs.Ytfkpefbahpjinaa
open Go.RowKit


theorem BytesAt.alloc {w : World} {a : Option Addr} {n : Nat} (h : BytesAt w a n) (o : Obj) : BytesAt (w.alloc o) a n :=
  ⟨h.1, fun h0 => by
    obtain ⟨b, off, e, h1, h2⟩ := h.2 h0
    exact ⟨b, off, e, by simp; omega, fun q hq => by
      obtain ⟨z, h3, h4⟩ := h2 q hq
      exact ⟨z, by rw [old_box h1]; exact h3, h4⟩⟩⟩
/-- What holds while a graph is drawn: C the cursor, X the graph's cell, w.heap.size the result's. -/
structure DwK (w : World) (C : Nat) (a : Option Addr) (n cp X : Nat) (M : Int) (gv : Value) (L : List Ed) (wr : World) : Prop where
  cur : ∃ i, Cur wr C a n cp i
  bl : Below w.heap.size w wr
  ord : w.heap.size < C ∧ C < X ∧ X < wr.heap.size
  r0 : wr.cell? ⟨w.heap.size, 0, none⟩ = some (.int .i64 0)
  r1 : wr.cell? ⟨w.heap.size, 1, none⟩ = some (.slice none 0 0)
  rf : ∀ o, wr.frozen? ⟨w.heap.size, o, none⟩ = false
  x0 : wr.cell? ⟨X, 0, none⟩ = some (.int .i64 M)
  x1 : wr.cell? ⟨X, 1, none⟩ = some gv
  xf : ∀ o, wr.frozen? ⟨X, o, none⟩ = false
  row : (gv = .slice none 0 0 ∧ L = []) ∨ ∃ g c, gv = .slice (some ⟨g, 0, none⟩) L.length c ∧ RowO wr g (g + 1) gv L ∧ C < g ∧ g < wr.heap.size ∧ g ≠ X
theorem rowO_split {w : World} {lo C X : Nat} {gv : Value} {L : List Ed} (h : RowO w lo w.heap.size gv L) (hC : C < lo) (hX : ∀ k, gv.ownBlock = some k → k ≠ X) : (gv = .slice none 0 0 ∧ L = []) ∨ ∃ g c, gv = .slice (some ⟨g, 0, none⟩) L.length c ∧ RowO w g (g + 1) gv L ∧ C < g ∧ g < w.heap.size ∧ g ≠ X := by
  have h0 := h
  rcases h.own.2 with ⟨e, h1⟩ | ⟨g, c, cur, e, _⟩
  · exact .inl ⟨e, List.eq_nil_of_length_eq_zero h1⟩
  · subst e
    obtain ⟨h1, h2, h3⟩ := h0.narrow
    exact .inr ⟨g, c, rfl, h1, by omega, h3, hX g rfl⟩
section
variable {w wr w2 : World} {C n cp X : Nat} {a : Option Addr} {M : Int} {gv : Value} {L : List Ed}
theorem DwK.else_ (h : DwK w C a n cp X M gv L wr) (he : Else C wr w2) (hc : ∃ i, Cur w2 C a n cp i) : DwK w C a n cp X M gv L w2 := by
  have o := h.ord
  have bk : ∀ b, b < wr.heap.size → b ≠ C → w2.heap[b]? = wr.heap[b]? := he.2.2.2.2
  have hs := he.2.2.2.1
  have hbs := h.bl.size
  have cc : ∀ b o', b < wr.heap.size → b ≠ C → w2.cell? ⟨b, o', none⟩ = wr.cell? ⟨b, o', none⟩ := fun b o' h1 h2 => World.cell?_of_block (w := wr) (a := ⟨b, o', none⟩) (bk b h1 h2)
  have ff : ∀ b o', b < wr.heap.size → b ≠ C → w2.frozen? ⟨b, o', none⟩ = wr.frozen? ⟨b, o', none⟩ := fun b o' h1 h2 => World.frozen?_of_block (w := wr) (a := ⟨b, o', none⟩) (bk b h1 h2)
  refine ⟨hc, ⟨he.1.trans h.bl.os, he.2.1.trans h.bl.tape, he.2.2.1.trans h.bl.output, by omega, fun b hb => (bk b (by omega) (by omega)).trans (h.bl.block b hb)⟩, ⟨o.1, o.2.1, by omega⟩, by rw [cc _ _ (by omega) (by omega)]; exact h.r0, by rw [cc _ _ (by omega) (by omega)]; exact h.r1, fun o' => by rw [ff _ _ (by omega) (by omega)]; exact h.rf o', by rw [cc _ _ (by omega) (by omega)]; exact h.x0, by rw [cc _ _ (by omega) (by omega)]; exact h.x1, fun o' => by rw [ff _ _ (by omega) (by omega)]; exact h.xf o', ?_⟩
  rcases h.row with h1 | ⟨g, c, e, h1, h2, h3, h4⟩
  · exact .inl h1
  · exact .inr ⟨g, c, e, h1.else_ he (by omega) (.inr (by omega)), h2, by omega, h4⟩
theorem DwK.put {M' : Int} {gv' : Value} {L' : List Ed} {lo : Nat} (h : DwK w C a n cp X M gv L wr) (old : ∀ p : Addr, a = some p → p.block < w.heap.size) (hc : ∃ i, Cur w2 C a n cp i) (hos : w2.os = wr.os ∧ w2.tape = wr.tape ∧ w2.output = wr.output ∧ wr.heap.size ≤ w2.heap.size) (hk : ∀ b, b < wr.heap.size → b ≠ C → gv.ownBlock ≠ some b → w2.heap[b]? = wr.heap[b]?)
    (hr : RowO w2 lo w2.heap.size gv' L') (hlo : C < lo) (hX : ∀ k, gv'.ownBlock = some k → k ≠ X) : DwK w C a n cp X M' gv' L' ((w2.setCell ⟨X, 0, none⟩ (.int .i64 M')).setCell ⟨X, 1, none⟩ gv') := by
  have o := h.ord
  have hbs := h.bl.size
  have hs := hos.2.2.2
  have hown : ∀ b, gv.ownBlock = some b → C < b ∧ b ≠ X := by
    intro b hb
    rcases h.row with ⟨e, _⟩ | ⟨g, c, e, _, h2, _, h4⟩
    · subst e; cases hb
    · subst e; cases hb; exact ⟨h2, h4⟩
  have kR : w2.heap[w.heap.size]? = wr.heap[w.heap.size]? := hk _ (by omega) (by omega) (fun e => by have := (hown _ e).1; omega)
  have kX : w2.heap[X]? = wr.heap[X]? := hk _ (by omega) (by omega) (fun e => (hown _ e).2 rfl)
  have kB : ∀ b, b < w.heap.size → w2.heap[b]? = w.heap[b]? := fun b hb => (hk b (by omega) (by omega) (fun e => by have := (hown _ e).1; omega)).trans (h.bl.block b hb)
  have x0 : w2.cell? ⟨X, 0, none⟩ = some (.int .i64 M) := (World.cell?_of_block (w := wr) (a := ⟨X, 0, none⟩) kX).trans h.x0
  have x1 : w2.cell? ⟨X, 1, none⟩ = some gv := (World.cell?_of_block (w := wr) (a := ⟨X, 1, none⟩) kX).trans h.x1
  have hb2 : ∀ b, b ≠ X → ((w2.setCell ⟨X, 0, none⟩ (.int .i64 M')).setCell ⟨X, 1, none⟩ gv').heap[b]? = w2.heap[b]? := fun b hb => by
    rw [Below.heap_setCell _ _ _ _ (show b ≠ X from hb), Below.heap_setCell _ _ _ _ (show b ≠ X from hb)]
  have sz : ((w2.setCell ⟨X, 0, none⟩ (.int .i64 M')).setCell ⟨X, 1, none⟩ gv').heap.size = w2.heap.size := by simp [World.setCell]
  obtain ⟨i, hc⟩ := hc
  refine ⟨⟨i, (hc.above (lo := C + 1) (fun p e => by have := old p e; omega) (Nat.lt_succ_self _) o.2.1).above (lo := C + 1) (fun p e => by have := old p e; omega) (Nat.lt_succ_self _) o.2.1⟩,
    ⟨hos.1.trans h.bl.os, hos.2.1.trans h.bl.tape, hos.2.2.1.trans h.bl.output, by rw [sz]; omega, fun b hb => (hb2 b (by omega)).trans (kB b hb)⟩, ⟨o.1, o.2.1, by rw [sz]; omega⟩,
    ((World.cell?_of_block (w := w2) (a := ⟨w.heap.size, 0, none⟩) (hb2 w.heap.size (by omega))).trans (World.cell?_of_block (w := wr) (a := ⟨w.heap.size, 0, none⟩) kR)).trans h.r0,
    ((World.cell?_of_block (w := w2) (a := ⟨w.heap.size, 1, none⟩) (hb2 w.heap.size (by omega))).trans (World.cell?_of_block (w := wr) (a := ⟨w.heap.size, 1, none⟩) kR)).trans h.r1,
    fun o' => ((World.frozen?_of_block (w := w2) (a := ⟨w.heap.size, o', none⟩) (hb2 w.heap.size (by omega))).trans (World.frozen?_of_block (w := wr) (a := ⟨w.heap.size, o', none⟩) kR)).trans (h.rf o'),
    by rw [World.cell?_setCell_other _ _ _ _ (by simp)]; exact World.cell?_setCell_same _ _ _ x0, World.cell?_setCell_same _ _ _ (by rw [World.cell?_setCell_other _ _ _ _ (by simp)]; exact x1),
    fun o' => by rw [World.frozen?_setCell, World.frozen?_setCell, World.frozen?_of_block (w := wr) (a := ⟨X, o', none⟩) kX]; exact h.xf o', ?_⟩
  rcases rowO_split hr hlo hX with e | ⟨g, c, e, h1, h2, h3, h4⟩
  · exact .inl e
  · exact .inr ⟨g, c, e, (h1.setCell (p := ⟨X, 0, none⟩) (by show X < g ∨ g + 1 ≤ X; omega) _).setCell (p := ⟨X, 1, none⟩) (by show X < g ∨ g + 1 ≤ X; omega) _, h2, by rw [sz]; exact h3, h4⟩
end
theorem DwK.ro {w wr : World} {C n cp X : Nat} {a : Option Addr} {M : Int} {gv : Value} {L : List Ed} (h : DwK w C a n cp X M gv L wr) : RowO wr (C + 1) wr.heap.size gv L := by
  rcases h.row with ⟨e, e2⟩ | ⟨g, c, e, h1, h2, h3, _⟩
  · subst e; subst e2; exact RowO.empty _ _ _
  · exact h1.wide (by omega) (by omega)
theorem DwK.own {w wr : World} {C n cp X : Nat} {a : Option Addr} {M : Int} {gv : Value} {L : List Ed} (h : DwK w C a n cp X M gv L wr) : ∀ k, gv.ownBlock = some k → k ≠ X := by
  rcases h.row with ⟨e, _⟩ | ⟨g, c, e, _, _, _, h4⟩
  · intro k hk; subst e; cases hk
  · intro k hk; subst e; cases hk; exact h4
theorem DwK.keepX {w wr w2 : World} {C n cp X : Nat} {a : Option Addr} {M : Int} {gv : Value} {L : List Ed} (h : DwK w C a n cp X M gv L wr) (hk : ∀ b, b < wr.heap.size → b ≠ C → gv.ownBlock ≠ some b → w2.heap[b]? = wr.heap[b]?) : w2.cell? ⟨X, 0, none⟩ = some (.int .i64 M) ∧ w2.cell? ⟨X, 1, none⟩ = some gv ∧ ∀ o, w2.frozen? ⟨X, o, none⟩ = false := by
  have o := h.ord
  have kX : w2.heap[X]? = wr.heap[X]? := hk _ (by omega) (by omega) (fun e => h.own _ e rfl)
  exact ⟨(World.cell?_of_block (w := wr) (a := ⟨X, 0, none⟩) kX).trans h.x0, (World.cell?_of_block (w := wr) (a := ⟨X, 1, none⟩) kX).trans h.x1, fun o' => (World.frozen?_of_block (w := wr) (a := ⟨X, o', none⟩) kX).trans (h.xf o')⟩
theorem Cur.other {wr : World} {C n cp i E j : Nat} {a : Option Addr} {u : Value} (hc : Cur wr C a n cp i) (old : ∀ p : Addr, a = some p → p.block ≠ E) (hE : C ≠ E) : Cur (wr.setCell ⟨E, j, none⟩ u) C a n cp i := by
  have bk : ∀ b, b ≠ E → (wr.setCell ⟨E, j, none⟩ u).heap[b]? = wr.heap[b]? := fun b hb => Below.heap_setCell _ _ _ _ hb
  have sz : (wr.setCell ⟨E, j, none⟩ u).heap.size = wr.heap.size := by simp [World.setCell]
  obtain ⟨q, hq⟩ := hc.c2
  have cc : ∀ b o', b ≠ E → (wr.setCell ⟨E, j, none⟩ u).cell? ⟨b, o', none⟩ = wr.cell? ⟨b, o', none⟩ := fun b o' hb => World.cell?_of_block (w := wr) (a := ⟨b, o', none⟩) (bk b hb)
  refine ⟨by rw [cc C _ hE]; exact hc.c0, by rw [cc C _ hE]; exact hc.c1, ⟨q, by rw [cc C _ hE]; exact hq⟩, fun o' => by rw [World.frozen?_of_block (w := wr) (a := ⟨C, o', none⟩) (bk C hE)]; exact hc.frz o', by rw [sz]; exact hc.lt, hc.le, fun hn => ?_⟩
  obtain ⟨b, off, e1, e2, e3, e4⟩ := hc.bytes hn
  have hb : b ≠ E := old _ e1
  refine ⟨b, off, e1, by rw [sz]; exact e2, e3, fun x hx => ?_⟩
  obtain ⟨z, h5, h6⟩ := e4 x hx
  exact ⟨z, by rw [cc b _ hb]; exact h5, h6⟩
/-- What a draw of a graph comes to. -/
def DwPost (w : World) (a : Option Addr) (n cp : Nat) (e : Ending) (w' : World) : Prop := ∃ C M gv L, e = .returned (.tuple #[.pointer (some ⟨C, 0, none⟩), .agg #[.int .i64 M, gv]]) ∧ (∃ i, Cur w' C a n cp i) ∧ w.heap.size ≤ C ∧ Row 3 w' w.heap.size w'.heap.size gv L.length (flat L) ∧ L.length ≤ 61 ∧ Below w.heap.size w w'
theorem DwPost.drew {w w' : World} {a : Option Addr} {n cp : Nat} {e : Ending} (h : DwPost w a n cp e w') : DwPost w a n cp e w'.drew := by
  obtain ⟨C, M, gv, L, e1, ⟨i, hc⟩, h2, h3, h4, h5⟩ := h
  exact ⟨C, M, gv, L, e1, ⟨i, hc.below ((Below.refl _ _).drew)⟩, h2, h3.below (B := w'.heap.size) ((Below.refl _ _).drew) (Nat.le_refl _), h4, h5.drew⟩
theorem DwK.done {w wr : World} {C n cp X : Nat} {a : Option Addr} {M : Int} {gv : Value} {L : List Ed} (h : DwK w C a n cp X M gv L wr) (old : ∀ p : Addr, a = some p → p.block < w.heap.size) (hl : L.length ≤ 61) : DwPost w a n cp (.returned (.tuple #[.pointer (some ⟨C, 0, none⟩), .agg #[.int .i64 M, gv]])) ((wr.setCell ⟨w.heap.size, 0, none⟩ (.int .i64 M)).setCell ⟨w.heap.size, 1, none⟩ gv) := by
  have o := h.ord
  have hbs := h.bl.size
  obtain ⟨i, hc⟩ := h.cur
  have sz : ((wr.setCell ⟨w.heap.size, 0, none⟩ (.int .i64 M)).setCell ⟨w.heap.size, 1, none⟩ gv).heap.size = wr.heap.size := by simp [World.setCell]
  refine ⟨C, M, gv, L, rfl, ⟨i, (hc.other (fun p e => by have := old p e; omega) (by omega)).other (fun p e => by have := old p e; omega) (by omega)⟩, by omega, ?_, hl, ⟨h.bl.os, h.bl.tape, h.bl.output, by rw [sz]; omega, fun b hb => ?_⟩⟩
  · rw [sz]
    rcases h.row with ⟨e, e2⟩ | ⟨g, c, e, h1, h2, h3, _⟩
    · subst e; subst e2; exact (RowO.empty _ _ _).row
    · exact ((h1.setCell (p := ⟨w.heap.size, 0, none⟩) (by show w.heap.size < g ∨ g + 1 ≤ w.heap.size; omega) _).setCell (p := ⟨w.heap.size, 1, none⟩) (by show w.heap.size < g ∨ g + 1 ≤ w.heap.size; omega) _).row.wide (by omega) (by omega)
  · rw [Below.heap_setCell _ _ _ _ (show b ≠ w.heap.size by omega), Below.heap_setCell _ _ _ _ (show b ≠ w.heap.size by omega)]
    exact h.bl.block b hb

set_option maxRecDepth 100000 in
set_option maxHeartbeats 4000000 in
theorem draw_any (a : Option Addr) (n cp : Nat) (w : World) (hb : BytesAt w a n) (hold : ∀ p : Addr, a = some p → p.block < w.heap.size) : Calls Try.prog 54 #[.slice a n cp] w (DwPost w a n cp) := by
  have hn := hb.1
  have HO := Lib.hid hold
  have HB := Lib.hid hb
  clear hb hold
  go_enter Try.func54, Try.ntmps54
  go_wp2_with fail
  obtain ⟨w0, hw0⟩ : ∃ q, q = w.alloc (.cells #[.int .i64 0, .slice none 0 0] 26) := ⟨_, rfl⟩
  have HR0 : Hid (w0.heap.size = w.heap.size + 1 ∧ Below w.heap.size w w0 ∧ BytesAt w0 a n ∧ w0.cell? ⟨w.heap.size, 0, none⟩ = some (.int .i64 0) ∧ w0.cell? ⟨w.heap.size, 1, none⟩ = some (.slice none 0 0) ∧ ∀ o, w0.frozen? ⟨w.heap.size, o, none⟩ = false) :=
    ⟨by rw [hw0]; simp, by rw [hw0]; exact (Below.refl _ _).alloc (Nat.le_refl _) _, by rw [hw0]; exact BytesAt.alloc HB.out _, by rw [hw0]; show _ = _; simp, by rw [hw0]; show _ = _; simp, fun o => by rw [hw0]; show _ = _; simp⟩
  rw [← hw0]
  clear hw0 HB
  go_at_call 64
  refine (new_any a n cp w0 HR0.out.2.2.1).mono ?_
  rintro e w1 ⟨C, rfl, hC0, hc1, hb1⟩
  have hs0 := HR0.out.1
  have hC : w.heap.size < C := by omega
  clear hs0 hC0
  have Hb1 := Lib.hid hb1
  clear hb1
  go_wp2_with fail
  go_at_call 66
  refine (size_any a n cp 9 _ (by omega)).mono ?_
  rintro e w' ⟨⟨x, rfl, x1, x2⟩, rfl⟩
  have hx := x2 (by omega)
  clear x2
  go_wp2_with fail
  go_at_call 65
  refine (below_any C a n cp 0 x _ hc1 (by omega)).mono ?_
  rintro e w2 ⟨⟨y, rfl, y0, y1, _⟩, ⟨i2, hc2⟩, he2⟩
  have hy := y1 (by omega)
  have HE2 := Lib.hid he2
  have e1 : IntKind.i64.wrap (1 + y) = 1 + y := IntWalk.i64_in _ (by omega)
  have e2 : IntKind.i64.wrap (3 * (1 + y)) = 3 * (1 + y) := IntWalk.i64_in _ (by omega)
  have e3 : IntKind.i64.wrap (3 * (1 + y) + 1) = 3 * (1 + y) + 1 := IntWalk.i64_in _ (by omega)
  clear y1 he2 hc1
  go_wp2_with fail
  go_at_call 65
  obtain ⟨M, hM⟩ : ∃ q, q = 1 + y := ⟨_, rfl⟩
  rw [← hM]
  have hM1 : 1 ≤ M ∧ M ≤ 9 := by omega
  clear hM y0 hy hx x1 e1 e2 e3
  refine (below_any C a n cp i2 (3 * M + 1) _ hc2 (by omega)).mono ?_
  rintro e w3 ⟨⟨z, rfl, z0, z1, _⟩, ⟨i3, hc3⟩, he3⟩
  have hz := z1 (by omega)
  have HE3 := Lib.hid (HE2.out.trans he3)
  clear z1 he3 HE2 hc2
  have hw3 : w1.heap.size ≤ w3.heap.size := HE3.out.2.2.2.1
  have hw1 := Hb1.out.size
  have hs0 := HR0.out.1
  go_wp2_with fail
  go_at_call 67
  refine (dgraph_any C n cp i3 a M z _ hc3 (fun p e => by have := HO.out p e; omega) (by omega) (by omega)).mono ?_
  rintro e w4 ⟨gv, L, rfl, ⟨lo, hR, hlo⟩, hL, ⟨i4, hc4⟩, he4⟩
  have hC3 := hc3.lt
  have HE4 := Lib.hid (HE3.out.trans he4)
  have HR := Lib.hid hR
  obtain ⟨ga, gc, hgv⟩ := hR.slice
  subst hgv
  clear he4 HE3 hc3 hR
  have hC4 : C < lo := by omega
  go_wp2_with fail
  obtain ⟨w5, hw5⟩ : ∃ q, q = w4.alloc (.cells #[.int .i64 M, .slice ga L.length gc] 26) := ⟨_, rfl⟩
  obtain ⟨X, hX⟩ : ∃ q, q = w4.heap.size := ⟨_, rfl⟩
  have HK : Hid (DwK w C a n cp X M (.slice ga L.length gc) L w5) := by
    have hE := HE4.out
    have hr0 := HR0.out
    have hb14 := hE.2.2.2.1
    have hb5 : Below w4.heap.size w4 w5 := by rw [hw5]; exact (Below.refl _ _).alloc (Nat.le_refl _) _
    have hs5 : w5.heap.size = w4.heap.size + 1 := by rw [hw5]; simp
    have k0 : ∀ b, b < w0.heap.size → w5.heap[b]? = w0.heap[b]? := fun b hb => ((hb5.block b (by omega)).trans (hE.2.2.2.2 b (by omega) (by omega))).trans (Hb1.out.block b hb)
    have hCl := hc4.lt
    have hR5 : RowO w5 lo w5.heap.size (.slice ga L.length gc) L := (HR.out.else_ (Else.of_below (g := C) hb5) (Nat.le_refl _) (.inr hC4)).wide (Nat.le_refl _) (by omega)
    refine ⟨⟨i4, hc4.below hb5⟩, ⟨hb5.os.trans (hE.1.trans (Hb1.out.os.trans hr0.2.1.os)), hb5.tape.trans (hE.2.1.trans (Hb1.out.tape.trans hr0.2.1.tape)), hb5.output.trans (hE.2.2.1.trans (Hb1.out.output.trans hr0.2.1.output)), by omega, fun b hb => (k0 b (by omega)).trans (hr0.2.1.block b hb)⟩, ⟨hC, by omega, by omega⟩,
      (World.cell?_of_block (w := w0) (a := ⟨w.heap.size, 0, none⟩) (k0 w.heap.size (by omega))).trans hr0.2.2.2.1, (World.cell?_of_block (w := w0) (a := ⟨w.heap.size, 1, none⟩) (k0 w.heap.size (by omega))).trans hr0.2.2.2.2.1, fun o => (World.frozen?_of_block (w := w0) (a := ⟨w.heap.size, o, none⟩) (k0 w.heap.size (by omega))).trans (hr0.2.2.2.2.2 o),
      by rw [hw5, hX]; simp, by rw [hw5, hX]; simp, fun o => by rw [hw5, hX]; simp, rowO_split hR5 hC4 (fun k hk => by have := HR.out.top k hk; omega)⟩
  rw [← hw5, ← hX]
  clear hw5 hX HR HE4 hc4 HR0 Hb1 hw3 hw1 hs0 hlo hC3 hC4 hz z0
  go_at_call 68
  obtain ⟨i5, hc5⟩ := HK.out.cur
  refine (once_any C a n cp i5 25 _ hc5 (by omega)).mono ?_
  rintro e w6 ⟨⟨bb, rfl⟩, k6, he6⟩
  have HK6 : Hid (DwK w C a n cp X M (.slice ga L.length gc) L w6) := HK.out.else_ he6 k6
  clear he6 k6 hc5 HK
  rcases bb with _ | _
  · go_wp2_with fail
    go_at_call 68
    obtain ⟨i9, hc9⟩ := HK6.out.cur
    refine (once_any C a n cp i9 20 _ hc9 (by omega)).mono ?_
    rintro e w9 ⟨⟨bb, rfl⟩, k9, he9⟩
    have HK9 : Hid (DwK w C a n cp X M (.slice ga L.length gc) L w9) := HK6.out.else_ he9 k9
    clear he9 k9 hc9 HK6
    rcases bb with _ | _
    · have tx0 := HK9.out.x0
      have tx1 := HK9.out.x1
      have txf0 := HK9.out.xf 0
      have txf1 := HK9.out.xf 1
      have tr0 := HK9.out.r0
      have tr1 := HK9.out.r1
      have trf0 := HK9.out.rf 0
      have trf1 := HK9.out.rf 1
      go_wp2_with fail
      go_region
      obtain ⟨s0, s1⟩ := res2 (u := .int .i64 M) (v := .slice ga L.length gc) tr0 tr1
      have HQ := (HK9.out.done HO.out (by omega)).drew
      go_wp2_with fail
      exact bodyPost_ret (v := .tuple #[.pointer (some ⟨C, 0, none⟩), .agg #[.int .i64 M, .slice ga L.length gc]]) (by simp [results, Try.results54, go_sem, s0, s1]) rfl HQ
    · have yx0 := HK9.out.x0
      have yx1 := HK9.out.x1
      go_wp2_with fail
      go_at_call 69
      obtain ⟨iA, hcA⟩ := HK9.out.cur
      have hoA := HK9.out.ord
      refine (bend_any C n cp iA (C + 1) a M (.slice ga L.length gc) L w9 hcA (fun p e => by have := HO.out p e; omega) (Nat.lt_succ_self _) (by omega) HK9.out.ro (by omega)).mono ?_
      rintro e wA ⟨M3, gv3, L3, rfl, ⟨lo3, hR3, hlo3⟩, hl3, kA, hfr, hob, hfo⟩
      obtain ⟨z0, z1, zf⟩ := HK9.out.keepX hfo
      have zf0 := zf 0
      have zf1 := zf 1
      obtain ⟨g3, c3, hgv3⟩ := hR3.slice
      subst hgv3
      have HKB := Lib.hid (HK9.out.put (M' := M3) HO.out kA ⟨hfr.1, hfr.2.1, hfr.2.2.1, hfr.2.2.2.1⟩ hfo hR3 (by omega) (fun k hk => by
        rcases hob k hk with e | e
        · exact HK9.out.own k e
        · omega))
      clear hR3 hlo3 kA hfr hob hfo zf hcA hoA HK9 yx0 yx1
      go_wp2_with fail
      obtain ⟨wB, hwB⟩ : ∃ q, q = (wA.setCell ⟨X, 0, none⟩ (.int .i64 M3)).setCell ⟨X, 1, none⟩ (.slice g3 L3.length c3) := ⟨_, rfl⟩
      rw [← hwB] at HKB ⊢
      clear hwB z0 z1 zf0 zf1
      have tx0 := HKB.out.x0
      have tx1 := HKB.out.x1
      have txf0 := HKB.out.xf 0
      have txf1 := HKB.out.xf 1
      have tr0 := HKB.out.r0
      have tr1 := HKB.out.r1
      have trf0 := HKB.out.rf 0
      have trf1 := HKB.out.rf 1
      go_wp2_with fail
      go_region
      obtain ⟨s0, s1⟩ := res2 (u := .int .i64 M3) (v := .slice g3 L3.length c3) tr0 tr1
      have HQ := (HKB.out.done HO.out (by omega)).drew
      go_wp2_with fail
      exact bodyPost_ret (v := .tuple #[.pointer (some ⟨C, 0, none⟩), .agg #[.int .i64 M3, .slice g3 L3.length c3]]) (by simp [results, Try.results54, go_sem, s0, s1]) rfl HQ
  · go_wp2_with fail
    go_at_call 67
    obtain ⟨i7, hc7⟩ := HK6.out.cur
    have ho6 := HK6.out.ord
    have hl6 := HK6.out.bl.size
    refine (dgraph_any C n cp i7 a 10 50 _ hc7 (fun p e => by have := HO.out p e; omega) (by omega) (by omega)).mono ?_
    rintro e w7 ⟨gv2, L2, rfl, ⟨lo2, hR2, hlo2⟩, hL2, k7, he7⟩
    have hfo : ∀ b, b < w6.heap.size → b ≠ C → (Value.slice ga L.length gc).ownBlock ≠ some b → w7.heap[b]? = w6.heap[b]? := fun b h1 h2 _ => he7.2.2.2.2 b h1 h2
    obtain ⟨z0, z1, zf⟩ := HK6.out.keepX hfo
    have zf0 := zf 0
    have zf1 := zf 1
    obtain ⟨g2, c2, hgv2⟩ := hR2.slice
    subst hgv2
    have HK8 := Lib.hid (HK6.out.put (M' := 10) HO.out k7 ⟨he7.1, he7.2.1, he7.2.2.1, he7.2.2.2.1⟩ hfo hR2 (by omega) (fun k hk => by have := (hR2.own.lt k hk).1; omega))
    clear hR2 hlo2 k7 he7 hfo zf ho6 hl6 hc7 HK6
    go_wp2_with fail
    obtain ⟨w8, hw8⟩ : ∃ q, q = (w7.setCell ⟨X, 0, none⟩ (.int .i64 10)).setCell ⟨X, 1, none⟩ (.slice g2 L2.length c2) := ⟨_, rfl⟩
    rw [← hw8] at HK8 ⊢
    clear hw8 z0 z1 zf0 zf1
    go_at_call 68
    obtain ⟨i9, hc9⟩ := HK8.out.cur
    refine (once_any C a n cp i9 20 _ hc9 (by omega)).mono ?_
    rintro e w9 ⟨⟨bb, rfl⟩, k9, he9⟩
    have HK9 : Hid (DwK w C a n cp X 10 (.slice g2 L2.length c2) L2 w9) := HK8.out.else_ he9 k9
    clear he9 k9 hc9 HK8
    rcases bb with _ | _
    · have tx0 := HK9.out.x0
      have tx1 := HK9.out.x1
      have txf0 := HK9.out.xf 0
      have txf1 := HK9.out.xf 1
      have tr0 := HK9.out.r0
      have tr1 := HK9.out.r1
      have trf0 := HK9.out.rf 0
      have trf1 := HK9.out.rf 1
      go_wp2_with fail
      go_region
      obtain ⟨s0, s1⟩ := res2 (u := .int .i64 10) (v := .slice g2 L2.length c2) tr0 tr1
      have HQ := (HK9.out.done HO.out (by omega)).drew
      go_wp2_with fail
      exact bodyPost_ret (v := .tuple #[.pointer (some ⟨C, 0, none⟩), .agg #[.int .i64 10, .slice g2 L2.length c2]]) (by simp [results, Try.results54, go_sem, s0, s1]) rfl HQ
    · have yx0 := HK9.out.x0
      have yx1 := HK9.out.x1
      go_wp2_with fail
      go_at_call 69
      obtain ⟨iA, hcA⟩ := HK9.out.cur
      have hoA := HK9.out.ord
      refine (bend_any C n cp iA (C + 1) a 10 (.slice g2 L2.length c2) L2 w9 hcA (fun p e => by have := HO.out p e; omega) (Nat.lt_succ_self _) (by omega) HK9.out.ro (by omega)).mono ?_
      rintro e wA ⟨M3, gv3, L3, rfl, ⟨lo3, hR3, hlo3⟩, hl3, kA, hfr, hob, hfo⟩
      obtain ⟨z0, z1, zf⟩ := HK9.out.keepX hfo
      have zf0 := zf 0
      have zf1 := zf 1
      obtain ⟨g3, c3, hgv3⟩ := hR3.slice
      subst hgv3
      have HKB := Lib.hid (HK9.out.put (M' := M3) HO.out kA ⟨hfr.1, hfr.2.1, hfr.2.2.1, hfr.2.2.2.1⟩ hfo hR3 (by omega) (fun k hk => by
        rcases hob k hk with e | e
        · exact HK9.out.own k e
        · omega))
      clear hR3 hlo3 kA hfr hob hfo zf hcA hoA HK9 yx0 yx1
      go_wp2_with fail
      obtain ⟨wB, hwB⟩ : ∃ q, q = (wA.setCell ⟨X, 0, none⟩ (.int .i64 M3)).setCell ⟨X, 1, none⟩ (.slice g3 L3.length c3) := ⟨_, rfl⟩
      rw [← hwB] at HKB ⊢
      clear hwB z0 z1 zf0 zf1
      have tx0 := HKB.out.x0
      have tx1 := HKB.out.x1
      have txf0 := HKB.out.xf 0
      have txf1 := HKB.out.xf 1
      have tr0 := HKB.out.r0
      have tr1 := HKB.out.r1
      have trf0 := HKB.out.rf 0
      have trf1 := HKB.out.rf 1
      go_wp2_with fail
      go_region
      obtain ⟨s0, s1⟩ := res2 (u := .int .i64 M3) (v := .slice g3 L3.length c3) tr0 tr1
      have HQ := (HKB.out.done HO.out (by omega)).drew
      go_wp2_with fail
      exact bodyPost_ret (v := .tuple #[.pointer (some ⟨C, 0, none⟩), .agg #[.int .i64 M3, .slice g3 L3.length c3]]) (by simp [results, Try.results54, go_sem, s0, s1]) rfl HQ

end Go.Proofs.Ytfkpefbahpjinaa
