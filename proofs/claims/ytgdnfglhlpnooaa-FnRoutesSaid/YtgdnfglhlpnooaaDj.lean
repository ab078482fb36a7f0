/- Draws: a cursor and a table. -/
import Derived.Test.YtgdnfglhlpnooaaDf
namespace Go.Proofs.Ytgdnfglhlpnooaa
open Go.RowKit

theorem Cur.miss {wr : World} {C n cp i E j : Nat} {a : Option Addr} {u : Value} (hc : Cur wr C a n cp i) (old : ∀ p : Addr, a = some p → p.block < E) (hC : C ≠ E) : Cur (wr.setCell ⟨E, j, none⟩ u) C a n cp i := by
  have bk : ∀ b, b ≠ E → (wr.setCell ⟨E, j, none⟩ u).heap[b]? = wr.heap[b]? := fun b hb => Below.heap_setCell _ _ _ _ hb
  have sz : (wr.setCell ⟨E, j, none⟩ u).heap.size = wr.heap.size := by simp [World.setCell]
  obtain ⟨q, hq⟩ := hc.c2
  have cc : ∀ b o', b ≠ E → (wr.setCell ⟨E, j, none⟩ u).cell? ⟨b, o', none⟩ = wr.cell? ⟨b, o', none⟩ := fun b o' hb => World.cell?_of_block (w := wr) (a := ⟨b, o', none⟩) (bk b hb)
  refine ⟨by rw [cc C _ hC]; exact hc.c0, by rw [cc C _ hC]; exact hc.c1, ⟨q, by rw [cc C _ hC]; exact hq⟩, fun o' => by rw [World.frozen?_of_block (w := wr) (a := ⟨C, o', none⟩) (bk C hC)]; exact hc.frz o', by rw [sz]; exact hc.lt, hc.le, fun hn => ?_⟩
  obtain ⟨b, off, e1, e2, e3, e4⟩ := hc.bytes hn
  have hb : b < E := old _ e1
  refine ⟨b, off, e1, by rw [sz]; exact e2, e3, fun x hx => ?_⟩
  obtain ⟨z, h5, h6⟩ := e4 x hx
  exact ⟨z, by rw [cc b _ (by omega)]; exact h5, h6⟩
theorem BytesAt.below {w w' : World} {a : Option Addr} {n : Nat} (h : BytesAt w a n) (b : Below w.heap.size w w') : BytesAt w' a n := by
  refine ⟨h.1, fun hn => ?_⟩
  obtain ⟨g, off, e, h1, h2⟩ := h.2 hn
  refine ⟨g, off, e, Nat.lt_of_lt_of_le h1 b.size, fun q hq => ?_⟩
  obtain ⟨z, h3, h4⟩ := h2 q hq
  exact ⟨z, by rw [b.cell (p := ⟨g, off + q, none⟩) h1]; exact h3, h4⟩
/-- What is drawn: the cursor and some table. -/
def OnePost (a : Option Addr) (n cp : Nat) (w : World) (e : Ending) (w' : World) : Prop := ∃ C rv L, e = .returned (.tuple #[.pointer (some ⟨C, 0, none⟩), .agg #[rv]]) ∧ w.heap.size < C ∧ (∃ i, Cur w' C a n cp i) ∧ L.length ≤ 201 ∧ (∃ lo, Row 3 w' lo w'.heap.size rv L.length (flat L) ∧ C < lo) ∧ Below w.heap.size w w'

set_option maxRecDepth 100000 in
set_option maxHeartbeats 4000000 in
theorem one_any (a : Option Addr) (n cp : Nat) (w : World) (hb : BytesAt w a n) (hold : ∀ p : Addr, a = some p → p.block < w.heap.size) : Calls Try.prog 64 #[.slice a n cp] w (OnePost a n cp w) := by
  have HB := Lib.hid hb
  have HO := Lib.hid hold
  clear hb hold
  go_enter Try.func64, Try.ntmps64
  go_wp2_with fail
  obtain ⟨wa, hwa⟩ : ∃ qq, qq = w.alloc (.cells #[.slice none 0 0] 30) := ⟨_, rfl⟩
  have hba : Below w.heap.size w wa := by rw [hwa]; go_grown
  have sza : wa.heap.size = w.heap.size + 1 := by rw [hwa]; simp
  have ra : wa.cell? ⟨w.heap.size, 0, none⟩ = some (.slice none 0 0) := by rw [hwa]; simp
  have fa : wa.frozen? ⟨w.heap.size, 0, none⟩ = false := by rw [hwa]; simp
  rw [← hwa]
  clear hwa
  go_at_call 84
  refine (new_any a n cp _ (HB.out.below hba)).mono ?_
  rintro e w1 ⟨C, rfl, hC, c1, b1⟩
  have hC1 := c1.lt
  have r1 : w1.cell? ⟨w.heap.size, 0, none⟩ = some (.slice none 0 0) := by rw [b1.cell (p := ⟨w.heap.size, 0, none⟩) (by show w.heap.size < _; omega)]; exact ra
  have f1 : w1.frozen? ⟨w.heap.size, 0, none⟩ = false := by rw [b1.frozen (p := ⟨w.heap.size, 0, none⟩) (by show w.heap.size < _; omega)]; exact fa
  have HB1 : Hid (Below w.heap.size w w1) := Lib.hid (hba.trans (b1.mono (by omega)))
  clear ra fa b1 hba
  go_wp2_with fail
  go_at_call 86
  refine (drsz_any a n cp 12 _ HB.out.1).mono ?_
  rintro e w1' ⟨⟨s, rfl, s1, s2⟩, rfl⟩
  clear s2
  go_wp2_with fail
  go_at_call 67
  refine (belw_any C a n cp 0 s _ c1).mono ?_
  rintro e w2 ⟨⟨x, rfl, x0, x1, x2⟩, ⟨j2, c2⟩, e2⟩
  have hx : x ≤ 12 := by
    by_cases hs : 0 < s
    · have := x1 hs; omega
    · have := x2 (by omega); omega
  clear x1 x2 c1
  go_wp2_with fail
  go_at_call 87
  refine (once_any C a n cp j2 60 _ c2 (by omega)).mono ?_
  rintro e w3 ⟨⟨bo, rfl⟩, ⟨j3, c3⟩, e3⟩
  have z2 := e2.2.2.2.1
  have z3 := e3.2.2.2.1
  have r3 : w3.cell? ⟨w.heap.size, 0, none⟩ = some (.slice none 0 0) := by rw [e3.cell (by omega) (by omega), e2.cell (by omega) (by omega)]; exact r1
  have f3 : w3.frozen? ⟨w.heap.size, 0, none⟩ = false := by rw [World.frozen?_of_block (w := w2) (a := ⟨w.heap.size, 0, none⟩) (e3.2.2.2.2 w.heap.size (by omega) (by omega)), World.frozen?_of_block (w := w1) (a := ⟨w.heap.size, 0, none⟩) (e2.2.2.2.2 w.heap.size (by omega) (by omega))]; exact f1
  have HB3 : Hid (Below w.heap.size w w3) := Lib.hid (HB1.out.trans ((e2.trans e3).below (by omega) (by omega)))
  clear r1 f1 e2 e3 c2 HB1
  cases bo with
  | false =>
    go_wp2_with fail
    go_at_call 85
    refine (dtab_loop C n cp j3 a x w3 c3 (fun p hp => by have h1 := HO.out p hp; omega) (by omega)).mono ?_
    rintro e w4 ⟨rv, L, rfl, ⟨lo, hr, hlo⟩, hL, ⟨j4, c4⟩, e4⟩
    obtain ⟨ra, rc, rfl⟩ := hr.slice
    have r4 : w4.cell? ⟨w.heap.size, 0, none⟩ = some (.slice none 0 0) := by rw [e4.cell (by omega) (by omega)]; exact r3
    have f4 : w4.frozen? ⟨w.heap.size, 0, none⟩ = false := by rw [World.frozen?_of_block (w := w3) (a := ⟨w.heap.size, 0, none⟩) (e4.2.2.2.2 w.heap.size (by omega) (by omega))]; exact f3
    have s4 := e4.2.2.2.1
    have HX := Lib.hid (And.intro hr (And.intro c4 e4))
    clear hr c4 e4 r3 f3 c3
    have s0 := fun (u : Value) => World.cell?_setCell_same _ _ u r4
    go_wp2_with fail
    refine bodyPost_ret (v := .tuple #[.pointer (some ⟨C, 0, none⟩), .agg #[.slice ra L.length rc]]) (by simp [results, Try.results64, go_sem, s0]) rfl ?_
    obtain ⟨hr, c4, e4⟩ := HX.out
    exact ⟨C, _, L, rfl, by omega, ⟨j4, c4.miss HO.out (by omega)⟩, hL, ⟨lo, (hr.setCell (p := ⟨w.heap.size, 0, none⟩) (.inl (by show w.heap.size < lo; omega)) _).wide (Nat.le_refl _) (by simp [World.setCell]), by omega⟩, (HB3.out.trans (e4.below (by omega) (by omega))).setCell (Nat.le_refl _) _⟩
  | true =>
    go_wp2_with fail
    go_at_call 85
    refine (dtab_loop C n cp j3 a 180 w3 c3 (fun p hp => by have h1 := HO.out p hp; omega) (by omega)).mono ?_
    rintro e w4 ⟨rv, L, rfl, ⟨lo, hr, hlo⟩, hL, ⟨j4, c4⟩, e4⟩
    obtain ⟨ra, rc, rfl⟩ := hr.slice
    have r4 : w4.cell? ⟨w.heap.size, 0, none⟩ = some (.slice none 0 0) := by rw [e4.cell (by omega) (by omega)]; exact r3
    have f4 : w4.frozen? ⟨w.heap.size, 0, none⟩ = false := by rw [World.frozen?_of_block (w := w3) (a := ⟨w.heap.size, 0, none⟩) (e4.2.2.2.2 w.heap.size (by omega) (by omega))]; exact f3
    have s4 := e4.2.2.2.1
    have HX := Lib.hid (And.intro hr (And.intro c4 e4))
    clear hr c4 e4 r3 f3 c3
    have s0 := fun (u : Value) => World.cell?_setCell_same _ _ u r4
    go_wp2_with fail
    refine bodyPost_ret (v := .tuple #[.pointer (some ⟨C, 0, none⟩), .agg #[.slice ra L.length rc]]) (by simp [results, Try.results64, go_sem, s0]) rfl ?_
    obtain ⟨hr, c4, e4⟩ := HX.out
    exact ⟨C, _, L, rfl, by omega, ⟨j4, c4.miss HO.out (by omega)⟩, hL, ⟨lo, (hr.setCell (p := ⟨w.heap.size, 0, none⟩) (.inl (by show w.heap.size < lo; omega)) _).wide (Nat.le_refl _) (by simp [World.setCell]), by omega⟩, (HB3.out.trans (e4.below (by omega) (by omega))).setCell (Nat.le_refl _) _⟩

end Go.Proofs.Ytgdnfglhlpnooaa
