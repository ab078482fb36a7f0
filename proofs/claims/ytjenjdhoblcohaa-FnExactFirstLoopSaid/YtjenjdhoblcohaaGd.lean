/- The model: whether the chapter allows a graph and nodes. -/
import Derived.Test.YtjenjdhoblcohaaRa
import Derived.Test.YtjenjdhoblcohaaWj
import Derived.Test.YtjenjdhoblcohaaW5
import Derived.Test.YtjenjdhoblcohaaLm
import Derived.Test.YtjenjdhoblcohaaReg
namespace Go.Proofs.Ytjenjdhoblcohaa
open Go.RowKit

/-- A row of numbers of one's own is answered. -/
def LjPost (Z : List Int) (w : World) (e : Ending) (w' : World) : Prop := ∃ rv, e = .returned rv ∧ Row 1 w' w.heap.size w'.heap.size rv Z.length Z ∧ Below w.heap.size w w'
/-- The graph's own box and its edges, while nothing that was there turns. -/
structure Gx (w wr : World) (N : Int) (ad : Option Addr) (n cp lo hi : Nat) (L : List Ed) : Prop where
  below : Below w.heap.size w wr
  c0 : wr.cell? ⟨w.heap.size, 0, none⟩ = some (.int .i64 N)
  c1 : wr.cell? ⟨w.heap.size, 1, none⟩ = some (.slice ad n cp)
  row : Row 3 wr lo hi (.slice ad n cp) n (flat L)
  lt : w.heap.size < wr.heap.size
  hh : hi ≤ w.heap.size
theorem Gx.start {w : World} {N : Int} {ad : Option Addr} {n cp lo hi : Nat} {L : List Ed} (hr : Row 3 w lo hi (.slice ad n cp) n (flat L)) (hh : hi ≤ w.heap.size) : Gx w (w.alloc (.cells #[.int .i64 N, .slice ad n cp] 29)) N ad n cp lo hi L :=
  ⟨(Below.refl _ _).alloc (Nat.le_refl _) _, by simp, by simp, hr.below ((Below.refl w.heap.size w).alloc (Nat.le_refl _) _) hh, by simp, hh⟩
theorem Gx.grow {w wr w2 : World} {N : Int} {ad : Option Addr} {n cp lo hi : Nat} {L : List Ed} (h : Gx w wr N ad n cp lo hi L) (b : Below wr.heap.size wr w2) : Gx w w2 N ad n cp lo hi L :=
  ⟨h.below.trans (b.mono h.below.size), by rw [b.cell (p := ⟨w.heap.size, 0, none⟩) h.lt]; exact h.c0, by rw [b.cell (p := ⟨w.heap.size, 1, none⟩) h.lt]; exact h.c1, h.row.below b (by have := h.hh; have := h.lt; omega), Nat.lt_of_lt_of_le h.lt b.size, h.hh⟩
theorem Gx.hi {w wr : World} {N : Int} {ad : Option Addr} {n cp lo hi : Nat} {L : List Ed} (h : Gx w wr N ad n cp lo hi L) : hi ≤ wr.heap.size := by have := h.hh; have := h.lt; omega
theorem Gx.drew {w wr : World} {N : Int} {ad : Option Addr} {n cp lo hi : Nat} {L : List Ed} (h : Gx w wr N ad n cp lo hi L) : Gx w wr.drew N ad n cp lo hi L := h.grow (Below.refl _ _).drew
theorem Gx.grownBy {w wr w4 : World} {N : Int} {ad : Option Addr} {n cp lo hi : Nat} {L : List Ed} {row : Option Nat} (h : Gx w wr N ad n cp lo hi L) (hg : wr.grownBy w4 row) (hr : ∀ g, row = some g → w.heap.size < g) : Gx w w4 N ad n cp lo hi L := by
  have b : Below (w.heap.size + 1) wr w4 := ⟨hg.os, hg.tape, hg.output, hg.size, fun k hk => hg.block k (by have := h.lt; omega) (fun e => by have := hr k e.symm; omega)⟩
  exact ⟨h.below.trans (b.mono (by omega)), by rw [b.cell (p := ⟨w.heap.size, 0, none⟩) (by show w.heap.size < _; omega)]; exact h.c0, by rw [b.cell (p := ⟨w.heap.size, 1, none⟩) (by show w.heap.size < _; omega)]; exact h.c1, h.row.below b (by have := h.hh; omega), Nat.lt_of_lt_of_le h.lt hg.size, h.hh⟩
theorem scost_cst {N : Int} {L : List Ed} (hG : gok N L = true) {x y : Int} (h : x ≠ y) : scost N L x y = cst L x y := by
  unfold scost
  by_cases h1 : ndB N x = true ∧ ndB N y = true
  · rw [if_pos h1, if_neg h]
  · rw [if_neg h1]
    refine (cst_out hG ?_).symm
    unfold ndB at h1
    rw [inB_iff, inB_iff] at h1
    by_cases h2 : 0 ≤ x ∧ x < N
    · right; intro h3; exact h1 ⟨⟨h2.1, by omega⟩, ⟨h3.1, by omega⟩⟩
    · exact .inl h2

end Go.Proofs.Ytjenjdhoblcohaa
