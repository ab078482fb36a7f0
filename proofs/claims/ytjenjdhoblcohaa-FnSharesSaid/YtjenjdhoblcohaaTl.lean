/- A table of costs that has been laid down. -/
import Derived.Test.YtjenjdhoblcohaaW6
import Derived.Test.YtjenjdhoblcohaaQg
namespace Go.Proofs.Ytjenjdhoblcohaa
open Go.RowKit

def rowT (L : List Ed) (x : Int) : Array Value := (tabOf L).extract (x.toNat * 10) (x.toNat * 10 + 10)
theorem index68 (L : List Ed) (x : Int) (h : 0 ≤ x ∧ x < 10) (w : World) : (Instr.index 93 (.agg (tabOf L)) (.int .i64 x)).run Try.prog w = .ok (.agg (rowT L x)) w := by
  simp [Instr.index, run_underlying Try.underlying93, asIntOf, h, go_sem, part, rowT]
theorem tabOf_at (L : List Ed) (x y : Int) (hx : 0 ≤ x ∧ x < 10) (hy : 0 ≤ y ∧ y < 10) : (tabOf L)[x.toNat * 10 + y.toNat]? = some (.int .i64 (cst L x y)) := by
  unfold tabOf
  rw [tabA_at _ (by omega), show (x.toNat * 10 + y.toNat) / 10 = x.toNat by omega, show (x.toNat * 10 + y.toNat) % 10 = y.toNat by omega, show ((x.toNat : Nat) : Int) = x by omega, show ((y.toNat : Nat) : Int) = y by omega]
theorem rowT_at (L : List Ed) (x y : Int) (hx : 0 ≤ x ∧ x < 10) (hy : 0 ≤ y ∧ y < 10) : (rowT L x)[y.toNat]? = some (.int .i64 (cst L x y)) := by
  unfold rowT
  rw [Array.getElem?_extract, if_pos (by rw [show (tabOf L).size = 100 by rw [tabOf, tabA_size]]; omega)]
  exact tabOf_at L x y hx hy
theorem index66 (L : List Ed) (x y : Int) (hx : 0 ≤ x ∧ x < 10) (hy : 0 ≤ y ∧ y < 10) (w : World) : (Instr.index 88 (.agg (rowT L x)) (.int .i64 y)).run Try.prog w = .ok (.int .i64 (cst L x y)) w := by
  have h := rowT_at L x y hx hy
  simp [Instr.index, run_underlying Try.underlying88, asIntOf, hy, go_sem, part, h]
theorem costs_any (N : Int) (lo hi n : Nat) (v : Value) (L : List Ed) (w : World) (hG : gok N L = true) (hL : L.length = n) (hr : Row 3 w lo hi v n (flat L)) (hh : hi ≤ w.heap.size) :
    Calls Try.prog 75 #[.agg #[.int .i64 N, v]] w fun e w' => e = .returned (.agg (tabOf L)) ∧ Below w.heap.size w w' := by
  obtain ⟨a, c, rfl, hn, hc⟩ := hr.opened
  refine costs_row N a n c L w hG hL hn fun h0 => ?_
  obtain ⟨g, h1, h2, h3⟩ := hc h0
  exact ⟨g, h1, by omega, h3⟩
def cofM (N : Int) (L : List Ed) (x y : Int) : Int := if gok N L = true then scost N L x y else -1

/-- The world behind a table of costs that has been laid down. -/
theorem tab_laid (v2 : World) (L : List Ed) {W : World} (hW : W = (v2.alloc (.cells Try.zeroCells93 93)).setRow v2.heap.size (tabOf L)) : Below v2.heap.size v2 W ∧ W.heap.size = v2.heap.size + 1 ∧ W.heap[v2.heap.size]? = some (.cells (tabOf L) 93 (0, 0)) := by
  subst hW
  exact ⟨below_setRow ((Below.refl _ _).alloc (Nat.le_refl _) _) (Nat.le_refl _) _, by simp, setRow_heap _ _ _ _ _ _ (heap_alloc_new _ _)⟩
theorem tab_cell {w : World} {T : Nat} {L : List Ed} (h : w.heap[T]? = some (.cells (tabOf L) 93 (0, 0))) {x y : Int} (hx : 0 ≤ x ∧ x < 10) (hy : 0 ≤ y ∧ y < 10) : w.cell? ⟨T, x.toNat * 10 + y.toNat, none⟩ = some (.int .i64 (cst L x y)) := by
  rw [cell_of_row w T _ _ _ _ h]; exact tabOf_at L x y hx hy

end Go.Proofs.Ytjenjdhoblcohaa
