/- A table of costs that has been laid down. -/
import Derived.Test.YtnpdbieadjgghaaGreatW7
import Derived.Test.YtnpdbieadjgghaaGreatQg
namespace Go.Proofs.YtnpdbieadjgghaaGreat
open Go.RowKit

/-- The world behind a table of costs that has been laid down. -/
theorem tab_laid (v2 : World) (L : List Ed) {W : World} (hW : W = (v2.alloc (.cells Tryz.zeroCells80 80)).setRow v2.heap.size (tabOf L)) : Below v2.heap.size v2 W ∧ W.heap.size = v2.heap.size + 1 ∧ W.heap[v2.heap.size]? = some (.cells (tabOf L) 80 (0, 0)) := by
  subst hW
  exact ⟨below_setRow ((Below.refl _ _).alloc (Nat.le_refl _) _) (Nat.le_refl _) _, by simp, setRow_heap _ _ _ _ _ _ (heap_alloc_new _ _)⟩
theorem tab_cell {w : World} {T : Nat} {L : List Ed} (h : w.heap[T]? = some (.cells (tabOf L) 80 (0, 0))) {x y : Int} (hx : 0 ≤ x ∧ x < 10) (hy : 0 ≤ y ∧ y < 10) : w.cell? ⟨T, x.toNat * 10 + y.toNat, none⟩ = some (.int .i64 (cst L x y)) := by
  rw [cell_of_row w T _ _ _ _ h]; exact tabOf_at L x y hx hy


end Go.Proofs.YtnpdbieadjgghaaGreat
