/- A row opened. -/
import Derived.Test.YtnaifkmganngfaaGa
namespace Go.Proofs.Ytnaifkmganngfaa
open Go.RowKit

/-- A row is a slice; if it holds something, its cells lie in one block. -/
theorem Row.opened {k : Nat} {w : World} {lo hi : Nat} {v : Value} {n : Nat} {Z : List Int} (h : Row k w lo hi v n Z) :
    ∃ a c, v = .slice a n c ∧ n ≤ 1100000 ∧ (0 < n → ∃ g, a = some ⟨g, 0, none⟩ ∧ g < hi ∧ ∀ q z, Z[q]? = some z → w.cell? ⟨g, q, none⟩ = some (.int .i64 z)) := by
  rcases h.2 with ⟨rfl, a, c, rfl⟩ | ⟨g, cap, rfl, _, h2, h3, h4, _⟩
  · exact ⟨a, c, rfl, by omega, fun h => absurd h (Nat.lt_irrefl _)⟩
  · exact ⟨_, cap, rfl, h3, fun _ => ⟨g, rfl, h2, h4⟩⟩

end Go.Proofs.Ytnaifkmganngfaa
