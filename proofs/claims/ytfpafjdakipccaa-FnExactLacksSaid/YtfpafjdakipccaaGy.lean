/- The helpers of the laws over slices of bytes. -/
import Derived.Test.YtfpafjdakipccaaRows
import Derived.Test.YtfpafjdakipccaaGa
import Derived.Test.YtfpafjdakipccaaGx
import Derived.WalkSpells
import Derived.WalkLawsBesides
import Derived.BigQuiet
import Derived.Deep.QuietTactic
import Derived.Deep.RegionHeld3
import Derived.WalkSmall
import Derived.Handy
namespace Go.Proofs.Ytfpafjdakipccaa
open Go.RowKit


theorem drewN_below (w : World) (q : Nat) : Below w.heap.size w (w.drewN q) := ⟨rfl, rfl, rfl, Nat.le_refl _, fun _ _ => rfl⟩

/-- n elements of k cells as a list of integers. -/
def zs (Z : Nat → Int) (n k : Nat) : List Int := (List.range (n * k)).map Z

end Go.Proofs.Ytfpafjdakipccaa
