/- The helpers of the laws over slices of numbers. -/
import Derived.Test.YtnpdbieadjgghaaGreatRows
import Derived.Test.YtnpdbieadjgghaaGreatGa
import Derived.WalkSpells
import Derived.WalkLawsBesides
import Derived.BigQuiet
import Derived.Deep.QuietTactic
import Derived.Deep.RegionHeld3
import Derived.WalkSmall
import Derived.Handy
import Derived.Test.YtnpdbieadjgghaaGreatGo0
namespace Go.Proofs.YtnpdbieadjgghaaGreat
open Go.RowKit


theorem at_one {Z : List Int} {n i : Nat} (hZ : Z.length = n * 1) (hi : i < n) : ∃ z, Z[i]? = some z := ⟨Z[i]'(by omega), List.getElem?_eq_getElem _⟩
theorem Tryz.info3 : (Tryz.prog.info? 3).map (fun i => (i.zero, i.size, i.bytes)) = some (some (.int .i64 0), 1, 8) := by kernel_rfl

end Go.Proofs.YtnpdbieadjgghaaGreat
