/- The helpers of the laws over slices of bytes. -/
import Derived.Test.YtfpafjdakipccaaRows
import Derived.Test.YtfpafjdakipccaaGa
import Derived.Test.YtfpafjdakipccaaGx
import Derived.WalkSpells
import Derived.WalkLawsBesides
import Derived.BigQuiet
import Derived.Deep.QuietTactic
import Derived.Deep.RegionHeld3
import Derived.WalkSmall
import Derived.Handy
namespace Go.Proofs.Ytfpafjdakipccaa
open Go.RowKit
def zs (Z : Nat -> Int) (n k : Nat) : List Int := (List.range (n * k)).map Z
end Go.Proofs.Ytfpafjdakipccaa
