/- The lists that the laws speak of. -/
import Derived.Test.YtfpafjdakipccaaGw
import Derived.Test.YtfpafjdakipccaaGy
import Derived.Test.YtfpafjdakipccaaGk
import Derived.Test.YtfpafjdakipccaaGk2
import Derived.Deep.DeepCutAuto
namespace Go.Proofs.Ytfpafjdakipccaa
open Go.RowKit


/-- n elements of k cells as a list of integers. -/
def zs (Z : Nat → Int) (n k : Nat) : List Int := (List.range (n * k)).map Z

end Go.Proofs.Ytfpafjdakipccaa
