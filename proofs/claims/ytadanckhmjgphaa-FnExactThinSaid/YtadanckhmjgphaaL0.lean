/- The lists that the laws speak of. -/
import Derived.Test.YtadanckhmjgphaaGs
import Derived.Test.YtadanckhmjgphaaGk
import Derived.Test.YtadanckhmjgphaaGi
import Derived.Deep.DeepCutAuto
namespace Go.Proofs.Ytadanckhmjgphaa
open Go.RowKit

/-- n elements of k cells as a list of integers. -/
def zs (Z : Nat → Int) (n k : Nat) : List Int := (List.range (n * k)).map Z

end Go.Proofs.Ytadanckhmjgphaa
