/- The lists that the laws speak of. -/
import Derived.Test.YtjenjdhoblcohaaGg
import Derived.Test.YtjenjdhoblcohaaGk
import Derived.Deep.DeepCutAuto
namespace Go.Proofs.Ytjenjdhoblcohaa
open Go.RowKit


/-- n elements of k cells as a list of integers. -/
def zs (Z : Nat → Int) (n k : Nat) : List Int := (List.range (n * k)).map Z

end Go.Proofs.Ytjenjdhoblcohaa
