/- The lists that the laws speak of. -/
import Derived.Test.YtcaoohcfoccedaaGw
import Derived.Test.YtcaoohcfoccedaaGy
import Derived.Test.YtcaoohcfoccedaaGk
import Derived.Test.YtcaoohcfoccedaaGk2
import Derived.Deep.DeepCutAuto
namespace Go.Proofs.Ytcaoohcfoccedaa
open Go.RowKit


/-- n elements of k cells as a list of integers. -/
def zs (Z : Nat → Int) (n k : Nat) : List Int := (List.range (n * k)).map Z

end Go.Proofs.Ytcaoohcfoccedaa
