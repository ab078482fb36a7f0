/- The lists that the laws speak of. -/
import Derived.Test.YtnpdbieadjgghaaGg
import Derived.Test.YtnpdbieadjgghaaGk
import Derived.Deep.DeepCutAuto
namespace Go.Proofs.Ytnpdbieadjgghaa
open Go.RowKit


/-- n elements of k cells as a list of integers. -/
def zs (Z : Nat → Int) (n k : Nat) : List Int := (List.range (n * k)).map Z

end Go.Proofs.Ytnpdbieadjgghaa
