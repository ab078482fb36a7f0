/- The lists that the laws speak of. -/
import Derived.Test.YtgdnfglhlpnooaaGt
import Derived.Test.YtgdnfglhlpnooaaGk
import Derived.Deep.DeepCutAuto
namespace Go.Proofs.Ytgdnfglhlpnooaa
open Go.RowKit

/-- What a region leaves that calls and boxes what the call answers: the box at bx, the row that it points to, beside each other. -/
def BoxRow (base wx : World) (bx lo hi : Nat) (v : Value) (k m : Nat) (ZR : List Int) : Prop :=
  Row k wx lo hi v m ZR ∧ base.heap.size ≤ lo ∧ hi ≤ wx.heap.size ∧ base.heap.size ≤ bx ∧ bx < wx.heap.size ∧ (bx < lo ∨ hi ≤ bx) ∧ wx.cell? ⟨bx, 0, none⟩ = some v ∧ Below base.heap.size base wx

/-- n elements of k cells as a list of integers. -/
def zs (Z : Nat → Int) (n k : Nat) : List Int := (List.range (n * k)).map Z

end Go.Proofs.Ytgdnfglhlpnooaa
