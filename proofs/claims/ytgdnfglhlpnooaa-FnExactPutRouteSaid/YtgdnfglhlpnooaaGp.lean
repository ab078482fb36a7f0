/- The helpers of the laws over prefixes. -/
import Derived.Test.YtgdnfglhlpnooaaRows
import Derived.Test.YtgdnfglhlpnooaaGa
import Derived.WalkSpells
import Derived.WalkLawsBesides
import Derived.BigQuiet
import Derived.Deep.QuietTactic
import Derived.Deep.RegionHeld3
import Derived.WalkSmall
import Derived.Handy
namespace Go.Proofs.Ytgdnfglhlpnooaa
open Go.RowKit


set_option maxHeartbeats 1000000 in
theorem toPrefix_any (x0 x1 : Int) (w : World) :
    Calls Try.prog 14 #[.agg #[.int .i64 x0, .int .i64 x1]] w fun e w' => e = .returned (.agg #[.int .i64 x0, .int .i64 x1]) ∧ Below w.heap.size w w' := by
  go_enter Try.func14, Try.ntmps14
  go_wp2
  go_returns
  exact ⟨rfl, by go_grown⟩

end Go.Proofs.Ytgdnfglhlpnooaa
