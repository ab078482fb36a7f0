/- The halves, the last address and the equality of prefixes in this seat, as contracts. -/
import Derived.Test.YtgdnfglhlpnooaaWb
import Derived.Test.YtgdnfglhlpnooaaReg
namespace Go.Proofs.Ytgdnfglhlpnooaa
open Go.RowKit

set_option maxHeartbeats 1000000 in
theorem last_any (net n : Int) (w : World) (h0 : 0 ≤ n) (h1 : n ≤ 16) (h2 : 0 ≤ net) (h3 : net ≤ 65535) :
    Calls Try.prog 126 #[.agg #[.int .i64 net, .int .i64 n]] w fun e w' => e = .returned (.int .i64 (net + psz n - 1)) ∧ Below w.heap.size w w' := by
  have hp := psz_pos n h0 h1
  have hq := psz_le n h0 h1
  have e1 : IntKind.i64.wrap (net + psz n) = net + psz n := IntWalk.i64_in _ (by omega)
  have e2 : IntKind.i64.wrap (net + psz n - 1) = net + psz n - 1 := IntWalk.i64_in _ (by omega)
  go_enter Try.func126, Try.ntmps126
  go_wp2_with fail
  go_region_held3 (fun w' => w'.cell? ⟨w.heap.size, 0, none⟩ = some (.int .i64 net) ∧ w'.cell? ⟨w.heap.size, 1, none⟩ = some (.int .i64 n) ∧ w.heap.size < w'.heap.size ∧ Below w.heap.size w w') (first | assumption | exact box_keep0 _ _ _ _ | exact box_keep (by assumption) (by assumption))
    (first | (go_at_call 95; refine (size_any _ _ _ h0 h1).mono ?_; rintro e w2 ⟨rfl, hb⟩))
  go_wp2_with fail
  go_ret
  exact ⟨rfl, box_below (by assumption)⟩

end Go.Proofs.Ytgdnfglhlpnooaa
