/- The small functions of chapter 1 as contracts, for all arguments within the ranges that each names. -/
import Derived.Test.YtgdnfglhlpnooaaRows
import Derived.Test.YtgdnfglhlpnooaaMa
import Derived.Test.YtgdnfglhlpnooaaGa
import Derived.WalkKit
import Derived.WalkSpells
import Derived.WalkLawsBesides
import Derived.BigQuiet
import Derived.Deep.QuietTactic
import Derived.Deep.RegionHeld3
import Derived.Lib.Hide
import Derived.IntWalk
import Derived.WalkSmall
import Derived.Handy
namespace Go.Proofs.Ytgdnfglhlpnooaa
open Go.RowKit

set_option maxHeartbeats 400000 in
theorem in_any (x lo hi : Int) (w : World) :
    Calls Try.prog 70 #[.int .i64 x, .int .i64 lo, .int .i64 hi] w fun e w' => e = .returned (.bool (inB x lo hi)) ∧ w = w' := by
  by_cases h1 : lo ≤ x
  · by_cases h2 : x ≤ hi
    · rw [inB_true h1 h2]
      go_enter Try.func70, Try.ntmps70
      go_wp2
      go_ret
      exact ⟨rfl, rfl⟩
    · rw [inB_false (by omega)]
      go_enter Try.func70, Try.ntmps70
      go_wp2
      go_ret
      exact ⟨rfl, rfl⟩
  · rw [inB_false (by omega)]
    go_enter Try.func70, Try.ntmps70
    go_wp2
    go_ret
    exact ⟨rfl, rfl⟩

set_option maxHeartbeats 400000 in
theorem addr_any (x : Int) (w : World) :
    Calls Try.prog 68 #[.int .i64 x] w fun e w' => e = .returned (.bool (inB x 0 65535)) ∧ w = w' := by
  go_enter Try.func68, Try.ntmps68
  go_wp2_with (go_at_call 70; refine (in_any _ _ _ _).mono ?_; rintro e w' ⟨rfl, rfl⟩)
  go_ret
  exact ⟨rfl, rfl⟩

set_option maxHeartbeats 400000 in
theorem iaddr_any (x : Int) (w : World) :
    Calls Try.prog 99 #[.int .i64 x] w fun e w' => e = .returned (.bool (inB x 0 65535)) ∧ w = w' := by
  by_cases h1 : 0 ≤ x
  · by_cases h2 : x < 65536
    · rw [inB_true h1 (by omega)]
      go_enter Try.func99, Try.ntmps99
      go_wp2
      go_ret
      exact ⟨rfl, rfl⟩
    · rw [inB_false (by omega)]
      go_enter Try.func99, Try.ntmps99
      go_wp2
      go_ret
      exact ⟨rfl, rfl⟩
  · rw [inB_false (by omega)]
    go_enter Try.func99, Try.ntmps99
    go_wp2
    go_ret
    exact ⟨rfl, rfl⟩

set_option maxHeartbeats 400000 in
theorem spsize_any (n : Int) (w : World) (h0 : 0 ≤ n) (h1 : n ≤ 16) :
    Calls Try.prog 71 #[.int .i64 n] w fun e w' => e = .returned (.int .i64 (psz n)) ∧ w = w' := by
  have hb : wrap64 (2 ^ (16 - n).toNat) = psz n := by
    have a := psz_pos n h0 h1; have b := psz_le n h0 h1; unfold psz at *; rw [w_in (by omega) (by omega)]
  go_enter Try.func71, Try.ntmps71
  go_wp2
  go_ret
  exact ⟨ret_int hb, rfl⟩

set_option maxHeartbeats 400000 in
theorem size_any (net n : Int) (w : World) (h0 : 0 ≤ n) (h1 : n ≤ 16) :
    Calls Try.prog 95 #[.agg #[.int .i64 net, .int .i64 n]] w fun e w' => e = .returned (.int .i64 (psz n)) ∧ Below w.heap.size w w' := by
  have hb : wrap64 (2 ^ (16 - n).toNat) = psz n := by
    have a := psz_pos n h0 h1; have b := psz_le n h0 h1; unfold psz at *; rw [w_in (by omega) (by omega)]
  go_enter Try.func95, Try.ntmps95
  go_wp2
  go_ret
  exact ⟨ret_int hb, (Below.refl _ _).alloc (Nat.le_refl _) _⟩

set_option maxHeartbeats 4000000 in
theorem spok_any (net n : Int) (w : World) :
    Calls Try.prog 69 #[.agg #[.int .i64 net, .int .i64 n]] w fun e w' => e = .returned (.bool (pokB net n)) ∧ Below w.heap.size w w' := by
  unfold pokB
  by_cases h1 : 0 ≤ n ∧ n ≤ 16
  · obtain ⟨h0, h1⟩ := h1
    have hn := inB_true h0 h1
    by_cases h2 : 0 ≤ net ∧ net ≤ 65535
    · obtain ⟨h2, h3⟩ := h2
      have ha := inB_true h2 h3
      rw [hn, ha, Bool.and_self, Bool.true_and]
      have hp := psz_pos n h0 h1
      have hq := psz_le n h0 h1
      have hz : ¬ (psz n = 0) := by omega
      have ht : net.tmod (psz n) = net % psz n := Int.tmod_eq_emod_of_nonneg h2
      go_enter Try.func69, Try.ntmps69
      go_wp2_with fail
      go_quiet (first | ((go_at_call 70; exact quiet_same (in_any _ _ _ _))) | ((go_at_call 68; exact quiet_same (addr_any _ _))) | ((go_at_call 71; exact quiet_same (spsize_any _ _ h0 h1))))
      go_wp2_with fail
      go_ret
      exact ⟨rfl, below_drewN ((Below.refl _ _).alloc (Nat.le_refl _) _) _⟩
    · have ha := inB_false h2
      rw [hn, ha, Bool.and_false, Bool.false_and]
      clear h2
      go_enter Try.func69, Try.ntmps69
      go_wp2_with fail
      go_quiet (first | ((go_at_call 70; exact quiet_same (in_any _ _ _ _))) | ((go_at_call 68; exact quiet_same (addr_any _ _))))
      go_wp2_with fail
      go_ret
      exact ⟨rfl, below_drewN ((Below.refl _ _).alloc (Nat.le_refl _) _) _⟩
  · have hn := inB_false h1
    rw [hn, Bool.false_and, Bool.false_and]
    clear h1
    go_enter Try.func69, Try.ntmps69
    go_wp2_with fail
    go_quiet (first | ((go_at_call 70; exact quiet_same (in_any _ _ _ _))))
    go_wp2_with fail
    go_ret
    exact ⟨rfl, below_drewN ((Below.refl _ _).alloc (Nat.le_refl _) _) _⟩

end Go.Proofs.Ytgdnfglhlpnooaa
