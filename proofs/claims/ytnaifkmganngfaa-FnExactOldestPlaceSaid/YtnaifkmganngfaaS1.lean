/- Small functions of both sides. -/
import Derived.Test.YtnaifkmganngfaaMa
import Derived.Test.YtnaifkmganngfaaKc
import Derived.Lib.SmallJoins
namespace Go.Proofs.Ytnaifkmganngfaa
open Go.RowKit


set_option maxRecDepth 100000 in
set_option maxHeartbeats 4000000 in
theorem in_any (x a b : Int) (w : World) : Calls Try.prog 37 #[.int .i64 x, .int .i64 a, .int .i64 b] w fun e w' => e = .returned (.bool (inB x a b)) ∧ w = w' := by
  by_cases h0 : a ≤ x
  case neg =>
    have d0 : decide (a ≤ x) = false := decide_eq_false h0
    have e : inB x a b = false := by rw [Bool.eq_false_iff, ne_eq, inB_iff]; omega
    rw [e]
    clear e
    go_enter Try.func37, Try.ntmps37
    go_wp2
    go_ret
    exact ⟨rfl, rfl⟩
  case pos =>
    have d0 : decide (a ≤ x) = true := decide_eq_true h0
    by_cases h1 : x ≤ b
    case neg =>
      have d1 : decide (x ≤ b) = false := decide_eq_false h1
      have e : inB x a b = false := by rw [Bool.eq_false_iff, ne_eq, inB_iff]; omega
      rw [e]
      clear e
      go_enter Try.func37, Try.ntmps37
      go_wp2
      go_ret
      exact ⟨rfl, rfl⟩
    case pos =>
      have d1 : decide (x ≤ b) = true := decide_eq_true h1
      have e : inB x a b = true := by rw [inB_iff]; omega
      rw [e]
      clear e
      go_enter Try.func37, Try.ntmps37
      go_wp2
      go_ret
      exact ⟨rfl, rfl⟩

theorem val_any (v : Int) (w : World) : Calls Try.prog 39 #[.int .i64 v] w fun e w' => e = .returned (.bool (vB v)) ∧ w = w' := by
  rw [← inB_v]
  go_enter Try.func39, Try.ntmps39
  go_wp2_with (go_at_call 37; refine (in_any v 0 1000000 _).mono ?_; rintro e w2 ⟨rfl, rfl⟩)
  go_ret
  exact ⟨rfl, rfl⟩

set_option maxRecDepth 100000 in
set_option maxHeartbeats 4000000 in
theorem vok_any (v : Int) (w : World) : Calls Try.prog 53 #[.int .i64 v] w fun e w' => e = .returned (.bool (vB v)) ∧ w = w' := by
  by_cases h0 : 0 ≤ v
  case neg =>
    have d0 : decide (0 ≤ v) = false := decide_eq_false h0
    have e : vB v = false := by rw [Bool.eq_false_iff, ne_eq, vB_iff]; omega
    rw [e]
    clear e
    go_enter Try.func53, Try.ntmps53
    go_wp2
    go_ret
    exact ⟨rfl, rfl⟩
  case pos =>
    have d0 : decide (0 ≤ v) = true := decide_eq_true h0
    by_cases h1 : v ≤ 1000000
    case neg =>
      have d1 : decide (v ≤ 1000000) = false := decide_eq_false h1
      have e : vB v = false := by rw [Bool.eq_false_iff, ne_eq, vB_iff]; omega
      rw [e]
      clear e
      go_enter Try.func53, Try.ntmps53
      go_wp2
      go_ret
      exact ⟨rfl, rfl⟩
    case pos =>
      have d1 : decide (v ≤ 1000000) = true := decide_eq_true h1
      have e : vB v = true := by rw [vB_iff]; omega
      rw [e]
      clear e
      go_enter Try.func53, Try.ntmps53
      go_wp2
      go_ret
      exact ⟨rfl, rfl⟩

set_option maxRecDepth 100000 in
set_option maxHeartbeats 4000000 in
theorem ssz_any (k : Nat) (hk : k < 3) (w : World) : Calls Try.prog 38 #[.int .i64 (k : Int)] w fun e w' => e = .returned (.int .i64 (szK k)) ∧ w = w' := by
  go_enter Try.func38, Try.ntmps38
  go_wp2
  go_loopw [3, 4] (fun s i wr => ∃ (j : Nat), j ≤ k ∧ i = .int .i64 (j : Int) ∧ s = .int .i64 (szK j) ∧ w = wr) (fun _ i _ => k - (intOf i).toNat)
  case atStart => exact ⟨0, Nat.zero_le _, rfl, rfl, rfl⟩
  case round =>
    obtain ⟨j, hj, rfl, rfl, rfl⟩ := hrel
    by_cases hlt : j < k
    case neg =>
      obtain rfl : j = k := by omega
      have hge : ¬ ((j : Int) < (j : Int)) := by omega
      go_wp2
      go_ret
      exact ⟨rfl, rfl⟩
    case pos =>
      have q1 : (j : Int) < (k : Int) := by omega
      have hs := szK_in (k := j) (by omega)
      have hn : szK (j + 1) = szK j * 4 := by unfold szK; rw [Int.pow_succ]
      have hw : IntKind.i64.wrap (szK j * 4) = szK (j + 1) := by rw [hn]; exact IntWalk.i64_in _ (by omega)
      obtain ⟨s0, hs0⟩ : ∃ s, s = szK j := ⟨_, rfl⟩
      obtain ⟨s1, hs1⟩ : ∃ s, s = szK (j + 1) := ⟨_, rfl⟩
      rw [← hs0, ← hs1] at hw
      rw [← hs0]
      have H1 := Lib.hid hs1
      clear hs hn hs0 hs1
      go_wp2
      go_roundw
      case rel => exact ⟨j + 1, by omega, by go_num, by rw [H1.out], by first | rfl | trivial⟩
      case measure => simp [intOf]; omega

set_option maxRecDepth 100000 in
set_option maxHeartbeats 4000000 in
theorem isz_any (k : Nat) (hk : k < 3) (w : World) : Calls Try.prog 45 #[.int .i64 (k : Int)] w fun e w' => e = .returned (.int .i64 (szK k)) ∧ w = w' := by
  go_enter Try.func45, Try.ntmps45
  go_wp2
  go_loopw [3, 5] (fun s i wr => ∃ (j : Nat), j ≤ k ∧ i = .int .i64 (j : Int) ∧ s = .int .i64 (szK j) ∧ w = wr) (fun _ i _ => k - (intOf i).toNat)
  case atStart => exact ⟨0, Nat.zero_le _, rfl, rfl, rfl⟩
  case round =>
    obtain ⟨j, hj, rfl, rfl, rfl⟩ := hrel
    by_cases hlt : j < k
    case neg =>
      obtain rfl : j = k := by omega
      have hge : ¬ ((j : Int) < (j : Int)) := by omega
      go_wp2
      go_ret
      exact ⟨rfl, rfl⟩
    case pos =>
      have q1 : (j : Int) < (k : Int) := by omega
      have hs := szK_in (k := j) (by omega)
      have hn : szK (j + 1) = szK j * 4 := by unfold szK; rw [Int.pow_succ]
      have hw : IntKind.i64.wrap (szK j * 4) = szK (j + 1) := by rw [hn]; exact IntWalk.i64_in _ (by omega)
      obtain ⟨s0, hs0⟩ : ∃ s, s = szK j := ⟨_, rfl⟩
      obtain ⟨s1, hs1⟩ : ∃ s, s = szK (j + 1) := ⟨_, rfl⟩
      rw [← hs0, ← hs1] at hw
      rw [← hs0]
      have H1 := Lib.hid hs1
      clear hs hn hs0 hs1
      go_wp2
      go_roundw
      case rel => exact ⟨j + 1, by omega, by go_num, by rw [H1.out], by first | rfl | trivial⟩
      case measure => simp [intOf]; omega

end Go.Proofs.Ytnaifkmganngfaa
