/- The small functions of histograms, as contracts. -/
import Derived.Test.YtcchoiobdcaboaaMh
import Derived.Test.YtcchoiobdcaboaaGh
import Derived.Test.YtcchoiobdcaboaaBt
import Derived.StillTailTactics
namespace Go.Proofs.Ytcchoiobdcaboaa
open Go.RowKit


def inB (x a b : Int) : Bool := decide (a ≤ x) && decide (x ≤ b)
theorem inB_iff {x a b : Int} : inB x a b = true ↔ a ≤ x ∧ x ≤ b := by simp [inB]
theorem inB_v (v : Int) : inB v 0 1000000 = vB v := rfl

set_option maxRecDepth 100000 in
set_option maxHeartbeats 4000000 in
theorem in_any (x a b : Int) (w : World) : Calls Try.prog 54 #[.int .i64 x, .int .i64 a, .int .i64 b] w fun e w' => e = .returned (.bool (inB x a b)) ∧ w = w' := by
  by_cases h0 : a ≤ x
  case neg =>
    have d0 : decide (a ≤ x) = false := decide_eq_false h0
    have e : inB x a b = false := by rw [Bool.eq_false_iff, ne_eq, inB_iff]; omega
    rw [e]
    clear e
    go_enter Try.func54, Try.ntmps54
    go_wp2
    go_ret
    exact ⟨rfl, rfl⟩
  case pos =>
    have d0 : decide (a ≤ x) = true := decide_eq_true h0
    by_cases h1 : x ≤ b
    case neg =>
      have d1 : decide (x ≤ b) = false := decide_eq_false h1
      have e : inB x a b = false := by rw [Bool.eq_false_iff, ne_eq, inB_iff]; omega
      rw [e]
      clear e
      go_enter Try.func54, Try.ntmps54
      go_wp2
      go_ret
      exact ⟨rfl, rfl⟩
    case pos =>
      have d1 : decide (x ≤ b) = true := decide_eq_true h1
      have e : inB x a b = true := by rw [inB_iff]; omega
      rw [e]
      clear e
      go_enter Try.func54, Try.ntmps54
      go_wp2
      go_ret
      exact ⟨rfl, rfl⟩

theorem val_any (v : Int) (w : World) : Calls Try.prog 52 #[.int .i64 v] w fun e w' => e = .returned (.bool (vB v)) ∧ w = w' := by
  rw [← inB_v]
  go_enter Try.func52, Try.ntmps52
  go_wp2_with (go_at_call 54; refine (in_any v 0 1000000 _).mono ?_; rintro e w2 ⟨rfl, rfl⟩)
  go_ret
  exact ⟨rfl, rfl⟩

set_option maxRecDepth 100000 in
set_option maxHeartbeats 4000000 in
theorem vok_any (v : Int) (w : World) : Calls Try.prog 48 #[.int .i64 v] w fun e w' => e = .returned (.bool (vB v)) ∧ w = w' := by
  by_cases h0 : 0 ≤ v
  case neg =>
    have d0 : decide (0 ≤ v) = false := decide_eq_false h0
    have e : vB v = false := by rw [Bool.eq_false_iff, ne_eq, vB_iff]; omega
    rw [e]
    clear e
    go_enter Try.func48, Try.ntmps48
    go_wp2
    go_ret
    exact ⟨rfl, rfl⟩
  case pos =>
    have d0 : decide (0 ≤ v) = true := decide_eq_true h0
    by_cases h1 : v ≤ 1000000
    case neg =>
      have d1 : decide (v ≤ 1000000) = false := decide_eq_false h1
      have e : vB v = false := by rw [Bool.eq_false_iff, ne_eq, vB_iff]; omega
      rw [e]
      clear e
      go_enter Try.func48, Try.ntmps48
      go_wp2
      go_ret
      exact ⟨rfl, rfl⟩
    case pos =>
      have d1 : decide (v ≤ 1000000) = true := decide_eq_true h1
      have e : vB v = true := by rw [vB_iff]; omega
      rw [e]
      clear e
      go_enter Try.func48, Try.ntmps48
      go_wp2
      go_ret
      exact ⟨rfl, rfl⟩

set_option maxRecDepth 100000 in
set_option maxHeartbeats 4000000 in
theorem sbo_any (v : Int) (w : World) : Calls Try.prog 25 #[.int .i64 v] w fun e w' => e = .returned (.int .i64 (bkt v)) ∧ w = w' := by
  cases hv : vB v with
  | false =>
    rw [bkt_no hv]
    go_enter Try.func25, Try.ntmps25
    go_wp2_with (go_at_call 52; refine (val_any v _).mono ?_; rw [hv]; rintro e w2 ⟨rfl, rfl⟩)
    go_ret
    exact ⟨rfl, rfl⟩
  | true =>
    rw [bkt_yes hv]
    obtain ⟨h0, h1⟩ := vB_iff.1 hv
    obtain ⟨x, rfl⟩ := Int.eq_ofNat_of_zero_le h0
    have hb : bl (x : Int) = Lib.bitLen x := by show Lib.bitLen (x : Int).toNat = _; rw [Int.toNat_natCast]
    rw [hb]
    have hxl : x ≤ 1000000 := by omega
    have hbl : Lib.bitLen x < 21 := by have := (bl_in h0 h1).1; rwa [hb] at this
    have HBL := Lib.hid hbl
    clear hb h1 h0 hbl
    go_enter Try.func25, Try.ntmps25
    go_wp2_with (go_at_call 52; refine (val_any _ _).mono ?_; rw [hv]; rintro e w2 ⟨rfl, rfl⟩)
    clear hv
    go_loop [3, 0] (fun k v => ∃ (i y : Nat), k = .int .i64 (i : Int) ∧ v = .int .i64 (y : Int) ∧ y ≤ 1000000 ∧ i < 21 ∧ Hid (i + Lib.bitLen y = Lib.bitLen x)) (fun _ v => (intOf v).toNat)
    case atStart => exact ⟨0, x, rfl, rfl, hxl, by omega, Lib.hid (Nat.zero_add _)⟩
    case round =>
      obtain ⟨i, y, rfl, rfl, hy, hi, hE⟩ := hrel
      by_cases h0 : 0 < y
      · have q0 : (0 : Int) < (y : Int) := by omega
        have hh := Lib.bitLen_half y (by omega) (by omega)
        have hlt := HBL.out
        have hE2 : Hid (i + 1 + Lib.bitLen (y / 2) = Lib.bitLen x) := by have := hE.out; show _ = _; omega
        have hi2 : i + 1 < 21 := by have := hE.out; omega
        clear hh hlt
        go_wp2
        go_round
        case rel => exact ⟨i + 1, y / 2, by go_num, by go_num, by omega, hi2, hE2⟩
        case measure => simp [intOf]; omega
      · obtain rfl : y = 0 := by omega
        have e : Lib.bitLen x = i := by have := hE.out; rw [show Lib.bitLen 0 = 0 by decide] at this; omega
        rw [e]
        go_wp2
        go_ret
        exact ⟨rfl, rfl⟩
set_option maxRecDepth 100000 in
set_option maxHeartbeats 4000000 in
theorem ibo_any (v : Int) (w : World) : Calls Try.prog 26 #[.int .i64 v] w fun e w' => e = .returned (.int .i64 (bkt v)) ∧ w = w' := by
  cases hv : vB v with
  | false =>
    rw [bkt_no hv]
    go_enter Try.func26, Try.ntmps26
    go_wp2_with (go_at_call 48; refine (vok_any v _).mono ?_; rw [hv]; rintro e w2 ⟨rfl, rfl⟩)
    go_ret
    exact ⟨rfl, rfl⟩
  | true =>
    rw [bkt_yes hv]
    obtain ⟨h0, h1⟩ := vB_iff.1 hv
    go_enter Try.func26, Try.ntmps26
    go_wp2_with (first | (go_at_call 48; refine (vok_any v _).mono ?_; rw [hv]; rintro e w2 ⟨rfl, rfl⟩) | (go_at_call 53; refine (bitsLen v _ h0 (by omega)).mono ?_; rintro e w2 ⟨rfl, rfl⟩))
    go_ret
    exact ⟨rfl, rfl⟩
theorem rl_no {k : Int} (h : ¬ (0 ≤ k ∧ k ≤ 20)) : rlo k = -1 ∧ rhi k = -1 := by unfold rlo rhi; rw [if_neg h, if_neg h]; exact ⟨rfl, rfl⟩

set_option maxRecDepth 100000 in
set_option maxHeartbeats 4000000 in
theorem ibr_any (k : Int) (w : World) : Calls Try.prog 28 #[.int .i64 k] w fun e w' => e = .returned (.tuple #[.int .i64 (rlo k), .int .i64 (rhi k)]) ∧ w = w' := by
  by_cases h0 : k < 0
  · rw [(rl_no (k := k) (by omega)).1, (rl_no (k := k) (by omega)).2]
    go_enter Try.func28, Try.ntmps28
    go_wp2
    go_ret2
    exact ⟨rfl, rfl⟩
  · by_cases h1 : k ≥ 21
    · have h1' : 21 ≤ k := h1
      rw [(rl_no (k := k) (by omega)).1, (rl_no (k := k) (by omega)).2]
      go_enter Try.func28, Try.ntmps28
      go_wp2
      go_ret2
      exact ⟨rfl, rfl⟩
    · have hk : k = 0 ∨ k = 1 ∨ k = 2 ∨ k = 3 ∨ k = 4 ∨ k = 5 ∨ k = 6 ∨ k = 7 ∨ k = 8 ∨ k = 9 ∨ k = 10 ∨ k = 11 ∨ k = 12 ∨ k = 13 ∨ k = 14 ∨ k = 15 ∨ k = 16 ∨ k = 17 ∨ k = 18 ∨ k = 19 ∨ k = 20 := by omega
      clear h0 h1
      rcases hk with rfl | rfl | rfl | rfl | rfl | rfl | rfl | rfl | rfl | rfl | rfl | rfl | rfl | rfl | rfl | rfl | rfl | rfl | rfl | rfl | rfl
      all_goals
        go_enter Try.func28, Try.ntmps28
        go_wp2
        go_ret2
        exact ⟨by kernel_rfl, rfl⟩
set_option maxRecDepth 100000 in
set_option maxHeartbeats 4000000 in
theorem sbr_any (k : Int) (w : World) : Calls Try.prog 27 #[.int .i64 k] w fun e w' => e = .returned (.tuple #[.int .i64 (rlo k), .int .i64 (rhi k)]) ∧ w = w' := by
  cases hk0 : inB k 0 20 with
  | false =>
    have h : ¬ (0 ≤ k ∧ k ≤ 20) := by rw [← inB_iff, hk0]; simp
    rw [(rl_no h).1, (rl_no h).2]
    go_enter Try.func27, Try.ntmps27
    go_wp2_with (go_at_call 54; refine (in_any k 0 20 _).mono ?_; rw [hk0]; rintro e w2 ⟨rfl, rfl⟩)
    go_ret2
    exact ⟨rfl, rfl⟩
  | true =>
    have h := inB_iff.1 hk0
    have hk : k = 0 ∨ k = 1 ∨ k = 2 ∨ k = 3 ∨ k = 4 ∨ k = 5 ∨ k = 6 ∨ k = 7 ∨ k = 8 ∨ k = 9 ∨ k = 10 ∨ k = 11 ∨ k = 12 ∨ k = 13 ∨ k = 14 ∨ k = 15 ∨ k = 16 ∨ k = 17 ∨ k = 18 ∨ k = 19 ∨ k = 20 := by omega
    clear h
    rcases hk with rfl | rfl | rfl | rfl | rfl | rfl | rfl | rfl | rfl | rfl | rfl | rfl | rfl | rfl | rfl | rfl | rfl | rfl | rfl | rfl | rfl
    all_goals
      go_enter Try.func27, Try.ntmps27
      go_wp2_with (go_at_call 54; refine (in_any _ 0 20 _).mono ?_; rw [hk0]; rintro e w2 ⟨rfl, rfl⟩)
      go_ret2
      exact ⟨by kernel_rfl, rfl⟩

end Go.Proofs.Ytcchoiobdcaboaa
