/- A row by itself: the program. -/
import Derived.Test.YtnaifkmganngfaaS1
namespace Go.Proofs.Ytnaifkmganngfaa
open Go.RowKit


theorem iend_any (e n mn mx s : Int) (w : World) (h : IntKind.i64.wrap (e + n) = e + n) : Calls Try.prog 41 #[.agg #[.int .i64 e, .int .i64 n, .int .i64 mn, .int .i64 mx, .int .i64 s]] w fun x w' => x = .returned (.int .i64 (e + n)) ∧ Below w.heap.size w w' := by
  go_enter Try.func41, Try.ntmps41
  go_wp2
  go_ret
  exact ⟨rfl, by go_grown⟩
theorem okB_no1 {n mn mx s : Int} (h : vB mn = false) : okB n mn mx s = false := by
  rw [Bool.eq_false_iff, ne_eq, okB_iff]; intro h2; rw [vB_iff.2 h2.1] at h; cases h
theorem okB_no2 {n mn mx s : Int} (h : vB mx = false) : okB n mn mx s = false := by
  rw [Bool.eq_false_iff, ne_eq, okB_iff]; intro h2; rw [vB_iff.2 h2.2.1] at h; cases h
theorem mul_in {n m : Int} (h0 : 1 ≤ n) (h1 : n ≤ 16) (h : vB m = true) : 0 ≤ n * m ∧ n * m ≤ 16000000 := by
  obtain ⟨h2, h3⟩ := vB_iff.1 h
  refine ⟨Int.mul_nonneg (by omega) h2, ?_⟩
  have := Int.mul_le_mul h1 h3 h2 (by omega : (0 : Int) ≤ 16)
  omega
set_option maxRecDepth 100000 in
set_option maxHeartbeats 4000000 in
theorem iok_any (e n mn mx s : Int) (h0 : 1 ≤ n) (h1 : n ≤ 16) (w : World) : Calls Try.prog 64 #[.agg #[.int .i64 e, .int .i64 n, .int .i64 mn, .int .i64 mx, .int .i64 s]] w fun x w' => x = .returned (.bool (okB n mn mx s)) ∧ Below w.heap.size w w' := by
  cases v1 : vB mn with
  | false =>
    rw [okB_no1 v1]
    go_enter Try.func64, Try.ntmps64
    go_wp2_with fail
    go_at_call 53
    refine (vok_any _ _).mono ?_
    rw [v1]
    rintro e w1 ⟨rfl, rfl⟩
    go_wp2_with fail
    go_ret
    exact ⟨rfl, by go_grown⟩
  | true =>
  cases v2 : vB mx with
  | false =>
    rw [okB_no2 v2]
    go_enter Try.func64, Try.ntmps64
    go_wp2_with fail
    go_at_call 53
    refine (vok_any _ _).mono ?_
    rw [v1]
    rintro e w1 ⟨rfl, rfl⟩
    go_wp2_with fail
    go_at_call 53
    refine (vok_any _ _).mono ?_
    rw [v2]
    rintro e w2 ⟨rfl, rfl⟩
    go_wp2_with fail
    go_ret
    exact ⟨rfl, by go_grown⟩
  | true =>
  obtain ⟨a1, a2⟩ := mul_in h0 h1 v1
  obtain ⟨b1, b2⟩ := mul_in h0 h1 v2
  obtain ⟨p, hp⟩ : ∃ p, p = n * mn := ⟨_, rfl⟩
  obtain ⟨q, hq⟩ : ∃ q, q = n * mx := ⟨_, rfl⟩
  have wp : IntKind.i64.wrap (n * mn) = p := by rw [hp]; exact IntWalk.i64_in _ (by omega)
  have wq : IntKind.i64.wrap (n * mx) = q := by rw [hq]; exact IntWalk.i64_in _ (by omega)
  have Hv1 := vB_iff.1 v1
  have Hv2 := vB_iff.1 v2
  have Hp := Lib.hid hp
  have Hq := Lib.hid hq
  have HV1 := Lib.hid Hv1
  have HV2 := Lib.hid Hv2
  clear a1 a2 b1 b2 hp hq Hv1 Hv2 h0 h1
  by_cases c1 : p ≤ s
  case neg =>
    have d1 : decide (p ≤ s) = false := decide_eq_false c1
    have He : Hid (okB n mn mx s = false) := by show _ = _; rw [Bool.eq_false_iff, ne_eq, okB_iff]; intro h; exact c1 (by rw [Hp.out]; exact h.2.2.1)
    go_enter Try.func64, Try.ntmps64
    go_wp2_with fail
    go_at_call 53
    refine (vok_any _ _).mono ?_
    rw [v1]
    rintro e w1 ⟨rfl, rfl⟩
    go_wp2_with fail
    go_at_call 53
    refine (vok_any _ _).mono ?_
    rw [v2]
    rintro e w2 ⟨rfl, rfl⟩
    go_wp2_with fail
    go_ret
    exact ⟨by rw [He.out]; rfl, by go_grown⟩
  case pos =>
  have d1 : decide (p ≤ s) = true := decide_eq_true c1
  by_cases c2 : s ≤ q
  case neg =>
    have d2 : decide (s ≤ q) = false := decide_eq_false c2
    have He : Hid (okB n mn mx s = false) := by show _ = _; rw [Bool.eq_false_iff, ne_eq, okB_iff]; intro h; exact c2 (by rw [Hq.out]; exact h.2.2.2)
    go_enter Try.func64, Try.ntmps64
    go_wp2_with fail
    go_at_call 53
    refine (vok_any _ _).mono ?_
    rw [v1]
    rintro e w1 ⟨rfl, rfl⟩
    go_wp2_with fail
    go_at_call 53
    refine (vok_any _ _).mono ?_
    rw [v2]
    rintro e w2 ⟨rfl, rfl⟩
    go_wp2_with fail
    go_ret
    exact ⟨by rw [He.out]; rfl, by go_grown⟩
  case pos =>
    have d2 : decide (s ≤ q) = true := decide_eq_true c2
    have He : Hid (okB n mn mx s = true) := by show _ = _; rw [okB_iff]; exact ⟨HV1.out, HV2.out, by rw [← Hp.out]; exact c1, by rw [← Hq.out]; exact c2⟩
    go_enter Try.func64, Try.ntmps64
    go_wp2_with fail
    go_at_call 53
    refine (vok_any _ _).mono ?_
    rw [v1]
    rintro e w1 ⟨rfl, rfl⟩
    go_wp2_with fail
    go_at_call 53
    refine (vok_any _ _).mono ?_
    rw [v2]
    rintro e w2 ⟨rfl, rfl⟩
    go_wp2_with fail
    go_ret
    exact ⟨by rw [He.out]; rfl, by go_grown⟩

end Go.Proofs.Ytnaifkmganngfaa
