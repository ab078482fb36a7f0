/- Delta of the program and of the model; its law. -/
import Derived.Test.YtadanckhmjgphaaS2
import Derived.Test.YtadanckhmjgphaaGs
namespace Go.Proofs.Ytadanckhmjgphaa
open Go.RowKit


theorem row_two (a0 b0 c0 a1 b1 c1 : Int) (w : World) : Row 3 (w.alloc (.cells #[.int .i64 a0, .int .i64 b0, .int .i64 c0, .int .i64 a1, .int .i64 b1, .int .i64 c1] 27)) w.heap.size (w.heap.size + 1) (.slice (some ⟨w.heap.size, 0, none⟩) 2 2) 2 (flat [(a0, b0, c0), (a1, b1, c1)]) := by
  refine ⟨rfl, .inr ⟨_, 2, rfl, Nat.le_refl _, Nat.lt_succ_self _, by omega, fun q z h => ?_, fun o => new_frz rfl⟩⟩
  rw [new_at rfl]
  rcases q with _ | _ | _ | _ | _ | _ | q
  all_goals first | (simp [flat] at h; subst h; rfl) | (simp [flat] at h)
theorem two_parts {a0 b0 c0 a1 b1 c1 : Int} (h : sok [(a0, b0, c0), (a1, b1, c1)] = true) : (0 ≤ a0 ∧ a0 ≤ 1000000000) ∧ (0 ≤ a1 ∧ a1 ≤ 1000000000) ∧ (0 ≤ c0 ∧ c0 ≤ 4294967295) ∧ (0 ≤ c1 ∧ c1 ≤ 4294967295) := by
  have h0 := sok_at h (i := 0) (r := (a0, b0, c0)) rfl
  have h1 := sok_at h (i := 1) (r := (a1, b1, c1)) rfl
  exact ⟨h0.1, h1.1, h0.2.2, h1.2.2⟩

set_option maxRecDepth 100000 in
set_option maxHeartbeats 4000000 in
theorem sdel_any (a0 b0 c0 a1 b1 c1 : Int) (w : World) : Calls Try.prog 34 #[.agg #[.int .i64 a0, .int .i64 b0, .int .i64 c0], .agg #[.int .i64 a1, .int .i64 b1, .int .i64 c1]] w fun e w' => e = .returned (.int .i64 (deltaV (a0, b0, c0) (a1, b1, c1))) ∧ Below w.heap.size w w' := by
  cases hS : sok [(a0, b0, c0), (a1, b1, c1)] with
  | false =>
    rw [deltaV_no hS]
    have HRw : Hid (Row 3 (((w.alloc (.cells #[.int .i64 a0, .int .i64 b0, .int .i64 c0] 27)).alloc (.cells #[.int .i64 a1, .int .i64 b1, .int .i64 c1] 27)).alloc (.cells #[.int .i64 a0, .int .i64 b0, .int .i64 c0, .int .i64 a1, .int .i64 b1, .int .i64 c1] 27)) (w.heap.size + 1 + 1) (w.heap.size + 1 + 1 + 1) (.slice (some ⟨w.heap.size + 1 + 1, 0, none⟩) 2 2) 2 (flat [(a0, b0, c0), (a1, b1, c1)])) := by have hh := row_two a0 b0 c0 a1 b1 c1 ((w.alloc (.cells #[.int .i64 a0, .int .i64 b0, .int .i64 c0] 27)).alloc (.cells #[.int .i64 a1, .int .i64 b1, .int .i64 c1] 27)); rw [World.size_alloc, World.size_alloc] at hh; exact Lib.hid hh
    go_enter Try.func34, Try.ntmps34
    go_wp2_with fail
    obtain ⟨q1, hq1⟩ : ∃ q, q = (((w.alloc (.cells #[.int .i64 a0, .int .i64 b0, .int .i64 c0] 27)).alloc (.cells #[.int .i64 a1, .int .i64 b1, .int .i64 c1] 27)).alloc (.cells #[.int .i64 a0, .int .i64 b0, .int .i64 c0, .int .i64 a1, .int .i64 b1, .int .i64 c1] 27)) := ⟨_, rfl⟩
    have hb1 : Below w.heap.size w q1 := by rw [hq1]; go_grown
    have sz1 : w.heap.size + 3 ≤ q1.heap.size := by rw [hq1]; simp
    have c1_0 : q1.cell? ⟨w.heap.size, 0, none⟩ = some (.int .i64 a0) := by rw [hq1, old_box (by simp <;> omega), old_box (by simp <;> omega), new_at (by simp)]; rfl
    have c1_1 : q1.cell? ⟨w.heap.size, 1, none⟩ = some (.int .i64 b0) := by rw [hq1, old_box (by simp <;> omega), old_box (by simp <;> omega), new_at (by simp)]; rfl
    have c1_2 : q1.cell? ⟨w.heap.size, 2, none⟩ = some (.int .i64 c0) := by rw [hq1, old_box (by simp <;> omega), old_box (by simp <;> omega), new_at (by simp)]; rfl
    have c1_3 : q1.cell? ⟨w.heap.size + 1, 0, none⟩ = some (.int .i64 a1) := by rw [hq1, old_box (by simp <;> omega), new_at (by simp)]; rfl
    have c1_4 : q1.cell? ⟨w.heap.size + 1, 1, none⟩ = some (.int .i64 b1) := by rw [hq1, old_box (by simp <;> omega), new_at (by simp)]; rfl
    have c1_5 : q1.cell? ⟨w.heap.size + 1, 2, none⟩ = some (.int .i64 c1) := by rw [hq1, old_box (by simp <;> omega), new_at (by simp)]; rfl
    have c1_6 : q1.cell? ⟨w.heap.size + 1 + 1, 0, none⟩ = some (.int .i64 a0) := by rw [hq1, new_at (by simp)]; rfl
    have c1_7 : q1.cell? ⟨w.heap.size + 1 + 1, 1, none⟩ = some (.int .i64 b0) := by rw [hq1, new_at (by simp)]; rfl
    have c1_8 : q1.cell? ⟨w.heap.size + 1 + 1, 2, none⟩ = some (.int .i64 c0) := by rw [hq1, new_at (by simp)]; rfl
    have c1_9 : q1.cell? ⟨w.heap.size + 1 + 1, 3, none⟩ = some (.int .i64 a1) := by rw [hq1, new_at (by simp)]; rfl
    have c1_10 : q1.cell? ⟨w.heap.size + 1 + 1, 4, none⟩ = some (.int .i64 b1) := by rw [hq1, new_at (by simp)]; rfl
    have c1_11 : q1.cell? ⟨w.heap.size + 1 + 1, 5, none⟩ = some (.int .i64 c1) := by rw [hq1, new_at (by simp)]; rfl
    have B1 : Hid (Below w.heap.size w q1) := Lib.hid hb1
    have HRq : Hid (Row 3 q1 (w.heap.size + 1 + 1) (w.heap.size + 1 + 1 + 1) (.slice (some ⟨w.heap.size + 1 + 1, 0, none⟩) 2 2) 2 (flat [(a0, b0, c0), (a1, b1, c1)])) := by rw [hq1]; exact HRw
    rw [← hq1]
    have d1_0 : w.heap.size < q1.heap.size := by omega
    have e1_0 : w.heap.size ≠ q1.heap.size := by omega
    have d1_1 : w.heap.size + 1 < q1.heap.size := by omega
    have e1_1 : w.heap.size + 1 ≠ q1.heap.size := by omega
    have d1_2 : w.heap.size + 1 + 1 < q1.heap.size := by omega
    have e1_2 : w.heap.size + 1 + 1 ≠ q1.heap.size := by omega
    clear hq1 hb1
    clear HRw
    go_at_call 24
    refine (ssok_any (w.heap.size + 1 + 1) (w.heap.size + 1 + 1 + 1) 2 _ _ q1 rfl HRq.out (by omega)).mono ?_
    rw [hS]
    rintro e v2 ⟨rfl, hb2⟩
    have sz2 : q1.heap.size ≤ v2.heap.size := hb2.size
    have st2 : Below q1.heap.size q1 v2 := hb2
    have c2_0 : v2.cell? ⟨w.heap.size, 0, none⟩ = some (.int .i64 a0) := by rw [(bcell st2).1 _ _ (by omega)]; exact c1_0
    have c2_1 : v2.cell? ⟨w.heap.size, 1, none⟩ = some (.int .i64 b0) := by rw [(bcell st2).1 _ _ (by omega)]; exact c1_1
    have c2_2 : v2.cell? ⟨w.heap.size, 2, none⟩ = some (.int .i64 c0) := by rw [(bcell st2).1 _ _ (by omega)]; exact c1_2
    have c2_3 : v2.cell? ⟨w.heap.size + 1, 0, none⟩ = some (.int .i64 a1) := by rw [(bcell st2).1 _ _ (by omega)]; exact c1_3
    have c2_4 : v2.cell? ⟨w.heap.size + 1, 1, none⟩ = some (.int .i64 b1) := by rw [(bcell st2).1 _ _ (by omega)]; exact c1_4
    have c2_5 : v2.cell? ⟨w.heap.size + 1, 2, none⟩ = some (.int .i64 c1) := by rw [(bcell st2).1 _ _ (by omega)]; exact c1_5
    have c2_6 : v2.cell? ⟨w.heap.size + 1 + 1, 0, none⟩ = some (.int .i64 a0) := by rw [(bcell st2).1 _ _ (by omega)]; exact c1_6
    have c2_7 : v2.cell? ⟨w.heap.size + 1 + 1, 1, none⟩ = some (.int .i64 b0) := by rw [(bcell st2).1 _ _ (by omega)]; exact c1_7
    have c2_8 : v2.cell? ⟨w.heap.size + 1 + 1, 2, none⟩ = some (.int .i64 c0) := by rw [(bcell st2).1 _ _ (by omega)]; exact c1_8
    have c2_9 : v2.cell? ⟨w.heap.size + 1 + 1, 3, none⟩ = some (.int .i64 a1) := by rw [(bcell st2).1 _ _ (by omega)]; exact c1_9
    have c2_10 : v2.cell? ⟨w.heap.size + 1 + 1, 4, none⟩ = some (.int .i64 b1) := by rw [(bcell st2).1 _ _ (by omega)]; exact c1_10
    have c2_11 : v2.cell? ⟨w.heap.size + 1 + 1, 5, none⟩ = some (.int .i64 c1) := by rw [(bcell st2).1 _ _ (by omega)]; exact c1_11
    have B2 : Hid (Below w.heap.size w v2) := B1.out.trans (st2.mono (by omega))
    have d2_0 : w.heap.size < v2.heap.size := by omega
    have e2_0 : w.heap.size ≠ v2.heap.size := by omega
    have d2_1 : w.heap.size + 1 < v2.heap.size := by omega
    have e2_1 : w.heap.size + 1 ≠ v2.heap.size := by omega
    have d2_2 : w.heap.size + 1 + 1 < v2.heap.size := by omega
    have e2_2 : w.heap.size + 1 + 1 ≠ v2.heap.size := by omega
    clear d1_0 e1_0 d1_1 e1_1 d1_2 e1_2 c1_0 c1_1 c1_2 c1_3 c1_4 c1_5 c1_6 c1_7 c1_8 c1_9 c1_10 c1_11 B1 st2 hb2
    go_wp2_with fail
    go_ret
    exact ⟨rfl, B2.out⟩
  | true =>
    rw [deltaV_yes hS]
    obtain ⟨⟨k0, k1⟩, ⟨k2, k3⟩, ⟨k4, k5⟩, k6, k7⟩ := two_parts hS
    cases ha : anewB (a0, b0, c0) (a1, b1, c1) with
    | true =>
      have e : dlt (a0, b0, c0) (a1, b1, c1) = c1 := by unfold dlt; rw [if_pos ha]
      rw [e]
      clear e
      have HRw : Hid (Row 3 (((w.alloc (.cells #[.int .i64 a0, .int .i64 b0, .int .i64 c0] 27)).alloc (.cells #[.int .i64 a1, .int .i64 b1, .int .i64 c1] 27)).alloc (.cells #[.int .i64 a0, .int .i64 b0, .int .i64 c0, .int .i64 a1, .int .i64 b1, .int .i64 c1] 27)) (w.heap.size + 1 + 1) (w.heap.size + 1 + 1 + 1) (.slice (some ⟨w.heap.size + 1 + 1, 0, none⟩) 2 2) 2 (flat [(a0, b0, c0), (a1, b1, c1)])) := by have hh := row_two a0 b0 c0 a1 b1 c1 ((w.alloc (.cells #[.int .i64 a0, .int .i64 b0, .int .i64 c0] 27)).alloc (.cells #[.int .i64 a1, .int .i64 b1, .int .i64 c1] 27)); rw [World.size_alloc, World.size_alloc] at hh; exact Lib.hid hh
      go_enter Try.func34, Try.ntmps34
      go_wp2_with fail
      obtain ⟨q1, hq1⟩ : ∃ q, q = (((w.alloc (.cells #[.int .i64 a0, .int .i64 b0, .int .i64 c0] 27)).alloc (.cells #[.int .i64 a1, .int .i64 b1, .int .i64 c1] 27)).alloc (.cells #[.int .i64 a0, .int .i64 b0, .int .i64 c0, .int .i64 a1, .int .i64 b1, .int .i64 c1] 27)) := ⟨_, rfl⟩
      have hb1 : Below w.heap.size w q1 := by rw [hq1]; go_grown
      have sz1 : w.heap.size + 3 ≤ q1.heap.size := by rw [hq1]; simp
      have c1_0 : q1.cell? ⟨w.heap.size, 0, none⟩ = some (.int .i64 a0) := by rw [hq1, old_box (by simp <;> omega), old_box (by simp <;> omega), new_at (by simp)]; rfl
      have c1_1 : q1.cell? ⟨w.heap.size, 1, none⟩ = some (.int .i64 b0) := by rw [hq1, old_box (by simp <;> omega), old_box (by simp <;> omega), new_at (by simp)]; rfl
      have c1_2 : q1.cell? ⟨w.heap.size, 2, none⟩ = some (.int .i64 c0) := by rw [hq1, old_box (by simp <;> omega), old_box (by simp <;> omega), new_at (by simp)]; rfl
      have c1_3 : q1.cell? ⟨w.heap.size + 1, 0, none⟩ = some (.int .i64 a1) := by rw [hq1, old_box (by simp <;> omega), new_at (by simp)]; rfl
      have c1_4 : q1.cell? ⟨w.heap.size + 1, 1, none⟩ = some (.int .i64 b1) := by rw [hq1, old_box (by simp <;> omega), new_at (by simp)]; rfl
      have c1_5 : q1.cell? ⟨w.heap.size + 1, 2, none⟩ = some (.int .i64 c1) := by rw [hq1, old_box (by simp <;> omega), new_at (by simp)]; rfl
      have c1_6 : q1.cell? ⟨w.heap.size + 1 + 1, 0, none⟩ = some (.int .i64 a0) := by rw [hq1, new_at (by simp)]; rfl
      have c1_7 : q1.cell? ⟨w.heap.size + 1 + 1, 1, none⟩ = some (.int .i64 b0) := by rw [hq1, new_at (by simp)]; rfl
      have c1_8 : q1.cell? ⟨w.heap.size + 1 + 1, 2, none⟩ = some (.int .i64 c0) := by rw [hq1, new_at (by simp)]; rfl
      have c1_9 : q1.cell? ⟨w.heap.size + 1 + 1, 3, none⟩ = some (.int .i64 a1) := by rw [hq1, new_at (by simp)]; rfl
      have c1_10 : q1.cell? ⟨w.heap.size + 1 + 1, 4, none⟩ = some (.int .i64 b1) := by rw [hq1, new_at (by simp)]; rfl
      have c1_11 : q1.cell? ⟨w.heap.size + 1 + 1, 5, none⟩ = some (.int .i64 c1) := by rw [hq1, new_at (by simp)]; rfl
      have B1 : Hid (Below w.heap.size w q1) := Lib.hid hb1
      have HRq : Hid (Row 3 q1 (w.heap.size + 1 + 1) (w.heap.size + 1 + 1 + 1) (.slice (some ⟨w.heap.size + 1 + 1, 0, none⟩) 2 2) 2 (flat [(a0, b0, c0), (a1, b1, c1)])) := by rw [hq1]; exact HRw
      rw [← hq1]
      have d1_0 : w.heap.size < q1.heap.size := by omega
      have e1_0 : w.heap.size ≠ q1.heap.size := by omega
      have d1_1 : w.heap.size + 1 < q1.heap.size := by omega
      have e1_1 : w.heap.size + 1 ≠ q1.heap.size := by omega
      have d1_2 : w.heap.size + 1 + 1 < q1.heap.size := by omega
      have e1_2 : w.heap.size + 1 + 1 ≠ q1.heap.size := by omega
      clear hq1 hb1
      clear HRw
      go_at_call 24
      refine (ssok_any (w.heap.size + 1 + 1) (w.heap.size + 1 + 1 + 1) 2 _ _ q1 rfl HRq.out (by omega)).mono ?_
      rw [hS]
      rintro e v2 ⟨rfl, hb2⟩
      have sz2 : q1.heap.size ≤ v2.heap.size := hb2.size
      have st2 : Below q1.heap.size q1 v2 := hb2
      have c2_0 : v2.cell? ⟨w.heap.size, 0, none⟩ = some (.int .i64 a0) := by rw [(bcell st2).1 _ _ (by omega)]; exact c1_0
      have c2_1 : v2.cell? ⟨w.heap.size, 1, none⟩ = some (.int .i64 b0) := by rw [(bcell st2).1 _ _ (by omega)]; exact c1_1
      have c2_2 : v2.cell? ⟨w.heap.size, 2, none⟩ = some (.int .i64 c0) := by rw [(bcell st2).1 _ _ (by omega)]; exact c1_2
      have c2_3 : v2.cell? ⟨w.heap.size + 1, 0, none⟩ = some (.int .i64 a1) := by rw [(bcell st2).1 _ _ (by omega)]; exact c1_3
      have c2_4 : v2.cell? ⟨w.heap.size + 1, 1, none⟩ = some (.int .i64 b1) := by rw [(bcell st2).1 _ _ (by omega)]; exact c1_4
      have c2_5 : v2.cell? ⟨w.heap.size + 1, 2, none⟩ = some (.int .i64 c1) := by rw [(bcell st2).1 _ _ (by omega)]; exact c1_5
      have c2_6 : v2.cell? ⟨w.heap.size + 1 + 1, 0, none⟩ = some (.int .i64 a0) := by rw [(bcell st2).1 _ _ (by omega)]; exact c1_6
      have c2_7 : v2.cell? ⟨w.heap.size + 1 + 1, 1, none⟩ = some (.int .i64 b0) := by rw [(bcell st2).1 _ _ (by omega)]; exact c1_7
      have c2_8 : v2.cell? ⟨w.heap.size + 1 + 1, 2, none⟩ = some (.int .i64 c0) := by rw [(bcell st2).1 _ _ (by omega)]; exact c1_8
      have c2_9 : v2.cell? ⟨w.heap.size + 1 + 1, 3, none⟩ = some (.int .i64 a1) := by rw [(bcell st2).1 _ _ (by omega)]; exact c1_9
      have c2_10 : v2.cell? ⟨w.heap.size + 1 + 1, 4, none⟩ = some (.int .i64 b1) := by rw [(bcell st2).1 _ _ (by omega)]; exact c1_10
      have c2_11 : v2.cell? ⟨w.heap.size + 1 + 1, 5, none⟩ = some (.int .i64 c1) := by rw [(bcell st2).1 _ _ (by omega)]; exact c1_11
      have B2 : Hid (Below w.heap.size w v2) := B1.out.trans (st2.mono (by omega))
      have d2_0 : w.heap.size < v2.heap.size := by omega
      have e2_0 : w.heap.size ≠ v2.heap.size := by omega
      have d2_1 : w.heap.size + 1 < v2.heap.size := by omega
      have e2_1 : w.heap.size + 1 ≠ v2.heap.size := by omega
      have d2_2 : w.heap.size + 1 + 1 < v2.heap.size := by omega
      have e2_2 : w.heap.size + 1 + 1 ≠ v2.heap.size := by omega
      clear d1_0 e1_0 d1_1 e1_1 d1_2 e1_2 c1_0 c1_1 c1_2 c1_3 c1_4 c1_5 c1_6 c1_7 c1_8 c1_9 c1_10 c1_11 B1 st2 hb2
      clear hS HRq
      go_wp2_with fail
      go_at_call 69
      refine (sanew_any a0 b0 c0 a1 b1 c1 _ k0 k1 k2 k3).mono ?_
      rw [ha]
      rintro e v3 ⟨rfl, hb3⟩
      have sz3 : v2.heap.size ≤ v3.heap.size := hb3.size
      have st3 : Below v2.heap.size v2 v3 := hb3
      have c3_0 : v3.cell? ⟨w.heap.size, 0, none⟩ = some (.int .i64 a0) := by rw [(bcell st3).1 _ _ (by omega)]; exact c2_0
      have c3_1 : v3.cell? ⟨w.heap.size, 1, none⟩ = some (.int .i64 b0) := by rw [(bcell st3).1 _ _ (by omega)]; exact c2_1
      have c3_2 : v3.cell? ⟨w.heap.size, 2, none⟩ = some (.int .i64 c0) := by rw [(bcell st3).1 _ _ (by omega)]; exact c2_2
      have c3_3 : v3.cell? ⟨w.heap.size + 1, 0, none⟩ = some (.int .i64 a1) := by rw [(bcell st3).1 _ _ (by omega)]; exact c2_3
      have c3_4 : v3.cell? ⟨w.heap.size + 1, 1, none⟩ = some (.int .i64 b1) := by rw [(bcell st3).1 _ _ (by omega)]; exact c2_4
      have c3_5 : v3.cell? ⟨w.heap.size + 1, 2, none⟩ = some (.int .i64 c1) := by rw [(bcell st3).1 _ _ (by omega)]; exact c2_5
      have c3_6 : v3.cell? ⟨w.heap.size + 1 + 1, 0, none⟩ = some (.int .i64 a0) := by rw [(bcell st3).1 _ _ (by omega)]; exact c2_6
      have c3_7 : v3.cell? ⟨w.heap.size + 1 + 1, 1, none⟩ = some (.int .i64 b0) := by rw [(bcell st3).1 _ _ (by omega)]; exact c2_7
      have c3_8 : v3.cell? ⟨w.heap.size + 1 + 1, 2, none⟩ = some (.int .i64 c0) := by rw [(bcell st3).1 _ _ (by omega)]; exact c2_8
      have c3_9 : v3.cell? ⟨w.heap.size + 1 + 1, 3, none⟩ = some (.int .i64 a1) := by rw [(bcell st3).1 _ _ (by omega)]; exact c2_9
      have c3_10 : v3.cell? ⟨w.heap.size + 1 + 1, 4, none⟩ = some (.int .i64 b1) := by rw [(bcell st3).1 _ _ (by omega)]; exact c2_10
      have c3_11 : v3.cell? ⟨w.heap.size + 1 + 1, 5, none⟩ = some (.int .i64 c1) := by rw [(bcell st3).1 _ _ (by omega)]; exact c2_11
      have B3 : Hid (Below w.heap.size w v3) := B2.out.trans (st3.mono (by omega))
      have d3_0 : w.heap.size < v3.heap.size := by omega
      have e3_0 : w.heap.size ≠ v3.heap.size := by omega
      have d3_1 : w.heap.size + 1 < v3.heap.size := by omega
      have e3_1 : w.heap.size + 1 ≠ v3.heap.size := by omega
      have d3_2 : w.heap.size + 1 + 1 < v3.heap.size := by omega
      have e3_2 : w.heap.size + 1 + 1 ≠ v3.heap.size := by omega
      clear d2_0 e2_0 d2_1 e2_1 d2_2 e2_2 c2_0 c2_1 c2_2 c2_3 c2_4 c2_5 c2_6 c2_7 c2_8 c2_9 c2_10 c2_11 B2 st3 hb3
      go_wp2
      go_ret
      exact ⟨rfl, B3.out⟩
    | false =>
      by_cases h1 : c1 - c0 < 0
      · have e : dlt (a0, b0, c0) (a1, b1, c1) = c1 - c0 + 4294967296 := by unfold dlt; rw [if_neg (by rw [ha]; simp), if_pos h1]
        rw [e]
        have d1 : decide (c1 - c0 < 0) = true := decide_eq_true h1
        clear e
        have HRw : Hid (Row 3 (((w.alloc (.cells #[.int .i64 a0, .int .i64 b0, .int .i64 c0] 27)).alloc (.cells #[.int .i64 a1, .int .i64 b1, .int .i64 c1] 27)).alloc (.cells #[.int .i64 a0, .int .i64 b0, .int .i64 c0, .int .i64 a1, .int .i64 b1, .int .i64 c1] 27)) (w.heap.size + 1 + 1) (w.heap.size + 1 + 1 + 1) (.slice (some ⟨w.heap.size + 1 + 1, 0, none⟩) 2 2) 2 (flat [(a0, b0, c0), (a1, b1, c1)])) := by have hh := row_two a0 b0 c0 a1 b1 c1 ((w.alloc (.cells #[.int .i64 a0, .int .i64 b0, .int .i64 c0] 27)).alloc (.cells #[.int .i64 a1, .int .i64 b1, .int .i64 c1] 27)); rw [World.size_alloc, World.size_alloc] at hh; exact Lib.hid hh
        go_enter Try.func34, Try.ntmps34
        go_wp2_with fail
        obtain ⟨q1, hq1⟩ : ∃ q, q = (((w.alloc (.cells #[.int .i64 a0, .int .i64 b0, .int .i64 c0] 27)).alloc (.cells #[.int .i64 a1, .int .i64 b1, .int .i64 c1] 27)).alloc (.cells #[.int .i64 a0, .int .i64 b0, .int .i64 c0, .int .i64 a1, .int .i64 b1, .int .i64 c1] 27)) := ⟨_, rfl⟩
        have hb1 : Below w.heap.size w q1 := by rw [hq1]; go_grown
        have sz1 : w.heap.size + 3 ≤ q1.heap.size := by rw [hq1]; simp
        have c1_0 : q1.cell? ⟨w.heap.size, 0, none⟩ = some (.int .i64 a0) := by rw [hq1, old_box (by simp <;> omega), old_box (by simp <;> omega), new_at (by simp)]; rfl
        have c1_1 : q1.cell? ⟨w.heap.size, 1, none⟩ = some (.int .i64 b0) := by rw [hq1, old_box (by simp <;> omega), old_box (by simp <;> omega), new_at (by simp)]; rfl
        have c1_2 : q1.cell? ⟨w.heap.size, 2, none⟩ = some (.int .i64 c0) := by rw [hq1, old_box (by simp <;> omega), old_box (by simp <;> omega), new_at (by simp)]; rfl
        have c1_3 : q1.cell? ⟨w.heap.size + 1, 0, none⟩ = some (.int .i64 a1) := by rw [hq1, old_box (by simp <;> omega), new_at (by simp)]; rfl
        have c1_4 : q1.cell? ⟨w.heap.size + 1, 1, none⟩ = some (.int .i64 b1) := by rw [hq1, old_box (by simp <;> omega), new_at (by simp)]; rfl
        have c1_5 : q1.cell? ⟨w.heap.size + 1, 2, none⟩ = some (.int .i64 c1) := by rw [hq1, old_box (by simp <;> omega), new_at (by simp)]; rfl
        have c1_6 : q1.cell? ⟨w.heap.size + 1 + 1, 0, none⟩ = some (.int .i64 a0) := by rw [hq1, new_at (by simp)]; rfl
        have c1_7 : q1.cell? ⟨w.heap.size + 1 + 1, 1, none⟩ = some (.int .i64 b0) := by rw [hq1, new_at (by simp)]; rfl
        have c1_8 : q1.cell? ⟨w.heap.size + 1 + 1, 2, none⟩ = some (.int .i64 c0) := by rw [hq1, new_at (by simp)]; rfl
        have c1_9 : q1.cell? ⟨w.heap.size + 1 + 1, 3, none⟩ = some (.int .i64 a1) := by rw [hq1, new_at (by simp)]; rfl
        have c1_10 : q1.cell? ⟨w.heap.size + 1 + 1, 4, none⟩ = some (.int .i64 b1) := by rw [hq1, new_at (by simp)]; rfl
        have c1_11 : q1.cell? ⟨w.heap.size + 1 + 1, 5, none⟩ = some (.int .i64 c1) := by rw [hq1, new_at (by simp)]; rfl
        have B1 : Hid (Below w.heap.size w q1) := Lib.hid hb1
        have HRq : Hid (Row 3 q1 (w.heap.size + 1 + 1) (w.heap.size + 1 + 1 + 1) (.slice (some ⟨w.heap.size + 1 + 1, 0, none⟩) 2 2) 2 (flat [(a0, b0, c0), (a1, b1, c1)])) := by rw [hq1]; exact HRw
        rw [← hq1]
        have d1_0 : w.heap.size < q1.heap.size := by omega
        have e1_0 : w.heap.size ≠ q1.heap.size := by omega
        have d1_1 : w.heap.size + 1 < q1.heap.size := by omega
        have e1_1 : w.heap.size + 1 ≠ q1.heap.size := by omega
        have d1_2 : w.heap.size + 1 + 1 < q1.heap.size := by omega
        have e1_2 : w.heap.size + 1 + 1 ≠ q1.heap.size := by omega
        clear hq1 hb1
        clear HRw
        go_at_call 24
        refine (ssok_any (w.heap.size + 1 + 1) (w.heap.size + 1 + 1 + 1) 2 _ _ q1 rfl HRq.out (by omega)).mono ?_
        rw [hS]
        rintro e v2 ⟨rfl, hb2⟩
        have sz2 : q1.heap.size ≤ v2.heap.size := hb2.size
        have st2 : Below q1.heap.size q1 v2 := hb2
        have c2_0 : v2.cell? ⟨w.heap.size, 0, none⟩ = some (.int .i64 a0) := by rw [(bcell st2).1 _ _ (by omega)]; exact c1_0
        have c2_1 : v2.cell? ⟨w.heap.size, 1, none⟩ = some (.int .i64 b0) := by rw [(bcell st2).1 _ _ (by omega)]; exact c1_1
        have c2_2 : v2.cell? ⟨w.heap.size, 2, none⟩ = some (.int .i64 c0) := by rw [(bcell st2).1 _ _ (by omega)]; exact c1_2
        have c2_3 : v2.cell? ⟨w.heap.size + 1, 0, none⟩ = some (.int .i64 a1) := by rw [(bcell st2).1 _ _ (by omega)]; exact c1_3
        have c2_4 : v2.cell? ⟨w.heap.size + 1, 1, none⟩ = some (.int .i64 b1) := by rw [(bcell st2).1 _ _ (by omega)]; exact c1_4
        have c2_5 : v2.cell? ⟨w.heap.size + 1, 2, none⟩ = some (.int .i64 c1) := by rw [(bcell st2).1 _ _ (by omega)]; exact c1_5
        have c2_6 : v2.cell? ⟨w.heap.size + 1 + 1, 0, none⟩ = some (.int .i64 a0) := by rw [(bcell st2).1 _ _ (by omega)]; exact c1_6
        have c2_7 : v2.cell? ⟨w.heap.size + 1 + 1, 1, none⟩ = some (.int .i64 b0) := by rw [(bcell st2).1 _ _ (by omega)]; exact c1_7
        have c2_8 : v2.cell? ⟨w.heap.size + 1 + 1, 2, none⟩ = some (.int .i64 c0) := by rw [(bcell st2).1 _ _ (by omega)]; exact c1_8
        have c2_9 : v2.cell? ⟨w.heap.size + 1 + 1, 3, none⟩ = some (.int .i64 a1) := by rw [(bcell st2).1 _ _ (by omega)]; exact c1_9
        have c2_10 : v2.cell? ⟨w.heap.size + 1 + 1, 4, none⟩ = some (.int .i64 b1) := by rw [(bcell st2).1 _ _ (by omega)]; exact c1_10
        have c2_11 : v2.cell? ⟨w.heap.size + 1 + 1, 5, none⟩ = some (.int .i64 c1) := by rw [(bcell st2).1 _ _ (by omega)]; exact c1_11
        have B2 : Hid (Below w.heap.size w v2) := B1.out.trans (st2.mono (by omega))
        have d2_0 : w.heap.size < v2.heap.size := by omega
        have e2_0 : w.heap.size ≠ v2.heap.size := by omega
        have d2_1 : w.heap.size + 1 < v2.heap.size := by omega
        have e2_1 : w.heap.size + 1 ≠ v2.heap.size := by omega
        have d2_2 : w.heap.size + 1 + 1 < v2.heap.size := by omega
        have e2_2 : w.heap.size + 1 + 1 ≠ v2.heap.size := by omega
        clear d1_0 e1_0 d1_1 e1_1 d1_2 e1_2 c1_0 c1_1 c1_2 c1_3 c1_4 c1_5 c1_6 c1_7 c1_8 c1_9 c1_10 c1_11 B1 st2 hb2
        clear hS HRq
        go_wp2_with fail
        go_at_call 69
        refine (sanew_any a0 b0 c0 a1 b1 c1 _ k0 k1 k2 k3).mono ?_
        rw [ha]
        rintro e v3 ⟨rfl, hb3⟩
        have sz3 : v2.heap.size ≤ v3.heap.size := hb3.size
        have st3 : Below v2.heap.size v2 v3 := hb3
        have c3_0 : v3.cell? ⟨w.heap.size, 0, none⟩ = some (.int .i64 a0) := by rw [(bcell st3).1 _ _ (by omega)]; exact c2_0
        have c3_1 : v3.cell? ⟨w.heap.size, 1, none⟩ = some (.int .i64 b0) := by rw [(bcell st3).1 _ _ (by omega)]; exact c2_1
        have c3_2 : v3.cell? ⟨w.heap.size, 2, none⟩ = some (.int .i64 c0) := by rw [(bcell st3).1 _ _ (by omega)]; exact c2_2
        have c3_3 : v3.cell? ⟨w.heap.size + 1, 0, none⟩ = some (.int .i64 a1) := by rw [(bcell st3).1 _ _ (by omega)]; exact c2_3
        have c3_4 : v3.cell? ⟨w.heap.size + 1, 1, none⟩ = some (.int .i64 b1) := by rw [(bcell st3).1 _ _ (by omega)]; exact c2_4
        have c3_5 : v3.cell? ⟨w.heap.size + 1, 2, none⟩ = some (.int .i64 c1) := by rw [(bcell st3).1 _ _ (by omega)]; exact c2_5
        have c3_6 : v3.cell? ⟨w.heap.size + 1 + 1, 0, none⟩ = some (.int .i64 a0) := by rw [(bcell st3).1 _ _ (by omega)]; exact c2_6
        have c3_7 : v3.cell? ⟨w.heap.size + 1 + 1, 1, none⟩ = some (.int .i64 b0) := by rw [(bcell st3).1 _ _ (by omega)]; exact c2_7
        have c3_8 : v3.cell? ⟨w.heap.size + 1 + 1, 2, none⟩ = some (.int .i64 c0) := by rw [(bcell st3).1 _ _ (by omega)]; exact c2_8
        have c3_9 : v3.cell? ⟨w.heap.size + 1 + 1, 3, none⟩ = some (.int .i64 a1) := by rw [(bcell st3).1 _ _ (by omega)]; exact c2_9
        have c3_10 : v3.cell? ⟨w.heap.size + 1 + 1, 4, none⟩ = some (.int .i64 b1) := by rw [(bcell st3).1 _ _ (by omega)]; exact c2_10
        have c3_11 : v3.cell? ⟨w.heap.size + 1 + 1, 5, none⟩ = some (.int .i64 c1) := by rw [(bcell st3).1 _ _ (by omega)]; exact c2_11
        have B3 : Hid (Below w.heap.size w v3) := B2.out.trans (st3.mono (by omega))
        have d3_0 : w.heap.size < v3.heap.size := by omega
        have e3_0 : w.heap.size ≠ v3.heap.size := by omega
        have d3_1 : w.heap.size + 1 < v3.heap.size := by omega
        have e3_1 : w.heap.size + 1 ≠ v3.heap.size := by omega
        have d3_2 : w.heap.size + 1 + 1 < v3.heap.size := by omega
        have e3_2 : w.heap.size + 1 + 1 ≠ v3.heap.size := by omega
        clear d2_0 e2_0 d2_1 e2_1 d2_2 e2_2 c2_0 c2_1 c2_2 c2_3 c2_4 c2_5 c2_6 c2_7 c2_8 c2_9 c2_10 c2_11 B2 st3 hb3
        go_wp2
        go_ret
        exact ⟨rfl, B3.out⟩
      · have e : dlt (a0, b0, c0) (a1, b1, c1) = c1 - c0 := by unfold dlt; rw [if_neg (by rw [ha]; simp), if_neg h1]
        rw [e]
        have d1 : decide (c1 - c0 < 0) = false := decide_eq_false h1
        clear e
        have HRw : Hid (Row 3 (((w.alloc (.cells #[.int .i64 a0, .int .i64 b0, .int .i64 c0] 27)).alloc (.cells #[.int .i64 a1, .int .i64 b1, .int .i64 c1] 27)).alloc (.cells #[.int .i64 a0, .int .i64 b0, .int .i64 c0, .int .i64 a1, .int .i64 b1, .int .i64 c1] 27)) (w.heap.size + 1 + 1) (w.heap.size + 1 + 1 + 1) (.slice (some ⟨w.heap.size + 1 + 1, 0, none⟩) 2 2) 2 (flat [(a0, b0, c0), (a1, b1, c1)])) := by have hh := row_two a0 b0 c0 a1 b1 c1 ((w.alloc (.cells #[.int .i64 a0, .int .i64 b0, .int .i64 c0] 27)).alloc (.cells #[.int .i64 a1, .int .i64 b1, .int .i64 c1] 27)); rw [World.size_alloc, World.size_alloc] at hh; exact Lib.hid hh
        go_enter Try.func34, Try.ntmps34
        go_wp2_with fail
        obtain ⟨q1, hq1⟩ : ∃ q, q = (((w.alloc (.cells #[.int .i64 a0, .int .i64 b0, .int .i64 c0] 27)).alloc (.cells #[.int .i64 a1, .int .i64 b1, .int .i64 c1] 27)).alloc (.cells #[.int .i64 a0, .int .i64 b0, .int .i64 c0, .int .i64 a1, .int .i64 b1, .int .i64 c1] 27)) := ⟨_, rfl⟩
        have hb1 : Below w.heap.size w q1 := by rw [hq1]; go_grown
        have sz1 : w.heap.size + 3 ≤ q1.heap.size := by rw [hq1]; simp
        have c1_0 : q1.cell? ⟨w.heap.size, 0, none⟩ = some (.int .i64 a0) := by rw [hq1, old_box (by simp <;> omega), old_box (by simp <;> omega), new_at (by simp)]; rfl
        have c1_1 : q1.cell? ⟨w.heap.size, 1, none⟩ = some (.int .i64 b0) := by rw [hq1, old_box (by simp <;> omega), old_box (by simp <;> omega), new_at (by simp)]; rfl
        have c1_2 : q1.cell? ⟨w.heap.size, 2, none⟩ = some (.int .i64 c0) := by rw [hq1, old_box (by simp <;> omega), old_box (by simp <;> omega), new_at (by simp)]; rfl
        have c1_3 : q1.cell? ⟨w.heap.size + 1, 0, none⟩ = some (.int .i64 a1) := by rw [hq1, old_box (by simp <;> omega), new_at (by simp)]; rfl
        have c1_4 : q1.cell? ⟨w.heap.size + 1, 1, none⟩ = some (.int .i64 b1) := by rw [hq1, old_box (by simp <;> omega), new_at (by simp)]; rfl
        have c1_5 : q1.cell? ⟨w.heap.size + 1, 2, none⟩ = some (.int .i64 c1) := by rw [hq1, old_box (by simp <;> omega), new_at (by simp)]; rfl
        have c1_6 : q1.cell? ⟨w.heap.size + 1 + 1, 0, none⟩ = some (.int .i64 a0) := by rw [hq1, new_at (by simp)]; rfl
        have c1_7 : q1.cell? ⟨w.heap.size + 1 + 1, 1, none⟩ = some (.int .i64 b0) := by rw [hq1, new_at (by simp)]; rfl
        have c1_8 : q1.cell? ⟨w.heap.size + 1 + 1, 2, none⟩ = some (.int .i64 c0) := by rw [hq1, new_at (by simp)]; rfl
        have c1_9 : q1.cell? ⟨w.heap.size + 1 + 1, 3, none⟩ = some (.int .i64 a1) := by rw [hq1, new_at (by simp)]; rfl
        have c1_10 : q1.cell? ⟨w.heap.size + 1 + 1, 4, none⟩ = some (.int .i64 b1) := by rw [hq1, new_at (by simp)]; rfl
        have c1_11 : q1.cell? ⟨w.heap.size + 1 + 1, 5, none⟩ = some (.int .i64 c1) := by rw [hq1, new_at (by simp)]; rfl
        have B1 : Hid (Below w.heap.size w q1) := Lib.hid hb1
        have HRq : Hid (Row 3 q1 (w.heap.size + 1 + 1) (w.heap.size + 1 + 1 + 1) (.slice (some ⟨w.heap.size + 1 + 1, 0, none⟩) 2 2) 2 (flat [(a0, b0, c0), (a1, b1, c1)])) := by rw [hq1]; exact HRw
        rw [← hq1]
        have d1_0 : w.heap.size < q1.heap.size := by omega
        have e1_0 : w.heap.size ≠ q1.heap.size := by omega
        have d1_1 : w.heap.size + 1 < q1.heap.size := by omega
        have e1_1 : w.heap.size + 1 ≠ q1.heap.size := by omega
        have d1_2 : w.heap.size + 1 + 1 < q1.heap.size := by omega
        have e1_2 : w.heap.size + 1 + 1 ≠ q1.heap.size := by omega
        clear hq1 hb1
        clear HRw
        go_at_call 24
        refine (ssok_any (w.heap.size + 1 + 1) (w.heap.size + 1 + 1 + 1) 2 _ _ q1 rfl HRq.out (by omega)).mono ?_
        rw [hS]
        rintro e v2 ⟨rfl, hb2⟩
        have sz2 : q1.heap.size ≤ v2.heap.size := hb2.size
        have st2 : Below q1.heap.size q1 v2 := hb2
        have c2_0 : v2.cell? ⟨w.heap.size, 0, none⟩ = some (.int .i64 a0) := by rw [(bcell st2).1 _ _ (by omega)]; exact c1_0
        have c2_1 : v2.cell? ⟨w.heap.size, 1, none⟩ = some (.int .i64 b0) := by rw [(bcell st2).1 _ _ (by omega)]; exact c1_1
        have c2_2 : v2.cell? ⟨w.heap.size, 2, none⟩ = some (.int .i64 c0) := by rw [(bcell st2).1 _ _ (by omega)]; exact c1_2
        have c2_3 : v2.cell? ⟨w.heap.size + 1, 0, none⟩ = some (.int .i64 a1) := by rw [(bcell st2).1 _ _ (by omega)]; exact c1_3
        have c2_4 : v2.cell? ⟨w.heap.size + 1, 1, none⟩ = some (.int .i64 b1) := by rw [(bcell st2).1 _ _ (by omega)]; exact c1_4
        have c2_5 : v2.cell? ⟨w.heap.size + 1, 2, none⟩ = some (.int .i64 c1) := by rw [(bcell st2).1 _ _ (by omega)]; exact c1_5
        have c2_6 : v2.cell? ⟨w.heap.size + 1 + 1, 0, none⟩ = some (.int .i64 a0) := by rw [(bcell st2).1 _ _ (by omega)]; exact c1_6
        have c2_7 : v2.cell? ⟨w.heap.size + 1 + 1, 1, none⟩ = some (.int .i64 b0) := by rw [(bcell st2).1 _ _ (by omega)]; exact c1_7
        have c2_8 : v2.cell? ⟨w.heap.size + 1 + 1, 2, none⟩ = some (.int .i64 c0) := by rw [(bcell st2).1 _ _ (by omega)]; exact c1_8
        have c2_9 : v2.cell? ⟨w.heap.size + 1 + 1, 3, none⟩ = some (.int .i64 a1) := by rw [(bcell st2).1 _ _ (by omega)]; exact c1_9
        have c2_10 : v2.cell? ⟨w.heap.size + 1 + 1, 4, none⟩ = some (.int .i64 b1) := by rw [(bcell st2).1 _ _ (by omega)]; exact c1_10
        have c2_11 : v2.cell? ⟨w.heap.size + 1 + 1, 5, none⟩ = some (.int .i64 c1) := by rw [(bcell st2).1 _ _ (by omega)]; exact c1_11
        have B2 : Hid (Below w.heap.size w v2) := B1.out.trans (st2.mono (by omega))
        have d2_0 : w.heap.size < v2.heap.size := by omega
        have e2_0 : w.heap.size ≠ v2.heap.size := by omega
        have d2_1 : w.heap.size + 1 < v2.heap.size := by omega
        have e2_1 : w.heap.size + 1 ≠ v2.heap.size := by omega
        have d2_2 : w.heap.size + 1 + 1 < v2.heap.size := by omega
        have e2_2 : w.heap.size + 1 + 1 ≠ v2.heap.size := by omega
        clear d1_0 e1_0 d1_1 e1_1 d1_2 e1_2 c1_0 c1_1 c1_2 c1_3 c1_4 c1_5 c1_6 c1_7 c1_8 c1_9 c1_10 c1_11 B1 st2 hb2
        clear hS HRq
        go_wp2_with fail
        go_at_call 69
        refine (sanew_any a0 b0 c0 a1 b1 c1 _ k0 k1 k2 k3).mono ?_
        rw [ha]
        rintro e v3 ⟨rfl, hb3⟩
        have sz3 : v2.heap.size ≤ v3.heap.size := hb3.size
        have st3 : Below v2.heap.size v2 v3 := hb3
        have c3_0 : v3.cell? ⟨w.heap.size, 0, none⟩ = some (.int .i64 a0) := by rw [(bcell st3).1 _ _ (by omega)]; exact c2_0
        have c3_1 : v3.cell? ⟨w.heap.size, 1, none⟩ = some (.int .i64 b0) := by rw [(bcell st3).1 _ _ (by omega)]; exact c2_1
        have c3_2 : v3.cell? ⟨w.heap.size, 2, none⟩ = some (.int .i64 c0) := by rw [(bcell st3).1 _ _ (by omega)]; exact c2_2
        have c3_3 : v3.cell? ⟨w.heap.size + 1, 0, none⟩ = some (.int .i64 a1) := by rw [(bcell st3).1 _ _ (by omega)]; exact c2_3
        have c3_4 : v3.cell? ⟨w.heap.size + 1, 1, none⟩ = some (.int .i64 b1) := by rw [(bcell st3).1 _ _ (by omega)]; exact c2_4
        have c3_5 : v3.cell? ⟨w.heap.size + 1, 2, none⟩ = some (.int .i64 c1) := by rw [(bcell st3).1 _ _ (by omega)]; exact c2_5
        have c3_6 : v3.cell? ⟨w.heap.size + 1 + 1, 0, none⟩ = some (.int .i64 a0) := by rw [(bcell st3).1 _ _ (by omega)]; exact c2_6
        have c3_7 : v3.cell? ⟨w.heap.size + 1 + 1, 1, none⟩ = some (.int .i64 b0) := by rw [(bcell st3).1 _ _ (by omega)]; exact c2_7
        have c3_8 : v3.cell? ⟨w.heap.size + 1 + 1, 2, none⟩ = some (.int .i64 c0) := by rw [(bcell st3).1 _ _ (by omega)]; exact c2_8
        have c3_9 : v3.cell? ⟨w.heap.size + 1 + 1, 3, none⟩ = some (.int .i64 a1) := by rw [(bcell st3).1 _ _ (by omega)]; exact c2_9
        have c3_10 : v3.cell? ⟨w.heap.size + 1 + 1, 4, none⟩ = some (.int .i64 b1) := by rw [(bcell st3).1 _ _ (by omega)]; exact c2_10
        have c3_11 : v3.cell? ⟨w.heap.size + 1 + 1, 5, none⟩ = some (.int .i64 c1) := by rw [(bcell st3).1 _ _ (by omega)]; exact c2_11
        have B3 : Hid (Below w.heap.size w v3) := B2.out.trans (st3.mono (by omega))
        have d3_0 : w.heap.size < v3.heap.size := by omega
        have e3_0 : w.heap.size ≠ v3.heap.size := by omega
        have d3_1 : w.heap.size + 1 < v3.heap.size := by omega
        have e3_1 : w.heap.size + 1 ≠ v3.heap.size := by omega
        have d3_2 : w.heap.size + 1 + 1 < v3.heap.size := by omega
        have e3_2 : w.heap.size + 1 + 1 ≠ v3.heap.size := by omega
        clear d2_0 e2_0 d2_1 e2_1 d2_2 e2_2 c2_0 c2_1 c2_2 c2_3 c2_4 c2_5 c2_6 c2_7 c2_8 c2_9 c2_10 c2_11 B2 st3 hb3
        go_wp2
        go_ret
        exact ⟨rfl, B3.out⟩

set_option maxRecDepth 100000 in
set_option maxHeartbeats 4000000 in
theorem idel_any (a0 b0 c0 a1 b1 c1 : Int) (w : World) : Calls Try.prog 21 #[.agg #[.int .i64 a0, .int .i64 b0, .int .i64 c0], .agg #[.int .i64 a1, .int .i64 b1, .int .i64 c1]] w fun e w' => e = .returned (.int .i64 (deltaV (a0, b0, c0) (a1, b1, c1))) ∧ Below w.heap.size w w' := by
  cases hS : sok [(a0, b0, c0), (a1, b1, c1)] with
  | false =>
    rw [deltaV_no hS]
    have HRw : Hid (Row 3 (((w.alloc (.cells #[.int .i64 a0, .int .i64 b0, .int .i64 c0] 27)).alloc (.cells #[.int .i64 a1, .int .i64 b1, .int .i64 c1] 27)).alloc (.cells #[.int .i64 a0, .int .i64 b0, .int .i64 c0, .int .i64 a1, .int .i64 b1, .int .i64 c1] 27)) (w.heap.size + 1 + 1) (w.heap.size + 1 + 1 + 1) (.slice (some ⟨w.heap.size + 1 + 1, 0, none⟩) 2 2) 2 (flat [(a0, b0, c0), (a1, b1, c1)])) := by have hh := row_two a0 b0 c0 a1 b1 c1 ((w.alloc (.cells #[.int .i64 a0, .int .i64 b0, .int .i64 c0] 27)).alloc (.cells #[.int .i64 a1, .int .i64 b1, .int .i64 c1] 27)); rw [World.size_alloc, World.size_alloc] at hh; exact Lib.hid hh
    go_enter Try.func21, Try.ntmps21
    go_wp2_with fail
    obtain ⟨q1, hq1⟩ : ∃ q, q = (((w.alloc (.cells #[.int .i64 a0, .int .i64 b0, .int .i64 c0] 27)).alloc (.cells #[.int .i64 a1, .int .i64 b1, .int .i64 c1] 27)).alloc (.cells #[.int .i64 a0, .int .i64 b0, .int .i64 c0, .int .i64 a1, .int .i64 b1, .int .i64 c1] 27)) := ⟨_, rfl⟩
    have hb1 : Below w.heap.size w q1 := by rw [hq1]; go_grown
    have sz1 : w.heap.size + 3 ≤ q1.heap.size := by rw [hq1]; simp
    have c1_0 : q1.cell? ⟨w.heap.size, 0, none⟩ = some (.int .i64 a0) := by rw [hq1, old_box (by simp <;> omega), old_box (by simp <;> omega), new_at (by simp)]; rfl
    have c1_1 : q1.cell? ⟨w.heap.size, 1, none⟩ = some (.int .i64 b0) := by rw [hq1, old_box (by simp <;> omega), old_box (by simp <;> omega), new_at (by simp)]; rfl
    have c1_2 : q1.cell? ⟨w.heap.size, 2, none⟩ = some (.int .i64 c0) := by rw [hq1, old_box (by simp <;> omega), old_box (by simp <;> omega), new_at (by simp)]; rfl
    have c1_3 : q1.cell? ⟨w.heap.size + 1, 0, none⟩ = some (.int .i64 a1) := by rw [hq1, old_box (by simp <;> omega), new_at (by simp)]; rfl
    have c1_4 : q1.cell? ⟨w.heap.size + 1, 1, none⟩ = some (.int .i64 b1) := by rw [hq1, old_box (by simp <;> omega), new_at (by simp)]; rfl
    have c1_5 : q1.cell? ⟨w.heap.size + 1, 2, none⟩ = some (.int .i64 c1) := by rw [hq1, old_box (by simp <;> omega), new_at (by simp)]; rfl
    have c1_6 : q1.cell? ⟨w.heap.size + 1 + 1, 0, none⟩ = some (.int .i64 a0) := by rw [hq1, new_at (by simp)]; rfl
    have c1_7 : q1.cell? ⟨w.heap.size + 1 + 1, 1, none⟩ = some (.int .i64 b0) := by rw [hq1, new_at (by simp)]; rfl
    have c1_8 : q1.cell? ⟨w.heap.size + 1 + 1, 2, none⟩ = some (.int .i64 c0) := by rw [hq1, new_at (by simp)]; rfl
    have c1_9 : q1.cell? ⟨w.heap.size + 1 + 1, 3, none⟩ = some (.int .i64 a1) := by rw [hq1, new_at (by simp)]; rfl
    have c1_10 : q1.cell? ⟨w.heap.size + 1 + 1, 4, none⟩ = some (.int .i64 b1) := by rw [hq1, new_at (by simp)]; rfl
    have c1_11 : q1.cell? ⟨w.heap.size + 1 + 1, 5, none⟩ = some (.int .i64 c1) := by rw [hq1, new_at (by simp)]; rfl
    have B1 : Hid (Below w.heap.size w q1) := Lib.hid hb1
    have HRq : Hid (Row 3 q1 (w.heap.size + 1 + 1) (w.heap.size + 1 + 1 + 1) (.slice (some ⟨w.heap.size + 1 + 1, 0, none⟩) 2 2) 2 (flat [(a0, b0, c0), (a1, b1, c1)])) := by rw [hq1]; exact HRw
    rw [← hq1]
    have d1_0 : w.heap.size < q1.heap.size := by omega
    have e1_0 : w.heap.size ≠ q1.heap.size := by omega
    have d1_1 : w.heap.size + 1 < q1.heap.size := by omega
    have e1_1 : w.heap.size + 1 ≠ q1.heap.size := by omega
    have d1_2 : w.heap.size + 1 + 1 < q1.heap.size := by omega
    have e1_2 : w.heap.size + 1 + 1 ≠ q1.heap.size := by omega
    clear hq1 hb1
    clear HRw
    go_at_call 32
    refine (isok_any (w.heap.size + 1 + 1) (w.heap.size + 1 + 1 + 1) 2 _ _ q1 rfl HRq.out (by omega)).mono ?_
    rw [hS]
    rintro e v2 ⟨rfl, hb2⟩
    have sz2 : q1.heap.size ≤ v2.heap.size := hb2.size
    have st2 : Below q1.heap.size q1 v2 := hb2
    have c2_0 : v2.cell? ⟨w.heap.size, 0, none⟩ = some (.int .i64 a0) := by rw [(bcell st2).1 _ _ (by omega)]; exact c1_0
    have c2_1 : v2.cell? ⟨w.heap.size, 1, none⟩ = some (.int .i64 b0) := by rw [(bcell st2).1 _ _ (by omega)]; exact c1_1
    have c2_2 : v2.cell? ⟨w.heap.size, 2, none⟩ = some (.int .i64 c0) := by rw [(bcell st2).1 _ _ (by omega)]; exact c1_2
    have c2_3 : v2.cell? ⟨w.heap.size + 1, 0, none⟩ = some (.int .i64 a1) := by rw [(bcell st2).1 _ _ (by omega)]; exact c1_3
    have c2_4 : v2.cell? ⟨w.heap.size + 1, 1, none⟩ = some (.int .i64 b1) := by rw [(bcell st2).1 _ _ (by omega)]; exact c1_4
    have c2_5 : v2.cell? ⟨w.heap.size + 1, 2, none⟩ = some (.int .i64 c1) := by rw [(bcell st2).1 _ _ (by omega)]; exact c1_5
    have c2_6 : v2.cell? ⟨w.heap.size + 1 + 1, 0, none⟩ = some (.int .i64 a0) := by rw [(bcell st2).1 _ _ (by omega)]; exact c1_6
    have c2_7 : v2.cell? ⟨w.heap.size + 1 + 1, 1, none⟩ = some (.int .i64 b0) := by rw [(bcell st2).1 _ _ (by omega)]; exact c1_7
    have c2_8 : v2.cell? ⟨w.heap.size + 1 + 1, 2, none⟩ = some (.int .i64 c0) := by rw [(bcell st2).1 _ _ (by omega)]; exact c1_8
    have c2_9 : v2.cell? ⟨w.heap.size + 1 + 1, 3, none⟩ = some (.int .i64 a1) := by rw [(bcell st2).1 _ _ (by omega)]; exact c1_9
    have c2_10 : v2.cell? ⟨w.heap.size + 1 + 1, 4, none⟩ = some (.int .i64 b1) := by rw [(bcell st2).1 _ _ (by omega)]; exact c1_10
    have c2_11 : v2.cell? ⟨w.heap.size + 1 + 1, 5, none⟩ = some (.int .i64 c1) := by rw [(bcell st2).1 _ _ (by omega)]; exact c1_11
    have B2 : Hid (Below w.heap.size w v2) := B1.out.trans (st2.mono (by omega))
    have d2_0 : w.heap.size < v2.heap.size := by omega
    have e2_0 : w.heap.size ≠ v2.heap.size := by omega
    have d2_1 : w.heap.size + 1 < v2.heap.size := by omega
    have e2_1 : w.heap.size + 1 ≠ v2.heap.size := by omega
    have d2_2 : w.heap.size + 1 + 1 < v2.heap.size := by omega
    have e2_2 : w.heap.size + 1 + 1 ≠ v2.heap.size := by omega
    clear d1_0 e1_0 d1_1 e1_1 d1_2 e1_2 c1_0 c1_1 c1_2 c1_3 c1_4 c1_5 c1_6 c1_7 c1_8 c1_9 c1_10 c1_11 B1 st2 hb2
    go_wp2_with fail
    go_ret
    exact ⟨rfl, B2.out⟩
  | true =>
    rw [deltaV_yes hS]
    obtain ⟨⟨k0, k1⟩, ⟨k2, k3⟩, ⟨k4, k5⟩, k6, k7⟩ := two_parts hS
    have HRw : Hid (Row 3 (((w.alloc (.cells #[.int .i64 a0, .int .i64 b0, .int .i64 c0] 27)).alloc (.cells #[.int .i64 a1, .int .i64 b1, .int .i64 c1] 27)).alloc (.cells #[.int .i64 a0, .int .i64 b0, .int .i64 c0, .int .i64 a1, .int .i64 b1, .int .i64 c1] 27)) (w.heap.size + 1 + 1) (w.heap.size + 1 + 1 + 1) (.slice (some ⟨w.heap.size + 1 + 1, 0, none⟩) 2 2) 2 (flat [(a0, b0, c0), (a1, b1, c1)])) := by have hh := row_two a0 b0 c0 a1 b1 c1 ((w.alloc (.cells #[.int .i64 a0, .int .i64 b0, .int .i64 c0] 27)).alloc (.cells #[.int .i64 a1, .int .i64 b1, .int .i64 c1] 27)); rw [World.size_alloc, World.size_alloc] at hh; exact Lib.hid hh
    go_enter Try.func21, Try.ntmps21
    go_wp2_with fail
    obtain ⟨q1, hq1⟩ : ∃ q, q = (((w.alloc (.cells #[.int .i64 a0, .int .i64 b0, .int .i64 c0] 27)).alloc (.cells #[.int .i64 a1, .int .i64 b1, .int .i64 c1] 27)).alloc (.cells #[.int .i64 a0, .int .i64 b0, .int .i64 c0, .int .i64 a1, .int .i64 b1, .int .i64 c1] 27)) := ⟨_, rfl⟩
    have hb1 : Below w.heap.size w q1 := by rw [hq1]; go_grown
    have sz1 : w.heap.size + 3 ≤ q1.heap.size := by rw [hq1]; simp
    have c1_0 : q1.cell? ⟨w.heap.size, 0, none⟩ = some (.int .i64 a0) := by rw [hq1, old_box (by simp <;> omega), old_box (by simp <;> omega), new_at (by simp)]; rfl
    have c1_1 : q1.cell? ⟨w.heap.size, 1, none⟩ = some (.int .i64 b0) := by rw [hq1, old_box (by simp <;> omega), old_box (by simp <;> omega), new_at (by simp)]; rfl
    have c1_2 : q1.cell? ⟨w.heap.size, 2, none⟩ = some (.int .i64 c0) := by rw [hq1, old_box (by simp <;> omega), old_box (by simp <;> omega), new_at (by simp)]; rfl
    have c1_3 : q1.cell? ⟨w.heap.size + 1, 0, none⟩ = some (.int .i64 a1) := by rw [hq1, old_box (by simp <;> omega), new_at (by simp)]; rfl
    have c1_4 : q1.cell? ⟨w.heap.size + 1, 1, none⟩ = some (.int .i64 b1) := by rw [hq1, old_box (by simp <;> omega), new_at (by simp)]; rfl
    have c1_5 : q1.cell? ⟨w.heap.size + 1, 2, none⟩ = some (.int .i64 c1) := by rw [hq1, old_box (by simp <;> omega), new_at (by simp)]; rfl
    have c1_6 : q1.cell? ⟨w.heap.size + 1 + 1, 0, none⟩ = some (.int .i64 a0) := by rw [hq1, new_at (by simp)]; rfl
    have c1_7 : q1.cell? ⟨w.heap.size + 1 + 1, 1, none⟩ = some (.int .i64 b0) := by rw [hq1, new_at (by simp)]; rfl
    have c1_8 : q1.cell? ⟨w.heap.size + 1 + 1, 2, none⟩ = some (.int .i64 c0) := by rw [hq1, new_at (by simp)]; rfl
    have c1_9 : q1.cell? ⟨w.heap.size + 1 + 1, 3, none⟩ = some (.int .i64 a1) := by rw [hq1, new_at (by simp)]; rfl
    have c1_10 : q1.cell? ⟨w.heap.size + 1 + 1, 4, none⟩ = some (.int .i64 b1) := by rw [hq1, new_at (by simp)]; rfl
    have c1_11 : q1.cell? ⟨w.heap.size + 1 + 1, 5, none⟩ = some (.int .i64 c1) := by rw [hq1, new_at (by simp)]; rfl
    have B1 : Hid (Below w.heap.size w q1) := Lib.hid hb1
    have HRq : Hid (Row 3 q1 (w.heap.size + 1 + 1) (w.heap.size + 1 + 1 + 1) (.slice (some ⟨w.heap.size + 1 + 1, 0, none⟩) 2 2) 2 (flat [(a0, b0, c0), (a1, b1, c1)])) := by rw [hq1]; exact HRw
    rw [← hq1]
    have d1_0 : w.heap.size < q1.heap.size := by omega
    have e1_0 : w.heap.size ≠ q1.heap.size := by omega
    have d1_1 : w.heap.size + 1 < q1.heap.size := by omega
    have e1_1 : w.heap.size + 1 ≠ q1.heap.size := by omega
    have d1_2 : w.heap.size + 1 + 1 < q1.heap.size := by omega
    have e1_2 : w.heap.size + 1 + 1 ≠ q1.heap.size := by omega
    clear hq1 hb1
    clear HRw
    go_at_call 32
    refine (isok_any (w.heap.size + 1 + 1) (w.heap.size + 1 + 1 + 1) 2 _ _ q1 rfl HRq.out (by omega)).mono ?_
    rw [hS]
    rintro e v2 ⟨rfl, hb2⟩
    have sz2 : q1.heap.size ≤ v2.heap.size := hb2.size
    have st2 : Below q1.heap.size q1 v2 := hb2
    have c2_0 : v2.cell? ⟨w.heap.size, 0, none⟩ = some (.int .i64 a0) := by rw [(bcell st2).1 _ _ (by omega)]; exact c1_0
    have c2_1 : v2.cell? ⟨w.heap.size, 1, none⟩ = some (.int .i64 b0) := by rw [(bcell st2).1 _ _ (by omega)]; exact c1_1
    have c2_2 : v2.cell? ⟨w.heap.size, 2, none⟩ = some (.int .i64 c0) := by rw [(bcell st2).1 _ _ (by omega)]; exact c1_2
    have c2_3 : v2.cell? ⟨w.heap.size + 1, 0, none⟩ = some (.int .i64 a1) := by rw [(bcell st2).1 _ _ (by omega)]; exact c1_3
    have c2_4 : v2.cell? ⟨w.heap.size + 1, 1, none⟩ = some (.int .i64 b1) := by rw [(bcell st2).1 _ _ (by omega)]; exact c1_4
    have c2_5 : v2.cell? ⟨w.heap.size + 1, 2, none⟩ = some (.int .i64 c1) := by rw [(bcell st2).1 _ _ (by omega)]; exact c1_5
    have c2_6 : v2.cell? ⟨w.heap.size + 1 + 1, 0, none⟩ = some (.int .i64 a0) := by rw [(bcell st2).1 _ _ (by omega)]; exact c1_6
    have c2_7 : v2.cell? ⟨w.heap.size + 1 + 1, 1, none⟩ = some (.int .i64 b0) := by rw [(bcell st2).1 _ _ (by omega)]; exact c1_7
    have c2_8 : v2.cell? ⟨w.heap.size + 1 + 1, 2, none⟩ = some (.int .i64 c0) := by rw [(bcell st2).1 _ _ (by omega)]; exact c1_8
    have c2_9 : v2.cell? ⟨w.heap.size + 1 + 1, 3, none⟩ = some (.int .i64 a1) := by rw [(bcell st2).1 _ _ (by omega)]; exact c1_9
    have c2_10 : v2.cell? ⟨w.heap.size + 1 + 1, 4, none⟩ = some (.int .i64 b1) := by rw [(bcell st2).1 _ _ (by omega)]; exact c1_10
    have c2_11 : v2.cell? ⟨w.heap.size + 1 + 1, 5, none⟩ = some (.int .i64 c1) := by rw [(bcell st2).1 _ _ (by omega)]; exact c1_11
    have B2 : Hid (Below w.heap.size w v2) := B1.out.trans (st2.mono (by omega))
    have d2_0 : w.heap.size < v2.heap.size := by omega
    have e2_0 : w.heap.size ≠ v2.heap.size := by omega
    have d2_1 : w.heap.size + 1 < v2.heap.size := by omega
    have e2_1 : w.heap.size + 1 ≠ v2.heap.size := by omega
    have d2_2 : w.heap.size + 1 + 1 < v2.heap.size := by omega
    have e2_2 : w.heap.size + 1 + 1 ≠ v2.heap.size := by omega
    clear d1_0 e1_0 d1_1 e1_1 d1_2 e1_2 c1_0 c1_1 c1_2 c1_3 c1_4 c1_5 c1_6 c1_7 c1_8 c1_9 c1_10 c1_11 B1 st2 hb2
    clear hS HRq
    go_wp2_with fail
    go_at_call 56
    refine (inc_any a0 b0 c0 a1 b1 c1 0 _ k0 k1 k2 k3 k4 k5 k6 k7).mono ?_
    rintro e v3 ⟨rfl, hb3⟩
    have sz3 : v2.heap.size ≤ v3.heap.size := hb3.size
    have st3 : Below v2.heap.size v2 v3 := hb3
    have c3_0 : v3.cell? ⟨w.heap.size, 0, none⟩ = some (.int .i64 a0) := by rw [(bcell st3).1 _ _ (by omega)]; exact c2_0
    have c3_1 : v3.cell? ⟨w.heap.size, 1, none⟩ = some (.int .i64 b0) := by rw [(bcell st3).1 _ _ (by omega)]; exact c2_1
    have c3_2 : v3.cell? ⟨w.heap.size, 2, none⟩ = some (.int .i64 c0) := by rw [(bcell st3).1 _ _ (by omega)]; exact c2_2
    have c3_3 : v3.cell? ⟨w.heap.size + 1, 0, none⟩ = some (.int .i64 a1) := by rw [(bcell st3).1 _ _ (by omega)]; exact c2_3
    have c3_4 : v3.cell? ⟨w.heap.size + 1, 1, none⟩ = some (.int .i64 b1) := by rw [(bcell st3).1 _ _ (by omega)]; exact c2_4
    have c3_5 : v3.cell? ⟨w.heap.size + 1, 2, none⟩ = some (.int .i64 c1) := by rw [(bcell st3).1 _ _ (by omega)]; exact c2_5
    have c3_6 : v3.cell? ⟨w.heap.size + 1 + 1, 0, none⟩ = some (.int .i64 a0) := by rw [(bcell st3).1 _ _ (by omega)]; exact c2_6
    have c3_7 : v3.cell? ⟨w.heap.size + 1 + 1, 1, none⟩ = some (.int .i64 b0) := by rw [(bcell st3).1 _ _ (by omega)]; exact c2_7
    have c3_8 : v3.cell? ⟨w.heap.size + 1 + 1, 2, none⟩ = some (.int .i64 c0) := by rw [(bcell st3).1 _ _ (by omega)]; exact c2_8
    have c3_9 : v3.cell? ⟨w.heap.size + 1 + 1, 3, none⟩ = some (.int .i64 a1) := by rw [(bcell st3).1 _ _ (by omega)]; exact c2_9
    have c3_10 : v3.cell? ⟨w.heap.size + 1 + 1, 4, none⟩ = some (.int .i64 b1) := by rw [(bcell st3).1 _ _ (by omega)]; exact c2_10
    have c3_11 : v3.cell? ⟨w.heap.size + 1 + 1, 5, none⟩ = some (.int .i64 c1) := by rw [(bcell st3).1 _ _ (by omega)]; exact c2_11
    have B3 : Hid (Below w.heap.size w v3) := B2.out.trans (st3.mono (by omega))
    have d3_0 : w.heap.size < v3.heap.size := by omega
    have e3_0 : w.heap.size ≠ v3.heap.size := by omega
    have d3_1 : w.heap.size + 1 < v3.heap.size := by omega
    have e3_1 : w.heap.size + 1 ≠ v3.heap.size := by omega
    have d3_2 : w.heap.size + 1 + 1 < v3.heap.size := by omega
    have e3_2 : w.heap.size + 1 + 1 ≠ v3.heap.size := by omega
    clear d2_0 e2_0 d2_1 e2_1 d2_2 e2_2 c2_0 c2_1 c2_2 c2_3 c2_4 c2_5 c2_6 c2_7 c2_8 c2_9 c2_10 c2_11 B2 st3 hb3
    go_wp2_with fail
    go_ret
    exact ⟨rfl, B3.out⟩

set_option maxRecDepth 100000 in
set_option maxHeartbeats 4000000 in
theorem lawDelta (a0 b0 c0 a1 b1 c1 : Int) (w : World) (_h0 : I64 a0) (_h1 : I64 b0) (_h2 : I64 c0) (_h3 : I64 a1) (_h4 : I64 b1) (_h5 : I64 c1) :
    Calls Try.prog 6 #[.agg #[.int .i64 a0, .int .i64 b0, .int .i64 c0], .agg #[.int .i64 a1, .int .i64 b1, .int .i64 c1]] w fun e w' => e = .returned (.bool true) ∧ Below w.heap.size w w' := by
  obtain ⟨D, hD⟩ : ∃ D, D = deltaV (a0, b0, c0) (a1, b1, c1) := ⟨_, rfl⟩
  have HS := Lib.hid (fun w => sdel_any a0 b0 c0 a1 b1 c1 w)
  have HI := Lib.hid (fun w => idel_any a0 b0 c0 a1 b1 c1 w)
  rw [← hD] at HS HI
  clear hD
  go_enter Try.func6, Try.ntmps6
  go_wp2_with fail
  obtain ⟨q1, hq1⟩ : ∃ q, q = ((w.alloc (.cells #[.int .i64 a0, .int .i64 b0, .int .i64 c0] 43)).alloc (.cells #[.int .i64 a1, .int .i64 b1, .int .i64 c1] 43)) := ⟨_, rfl⟩
  have hb1 : Below w.heap.size w q1 := by rw [hq1]; go_grown
  have sz1 : w.heap.size + 2 ≤ q1.heap.size := by rw [hq1]; simp
  have c1_0 : q1.cell? ⟨w.heap.size, 0, none⟩ = some (.int .i64 a0) := by rw [hq1, old_box (by simp <;> omega), new_at (by simp)]; rfl
  have c1_1 : q1.cell? ⟨w.heap.size, 1, none⟩ = some (.int .i64 b0) := by rw [hq1, old_box (by simp <;> omega), new_at (by simp)]; rfl
  have c1_2 : q1.cell? ⟨w.heap.size, 2, none⟩ = some (.int .i64 c0) := by rw [hq1, old_box (by simp <;> omega), new_at (by simp)]; rfl
  have c1_3 : q1.cell? ⟨w.heap.size + 1, 0, none⟩ = some (.int .i64 a1) := by rw [hq1, new_at (by simp)]; rfl
  have c1_4 : q1.cell? ⟨w.heap.size + 1, 1, none⟩ = some (.int .i64 b1) := by rw [hq1, new_at (by simp)]; rfl
  have c1_5 : q1.cell? ⟨w.heap.size + 1, 2, none⟩ = some (.int .i64 c1) := by rw [hq1, new_at (by simp)]; rfl
  have B1 : Hid (Below w.heap.size w q1) := Lib.hid hb1
  rw [← hq1]
  have d1_0 : w.heap.size < q1.heap.size := by omega
  have e1_0 : w.heap.size ≠ q1.heap.size := by omega
  have d1_1 : w.heap.size + 1 < q1.heap.size := by omega
  have e1_1 : w.heap.size + 1 ≠ q1.heap.size := by omega
  clear hq1 hb1
  refine wp_region_held_drew (S := (fun w' => w'.cell? ⟨w.heap.size, 0, none⟩ = some (.int .i64 a0) ∧ w'.cell? ⟨w.heap.size, 1, none⟩ = some (.int .i64 b0) ∧ w'.cell? ⟨w.heap.size, 2, none⟩ = some (.int .i64 c0) ∧ w'.cell? ⟨w.heap.size + 1, 0, none⟩ = some (.int .i64 a1) ∧ w'.cell? ⟨w.heap.size + 1, 1, none⟩ = some (.int .i64 b1) ∧ w'.cell? ⟨w.heap.size + 1, 2, none⟩ = some (.int .i64 c1) ∧ q1.heap.size ≤ w'.heap.size ∧ Below q1.heap.size q1 w')) (by kernel_rfl) ?_ (fun hHeld => ?_)
  · (first | assumption | exact rr6_start c1_0 c1_1 c1_2 c1_3 c1_4 c1_5 | exact rr6_drew (by assumption) | exact rr6_keep (by omega) (by omega) (by omega) (by omega) (by omega) (by omega) (by assumption) (by assumption))
  refine step_read 0 7 rfl rfl (by kernel_rfl) (by kernel_rfl) (by kernel_rfl) (fun _ _ _ h => h) (by rfl) (v := ?_) (fun w hSw => ?_) (by assumption) ?_; rotate_left; (focus ((try dsimp only at hSw); go_simp; first | done | exact rfl)); simp only [List.set]
  refine step_read 2 9 rfl rfl (by kernel_rfl) (by kernel_rfl) (by kernel_rfl) (fun _ _ _ h => h) (by rfl) (v := ?_) (fun w hSw => ?_) (by assumption) ?_; rotate_left; (focus ((try dsimp only at hSw); go_simp; first | done | exact rfl)); simp only [List.set]
  refine wpAnyH_ready (rs := [1]) (by kernel_rfl) (by simp) ?_
  refine AllReadyH.cons rfl (fun Kc hK => ?_) (AllReadyH.nil)
  go_simp; go_at_call 35; refine (toSample_any a0 b0 c0 _).mono ?_; rintro e w2 ⟨rfl, hb⟩
  refine hK.out _ _ ?_ (fun hHeld => ?_)
  · (first | assumption | exact rr6_start c1_0 c1_1 c1_2 c1_3 c1_4 c1_5 | exact rr6_drew (by assumption) | exact rr6_keep (by omega) (by omega) (by omega) (by omega) (by omega) (by omega) (by assumption) (by assumption))
  clear hK Kc
  refine wpAnyH_ready (rs := [3]) (by kernel_rfl) (by simp) ?_
  refine AllReadyH.cons rfl (fun Kc hK => ?_) (AllReadyH.nil)
  go_simp; go_at_call 35; refine (toSample_any a1 b1 c1 _).mono ?_; rintro e w2 ⟨rfl, hb⟩
  refine hK.out _ _ ?_ (fun hHeld => ?_)
  · (first | assumption | exact rr6_start c1_0 c1_1 c1_2 c1_3 c1_4 c1_5 | exact rr6_drew (by assumption) | exact rr6_keep (by omega) (by omega) (by omega) (by omega) (by omega) (by omega) (by assumption) (by assumption))
  clear hK Kc
  refine wpAnyH_ready (rs := [4]) (by kernel_rfl) (by simp) ?_
  refine AllReadyH.cons rfl (fun Kc hK => ?_) (AllReadyH.nil)
  go_simp; go_at_call 34; refine (HS.out _).mono ?_; rintro e w2 ⟨rfl, hb⟩
  refine hK.out _ _ ?_ (fun hHeld => ?_)
  · (first | assumption | exact rr6_start c1_0 c1_1 c1_2 c1_3 c1_4 c1_5 | exact rr6_drew (by assumption) | exact rr6_keep (by omega) (by omega) (by omega) (by omega) (by omega) (by omega) (by assumption) (by assumption))
  clear hK Kc
  refine step_read 5 5 rfl rfl (by kernel_rfl) (by kernel_rfl) (by kernel_rfl) (fun _ _ _ h => h) (by rfl) (v := ?_) (fun w hSw => ?_) (by assumption) ?_; rotate_left; (focus ((try dsimp only at hSw); go_simp; first | done | exact rfl)); simp only [List.set]
  refine wpAnyH_done (by kernel_rfl) ?_ _
  go_wp2_with fail
  refine wp_region_held_drew (S := (fun w' => w'.cell? ⟨w.heap.size, 0, none⟩ = some (.int .i64 a0) ∧ w'.cell? ⟨w.heap.size, 1, none⟩ = some (.int .i64 b0) ∧ w'.cell? ⟨w.heap.size, 2, none⟩ = some (.int .i64 c0) ∧ w'.cell? ⟨w.heap.size + 1, 0, none⟩ = some (.int .i64 a1) ∧ w'.cell? ⟨w.heap.size + 1, 1, none⟩ = some (.int .i64 b1) ∧ w'.cell? ⟨w.heap.size + 1, 2, none⟩ = some (.int .i64 c1) ∧ q1.heap.size ≤ w'.heap.size ∧ Below q1.heap.size q1 w')) (by kernel_rfl) ?_ (fun hHeld => ?_)
  · (first | assumption | exact rr6_drew (by assumption) | exact rr6_keep (by omega) (by omega) (by omega) (by omega) (by omega) (by omega) (by assumption) (by assumption))
  refine step_read 0 12 rfl rfl (by kernel_rfl) (by kernel_rfl) (by kernel_rfl) (fun _ _ _ h => h) (by rfl) (v := ?_) (fun w hSw => ?_) (by assumption) ?_; rotate_left; (focus ((try dsimp only at hSw); go_simp; first | done | exact rfl)); simp only [List.set]
  refine step_read 2 14 rfl rfl (by kernel_rfl) (by kernel_rfl) (by kernel_rfl) (fun _ _ _ h => h) (by rfl) (v := ?_) (fun w hSw => ?_) (by assumption) ?_; rotate_left; (focus ((try dsimp only at hSw); go_simp; first | done | exact rfl)); simp only [List.set]
  refine wpAnyH_ready (rs := [1]) (by kernel_rfl) (by simp) ?_
  refine AllReadyH.cons rfl (fun Kc hK => ?_) (AllReadyH.nil)
  go_simp; go_at_call 35; refine (toSample_any a0 b0 c0 _).mono ?_; rintro e w2 ⟨rfl, hb⟩
  refine hK.out _ _ ?_ (fun hHeld => ?_)
  · (first | assumption | exact rr6_drew (by assumption) | exact rr6_keep (by omega) (by omega) (by omega) (by omega) (by omega) (by omega) (by assumption) (by assumption))
  clear hK Kc
  refine wpAnyH_ready (rs := [3]) (by kernel_rfl) (by simp) ?_
  refine AllReadyH.cons rfl (fun Kc hK => ?_) (AllReadyH.nil)
  go_simp; go_at_call 35; refine (toSample_any a1 b1 c1 _).mono ?_; rintro e w2 ⟨rfl, hb⟩
  refine hK.out _ _ ?_ (fun hHeld => ?_)
  · (first | assumption | exact rr6_drew (by assumption) | exact rr6_keep (by omega) (by omega) (by omega) (by omega) (by omega) (by omega) (by assumption) (by assumption))
  clear hK Kc
  refine wpAnyH_ready (rs := [4]) (by kernel_rfl) (by simp) ?_
  refine AllReadyH.cons rfl (fun Kc hK => ?_) (AllReadyH.nil)
  go_simp; go_at_call 21; refine (HI.out _).mono ?_; rintro e w2 ⟨rfl, hb⟩
  refine hK.out _ _ ?_ (fun hHeld => ?_)
  · (first | assumption | exact rr6_drew (by assumption) | exact rr6_keep (by omega) (by omega) (by omega) (by omega) (by omega) (by omega) (by assumption) (by assumption))
  clear hK Kc
  refine step_read 5 6 rfl rfl (by kernel_rfl) (by kernel_rfl) (by kernel_rfl) (fun _ _ _ h => h) (by rfl) (v := ?_) (fun w hSw => ?_) (by assumption) ?_; rotate_left; (focus ((try dsimp only at hSw); go_simp; first | done | exact rfl)); simp only [List.set]
  refine wpAnyH_done (by kernel_rfl) ?_ _
  go_wp2_with fail
  go_ret
  exact ⟨rfl, B1.out.trans ((rr6_out (by assumption)).2.mono (by omega))⟩

end Go.Proofs.Ytadanckhmjgphaa
