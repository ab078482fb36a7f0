/- The small functions of counters, as contracts. -/
import Derived.Test.YtadanckhmjgphaaL0
import Derived.Test.YtadanckhmjgphaaMs
import Derived.Test.YtadanckhmjgphaaReg
namespace Go.Proofs.Ytadanckhmjgphaa
open Go.RowKit


theorem new_at {w : World} {b o : Nat} {cs : Array Value} {t : TypeId} (h : b = w.heap.size) : (w.alloc (.cells cs t)).cell? ⟨b, o, none⟩ = cs[o]? := by subst h; exact cell_of_row _ _ _ _ _ _ (heap_alloc_new _ _)
theorem new_frz {w : World} {b o : Nat} {cs : Array Value} {t : TypeId} (h : b = w.heap.size) : (w.alloc (.cells cs t)).frozen? ⟨b, o, none⟩ = false := by subst h; exact frozen_of_row _ _ _ _ _ (heap_alloc_new _ _)
theorem old_frz {w : World} {b o : Nat} {x : Obj} (h : b < w.heap.size) : (w.alloc x).frozen? ⟨b, o, none⟩ = w.frozen? ⟨b, o, none⟩ := ((Below.refl w.heap.size w).alloc (Nat.le_refl _) x).frozen (p := ⟨b, o, none⟩) h

theorem in_any (x a b : Int) (w : World) : Calls Try.prog 61 #[.int .i64 x, .int .i64 a, .int .i64 b] w fun e w' => e = .returned (.bool (inB x a b)) ∧ w = w' := by
  unfold inB
  by_cases h1 : a ≤ x
  · rw [decide_eq_true h1, Bool.true_and]
    go_enter Try.func61, Try.ntmps61
    go_wp2
    go_ret
    exact ⟨rfl, rfl⟩
  · rw [decide_eq_false h1, Bool.false_and]
    have h2 : decide (a ≤ x) = false := decide_eq_false h1
    go_enter Try.func61, Try.ntmps61
    go_wp2
    go_ret
    exact ⟨rfl, rfl⟩

set_option maxRecDepth 100000 in
set_option maxHeartbeats 4000000 in
theorem sampleOk_any (a b c : Int) (w : World) : Calls Try.prog 67 #[.agg #[.int .i64 a, .int .i64 b, .int .i64 c]] w fun e w' => e = .returned (.bool (smB a b c)) ∧ Below w.heap.size w w' := by
  by_cases h0 : 0 ≤ a
  case neg =>
    have d0 : decide (0 ≤ a) = false := decide_eq_false h0
    have e : smB a b c = false := by rw [Bool.eq_false_iff, ne_eq, smB_iff]; omega
    rw [e]
    clear e
    go_enter Try.func67, Try.ntmps67
    go_wp2
    go_ret
    exact ⟨rfl, by go_grown⟩
  case pos =>
    have d0 : decide (0 ≤ a) = true := decide_eq_true h0
    by_cases h1 : a ≤ 1000000000
    case neg =>
      have d1 : decide (a ≤ 1000000000) = false := decide_eq_false h1
      have e : smB a b c = false := by rw [Bool.eq_false_iff, ne_eq, smB_iff]; omega
      rw [e]
      clear e
      go_enter Try.func67, Try.ntmps67
      go_wp2
      go_ret
      exact ⟨rfl, by go_grown⟩
    case pos =>
      have d1 : decide (a ≤ 1000000000) = true := decide_eq_true h1
      by_cases h2 : 0 ≤ b
      case neg =>
        have d2 : decide (0 ≤ b) = false := decide_eq_false h2
        have e : smB a b c = false := by rw [Bool.eq_false_iff, ne_eq, smB_iff]; omega
        rw [e]
        clear e
        go_enter Try.func67, Try.ntmps67
        go_wp2
        go_ret
        exact ⟨rfl, by go_grown⟩
      case pos =>
        have d2 : decide (0 ≤ b) = true := decide_eq_true h2
        by_cases h3 : b ≤ a
        case neg =>
          have d3 : decide (b ≤ a) = false := decide_eq_false h3
          have e : smB a b c = false := by rw [Bool.eq_false_iff, ne_eq, smB_iff]; omega
          rw [e]
          clear e
          go_enter Try.func67, Try.ntmps67
          go_wp2
          go_ret
          exact ⟨rfl, by go_grown⟩
        case pos =>
          have d3 : decide (b ≤ a) = true := decide_eq_true h3
          by_cases h4 : 0 ≤ c
          case neg =>
            have d4 : decide (0 ≤ c) = false := decide_eq_false h4
            have e : smB a b c = false := by rw [Bool.eq_false_iff, ne_eq, smB_iff]; omega
            rw [e]
            clear e
            go_enter Try.func67, Try.ntmps67
            go_wp2
            go_ret
            exact ⟨rfl, by go_grown⟩
          case pos =>
            have d4 : decide (0 ≤ c) = true := decide_eq_true h4
            by_cases h5 : c < 4294967296
            case neg =>
              have d5 : decide (c < 4294967296) = false := decide_eq_false h5
              have e : smB a b c = false := by rw [Bool.eq_false_iff, ne_eq, smB_iff]; omega
              rw [e]
              clear e
              go_enter Try.func67, Try.ntmps67
              go_wp2
              go_ret
              exact ⟨rfl, by go_grown⟩
            case pos =>
              have d5 : decide (c < 4294967296) = true := decide_eq_true h5
              have e : smB a b c = true := by rw [smB_iff]; omega
              rw [e]
              clear e
              go_enter Try.func67, Try.ntmps67
              go_wp2
              go_ret
              exact ⟨rfl, by go_grown⟩

set_option maxRecDepth 100000 in
set_option maxHeartbeats 4000000 in
theorem dur_any (a0 b0 c0 a1 b1 c1 x : Int) (w : World) (k0 : 0 ≤ a0) (k1 : a0 ≤ 1000000000) (k2 : 0 ≤ a1) (k3 : a1 ≤ 1000000000) : Calls Try.prog 63 #[.agg #[.int .i64 a0, .int .i64 b0, .int .i64 c0, .int .i64 a1, .int .i64 b1, .int .i64 c1, .int .i64 x]] w fun e w' => e = .returned (.int .i64 (a1 - a0)) ∧ Below w.heap.size w w' := by
  go_enter Try.func63, Try.ntmps63
  go_wp2
  go_ret
  exact ⟨rfl, by go_grown⟩

set_option maxRecDepth 100000 in
set_option maxHeartbeats 4000000 in
theorem rst_any (a0 b0 c0 a1 b1 c1 x : Int) (w : World) (k0 : 0 ≤ a0) (k1 : a0 ≤ 1000000000) (k2 : 0 ≤ a1) (k3 : a1 ≤ 1000000000) : Calls Try.prog 86 #[.agg #[.int .i64 a0, .int .i64 b0, .int .i64 c0, .int .i64 a1, .int .i64 b1, .int .i64 c1, .int .i64 x]] w fun e w' => e = .returned (.bool (anewB (a0, b0, c0) (a1, b1, c1))) ∧ Below w.heap.size w w' := by
  have e : anewB (a0, b0, c0) (a1, b1, c1) = (decide (b1 < a1 - a0) || decide (b1 < b0)) := rfl
  rw [e]
  clear e
  by_cases h1 : b1 < a1 - a0
  · rw [decide_eq_true h1, Bool.true_or]
    have d1 : decide (b1 < a1 - a0) = true := decide_eq_true h1
    clear h1
    go_enter Try.func86, Try.ntmps86
    go_wp2_with fail
    obtain ⟨q1, hq1⟩ : ∃ q, q = (w.alloc (.cells #[.int .i64 a0, .int .i64 b0, .int .i64 c0, .int .i64 a1, .int .i64 b1, .int .i64 c1, .int .i64 x] 86)) := ⟨_, rfl⟩
    have hb1 : Below w.heap.size w q1 := by rw [hq1]; go_grown
    have sz1 : w.heap.size + 1 ≤ q1.heap.size := by rw [hq1]; simp
    have c1_0 : q1.cell? ⟨w.heap.size, 0, none⟩ = some (.int .i64 a0) := by rw [hq1, new_at (by simp)]; rfl
    have c1_1 : q1.cell? ⟨w.heap.size, 1, none⟩ = some (.int .i64 b0) := by rw [hq1, new_at (by simp)]; rfl
    have c1_2 : q1.cell? ⟨w.heap.size, 2, none⟩ = some (.int .i64 c0) := by rw [hq1, new_at (by simp)]; rfl
    have c1_3 : q1.cell? ⟨w.heap.size, 3, none⟩ = some (.int .i64 a1) := by rw [hq1, new_at (by simp)]; rfl
    have c1_4 : q1.cell? ⟨w.heap.size, 4, none⟩ = some (.int .i64 b1) := by rw [hq1, new_at (by simp)]; rfl
    have c1_5 : q1.cell? ⟨w.heap.size, 5, none⟩ = some (.int .i64 c1) := by rw [hq1, new_at (by simp)]; rfl
    have c1_6 : q1.cell? ⟨w.heap.size, 6, none⟩ = some (.int .i64 x) := by rw [hq1, new_at (by simp)]; rfl
    have B1 : Hid (Below w.heap.size w q1) := Lib.hid hb1
    rw [← hq1]
    have d1_0 : w.heap.size < q1.heap.size := by omega
    have e1_0 : w.heap.size ≠ q1.heap.size := by omega
    clear hq1 hb1
    refine wp_region_held_drew (S := (fun w' => w'.cell? ⟨w.heap.size, 0, none⟩ = some (.int .i64 a0) ∧ w'.cell? ⟨w.heap.size, 1, none⟩ = some (.int .i64 b0) ∧ w'.cell? ⟨w.heap.size, 2, none⟩ = some (.int .i64 c0) ∧ w'.cell? ⟨w.heap.size, 3, none⟩ = some (.int .i64 a1) ∧ w'.cell? ⟨w.heap.size, 4, none⟩ = some (.int .i64 b1) ∧ w'.cell? ⟨w.heap.size, 5, none⟩ = some (.int .i64 c1) ∧ w'.cell? ⟨w.heap.size, 6, none⟩ = some (.int .i64 x) ∧ q1.heap.size ≤ w'.heap.size ∧ Below q1.heap.size q1 w')) (by kernel_rfl) ?_ (fun hHeld => ?_)
    · (first | assumption | exact rr7_start c1_0 c1_1 c1_2 c1_3 c1_4 c1_5 c1_6 | exact rr7_drew (by assumption) | exact rr7_keep (by omega) (by omega) (by omega) (by omega) (by omega) (by omega) (by omega) (by assumption) (by assumption))
    refine step_read 0 3 rfl rfl (by kernel_rfl) (by kernel_rfl) (by kernel_rfl) (fun _ _ _ h => h) (by rfl) (v := ?_) (fun w hSw => ?_) (by assumption) ?_; rotate_left; (focus ((try dsimp only at hSw); go_simp; first | done | exact rfl)); simp only [List.set]
    refine step_read 1 4 rfl rfl (by kernel_rfl) (by kernel_rfl) (by kernel_rfl) (fun _ _ _ h => h) (by rfl) (v := ?_) (fun w hSw => ?_) (by assumption) ?_; rotate_left; (focus ((try dsimp only at hSw); go_simp; first | done | exact rfl)); simp only [List.set]
    refine step_read 2 5 rfl rfl (by kernel_rfl) (by kernel_rfl) (by kernel_rfl) (fun _ _ _ h => h) (by rfl) (v := ?_) (fun w hSw => ?_) (by assumption) ?_; rotate_left; (focus ((try dsimp only at hSw); go_simp; first | done | exact rfl)); simp only [List.set]
    refine step_read 3 6 rfl rfl (by kernel_rfl) (by kernel_rfl) (by kernel_rfl) (fun _ _ _ h => h) (by rfl) (v := ?_) (fun w hSw => ?_) (by assumption) ?_; rotate_left; (focus ((try dsimp only at hSw); go_simp; first | done | exact rfl)); simp only [List.set]
    (refine wpAnyH_ready (rs := [4]) (by kernel_rfl) (by simp) ?_; refine AllReadyH.cons rfl (fun K hK => ?_) AllReadyH.nil; go_simp; (go_at_call 63; refine (dur_any a0 b0 c0 a1 b1 c1 x _ k0 k1 k2 k3).mono ?_; rintro e w2 ⟨rfl, hb⟩); refine hK.out _ _ ?_ (fun hHeld => ?_); (focus ((first | assumption | exact rr7_start c1_0 c1_1 c1_2 c1_3 c1_4 c1_5 c1_6 | exact rr7_drew (by assumption) | exact rr7_keep (by omega) (by omega) (by omega) (by omega) (by omega) (by omega) (by omega) (by assumption) (by assumption)))); clear hK K)
    refine step_read 5 8 rfl rfl (by kernel_rfl) (by kernel_rfl) (by kernel_rfl) (fun _ _ _ h => h) (by rfl) (v := ?_) (fun w hSw => ?_) (by assumption) ?_; rotate_left; (focus ((try dsimp only at hSw); go_simp; first | done | exact rfl)); simp only [List.set]
    refine step_read 6 9 rfl rfl (by kernel_rfl) (by kernel_rfl) (by kernel_rfl) (fun _ _ _ h => h) (by rfl) (v := ?_) (fun w hSw => ?_) (by assumption) ?_; rotate_left; (focus ((try dsimp only at hSw); go_simp; first | done | exact rfl)); simp only [List.set]
    refine step_skip 7 10 rfl rfl (by kernel_rfl) (by kernel_rfl) (by kernel_rfl) (fun _ _ _ h => h) (by rfl) (by assumption) ?_; simp only [List.set]
    refine step_skip 8 11 rfl rfl (by kernel_rfl) (by kernel_rfl) (by kernel_rfl) (fun _ _ _ h => h) (by rfl) (by assumption) ?_; simp only [List.set]
    refine step_skip 9 12 rfl rfl (by kernel_rfl) (by kernel_rfl) (by kernel_rfl) (fun _ _ _ h => h) (by rfl) (by assumption) ?_; simp only [List.set]
    refine step_skip 10 13 rfl rfl (by kernel_rfl) (by kernel_rfl) (by kernel_rfl) (fun _ _ _ h => h) (by rfl) (by assumption) ?_; simp only [List.set]
    refine step_skip 11 14 rfl rfl (by kernel_rfl) (by kernel_rfl) (by kernel_rfl) (fun _ _ _ h => h) (by rfl) (by assumption) ?_; simp only [List.set]
    refine step_skip 12 15 rfl rfl (by kernel_rfl) (by kernel_rfl) (by kernel_rfl) (fun _ _ _ h => h) (by rfl) (by assumption) ?_; simp only [List.set]
    refine step_skip 13 16 rfl rfl (by kernel_rfl) (by kernel_rfl) (by kernel_rfl) (fun _ _ _ h => h) (by rfl) (by assumption) ?_; simp only [List.set]
    refine step_read 14 17 rfl rfl (by kernel_rfl) (by kernel_rfl) (by kernel_rfl) (fun _ _ _ h => h) (by rfl) (v := ?_) (fun w hSw => ?_) (by assumption) ?_; rotate_left; (focus ((try dsimp only at hSw); go_simp; first | done | exact rfl)); simp only [List.set]
    refine step_read 15 2 rfl rfl (by kernel_rfl) (by kernel_rfl) (by kernel_rfl) (fun _ _ _ h => h) (by rfl) (v := ?_) (fun w hSw => ?_) (by assumption) ?_; rotate_left; (focus ((try dsimp only at hSw); go_simp; first | done | exact rfl)); simp only [List.set]
    refine wpAnyH_done (by kernel_rfl) ?_ _
    go_wp2_with fail
    go_ret
    exact ⟨rfl, B1.out.trans ((rr7_out (by assumption)).2.mono (by omega))⟩
  · rw [decide_eq_false h1, Bool.false_or]
    have d1 : decide (b1 < a1 - a0) = false := decide_eq_false h1
    clear h1
    go_enter Try.func86, Try.ntmps86
    go_wp2_with fail
    obtain ⟨q1, hq1⟩ : ∃ q, q = (w.alloc (.cells #[.int .i64 a0, .int .i64 b0, .int .i64 c0, .int .i64 a1, .int .i64 b1, .int .i64 c1, .int .i64 x] 86)) := ⟨_, rfl⟩
    have hb1 : Below w.heap.size w q1 := by rw [hq1]; go_grown
    have sz1 : w.heap.size + 1 ≤ q1.heap.size := by rw [hq1]; simp
    have c1_0 : q1.cell? ⟨w.heap.size, 0, none⟩ = some (.int .i64 a0) := by rw [hq1, new_at (by simp)]; rfl
    have c1_1 : q1.cell? ⟨w.heap.size, 1, none⟩ = some (.int .i64 b0) := by rw [hq1, new_at (by simp)]; rfl
    have c1_2 : q1.cell? ⟨w.heap.size, 2, none⟩ = some (.int .i64 c0) := by rw [hq1, new_at (by simp)]; rfl
    have c1_3 : q1.cell? ⟨w.heap.size, 3, none⟩ = some (.int .i64 a1) := by rw [hq1, new_at (by simp)]; rfl
    have c1_4 : q1.cell? ⟨w.heap.size, 4, none⟩ = some (.int .i64 b1) := by rw [hq1, new_at (by simp)]; rfl
    have c1_5 : q1.cell? ⟨w.heap.size, 5, none⟩ = some (.int .i64 c1) := by rw [hq1, new_at (by simp)]; rfl
    have c1_6 : q1.cell? ⟨w.heap.size, 6, none⟩ = some (.int .i64 x) := by rw [hq1, new_at (by simp)]; rfl
    have B1 : Hid (Below w.heap.size w q1) := Lib.hid hb1
    rw [← hq1]
    have d1_0 : w.heap.size < q1.heap.size := by omega
    have e1_0 : w.heap.size ≠ q1.heap.size := by omega
    clear hq1 hb1
    refine wp_region_held_drew (S := (fun w' => w'.cell? ⟨w.heap.size, 0, none⟩ = some (.int .i64 a0) ∧ w'.cell? ⟨w.heap.size, 1, none⟩ = some (.int .i64 b0) ∧ w'.cell? ⟨w.heap.size, 2, none⟩ = some (.int .i64 c0) ∧ w'.cell? ⟨w.heap.size, 3, none⟩ = some (.int .i64 a1) ∧ w'.cell? ⟨w.heap.size, 4, none⟩ = some (.int .i64 b1) ∧ w'.cell? ⟨w.heap.size, 5, none⟩ = some (.int .i64 c1) ∧ w'.cell? ⟨w.heap.size, 6, none⟩ = some (.int .i64 x) ∧ q1.heap.size ≤ w'.heap.size ∧ Below q1.heap.size q1 w')) (by kernel_rfl) ?_ (fun hHeld => ?_)
    · (first | assumption | exact rr7_start c1_0 c1_1 c1_2 c1_3 c1_4 c1_5 c1_6 | exact rr7_drew (by assumption) | exact rr7_keep (by omega) (by omega) (by omega) (by omega) (by omega) (by omega) (by omega) (by assumption) (by assumption))
    refine step_read 0 3 rfl rfl (by kernel_rfl) (by kernel_rfl) (by kernel_rfl) (fun _ _ _ h => h) (by rfl) (v := ?_) (fun w hSw => ?_) (by assumption) ?_; rotate_left; (focus ((try dsimp only at hSw); go_simp; first | done | exact rfl)); simp only [List.set]
    refine step_read 1 4 rfl rfl (by kernel_rfl) (by kernel_rfl) (by kernel_rfl) (fun _ _ _ h => h) (by rfl) (v := ?_) (fun w hSw => ?_) (by assumption) ?_; rotate_left; (focus ((try dsimp only at hSw); go_simp; first | done | exact rfl)); simp only [List.set]
    refine step_read 2 5 rfl rfl (by kernel_rfl) (by kernel_rfl) (by kernel_rfl) (fun _ _ _ h => h) (by rfl) (v := ?_) (fun w hSw => ?_) (by assumption) ?_; rotate_left; (focus ((try dsimp only at hSw); go_simp; first | done | exact rfl)); simp only [List.set]
    refine step_read 3 6 rfl rfl (by kernel_rfl) (by kernel_rfl) (by kernel_rfl) (fun _ _ _ h => h) (by rfl) (v := ?_) (fun w hSw => ?_) (by assumption) ?_; rotate_left; (focus ((try dsimp only at hSw); go_simp; first | done | exact rfl)); simp only [List.set]
    (refine wpAnyH_ready (rs := [4]) (by kernel_rfl) (by simp) ?_; refine AllReadyH.cons rfl (fun K hK => ?_) AllReadyH.nil; go_simp; (go_at_call 63; refine (dur_any a0 b0 c0 a1 b1 c1 x _ k0 k1 k2 k3).mono ?_; rintro e w2 ⟨rfl, hb⟩); refine hK.out _ _ ?_ (fun hHeld => ?_); (focus ((first | assumption | exact rr7_start c1_0 c1_1 c1_2 c1_3 c1_4 c1_5 c1_6 | exact rr7_drew (by assumption) | exact rr7_keep (by omega) (by omega) (by omega) (by omega) (by omega) (by omega) (by omega) (by assumption) (by assumption)))); clear hK K)
    refine step_read 5 8 rfl rfl (by kernel_rfl) (by kernel_rfl) (by kernel_rfl) (fun _ _ _ h => h) (by rfl) (v := ?_) (fun w hSw => ?_) (by assumption) ?_; rotate_left; (focus ((try dsimp only at hSw); go_simp; first | done | exact rfl)); simp only [List.set]
    refine step_read 6 9 rfl rfl (by kernel_rfl) (by kernel_rfl) (by kernel_rfl) (fun _ _ _ h => h) (by rfl) (v := ?_) (fun w hSw => ?_) (by assumption) ?_; rotate_left; (focus ((try dsimp only at hSw); go_simp; first | done | exact rfl)); simp only [List.set]
    refine step_read 7 10 rfl rfl (by kernel_rfl) (by kernel_rfl) (by kernel_rfl) (fun _ _ _ h => h) (by rfl) (v := ?_) (fun w hSw => ?_) (by assumption) ?_; rotate_left; (focus ((try dsimp only at hSw); go_simp; first | done | exact rfl)); simp only [List.set]
    refine step_read 8 11 rfl rfl (by kernel_rfl) (by kernel_rfl) (by kernel_rfl) (fun _ _ _ h => h) (by rfl) (v := ?_) (fun w hSw => ?_) (by assumption) ?_; rotate_left; (focus ((try dsimp only at hSw); go_simp; first | done | exact rfl)); simp only [List.set]
    refine step_read 9 12 rfl rfl (by kernel_rfl) (by kernel_rfl) (by kernel_rfl) (fun _ _ _ h => h) (by rfl) (v := ?_) (fun w hSw => ?_) (by assumption) ?_; rotate_left; (focus ((try dsimp only at hSw); go_simp; first | done | exact rfl)); simp only [List.set]
    refine step_read 10 13 rfl rfl (by kernel_rfl) (by kernel_rfl) (by kernel_rfl) (fun _ _ _ h => h) (by rfl) (v := ?_) (fun w hSw => ?_) (by assumption) ?_; rotate_left; (focus ((try dsimp only at hSw); go_simp; first | done | exact rfl)); simp only [List.set]
    refine step_read 11 14 rfl rfl (by kernel_rfl) (by kernel_rfl) (by kernel_rfl) (fun _ _ _ h => h) (by rfl) (v := ?_) (fun w hSw => ?_) (by assumption) ?_; rotate_left; (focus ((try dsimp only at hSw); go_simp; first | done | exact rfl)); simp only [List.set]
    refine step_read 12 15 rfl rfl (by kernel_rfl) (by kernel_rfl) (by kernel_rfl) (fun _ _ _ h => h) (by rfl) (v := ?_) (fun w hSw => ?_) (by assumption) ?_; rotate_left; (focus ((try dsimp only at hSw); go_simp; first | done | exact rfl)); simp only [List.set]
    refine step_read 13 16 rfl rfl (by kernel_rfl) (by kernel_rfl) (by kernel_rfl) (fun _ _ _ h => h) (by rfl) (v := ?_) (fun w hSw => ?_) (by assumption) ?_; rotate_left; (focus ((try dsimp only at hSw); go_simp; first | done | exact rfl)); simp only [List.set]
    refine step_read 14 17 rfl rfl (by kernel_rfl) (by kernel_rfl) (by kernel_rfl) (fun _ _ _ h => h) (by rfl) (v := ?_) (fun w hSw => ?_) (by assumption) ?_; rotate_left; (focus ((try dsimp only at hSw); go_simp; first | done | exact rfl)); simp only [List.set]
    refine step_read 15 2 rfl rfl (by kernel_rfl) (by kernel_rfl) (by kernel_rfl) (fun _ _ _ h => h) (by rfl) (v := ?_) (fun w hSw => ?_) (by assumption) ?_; rotate_left; (focus ((try dsimp only at hSw); go_simp; first | done | exact rfl)); simp only [List.set]
    refine wpAnyH_done (by kernel_rfl) ?_ _
    go_wp2_with fail
    go_ret
    exact ⟨rfl, B1.out.trans ((rr7_out (by assumption)).2.mono (by omega))⟩

set_option maxRecDepth 100000 in
set_option maxHeartbeats 4000000 in
theorem inc_any (a0 b0 c0 a1 b1 c1 x : Int) (w : World) (k0 : 0 ≤ a0) (k1 : a0 ≤ 1000000000) (k2 : 0 ≤ a1) (k3 : a1 ≤ 1000000000) (k4 : 0 ≤ c0) (k5 : c0 ≤ 4294967295) (k6 : 0 ≤ c1) (k7 : c1 ≤ 4294967295) : Calls Try.prog 56 #[.agg #[.int .i64 a0, .int .i64 b0, .int .i64 c0, .int .i64 a1, .int .i64 b1, .int .i64 c1, .int .i64 x]] w fun e w' => e = .returned (.int .i64 (dlt (a0, b0, c0) (a1, b1, c1))) ∧ Below w.heap.size w w' := by
  cases ha : anewB (a0, b0, c0) (a1, b1, c1) with
  | true =>
    have e : dlt (a0, b0, c0) (a1, b1, c1) = c1 := by unfold dlt; rw [if_pos ha]
    rw [e]
    clear e
    go_enter Try.func56, Try.ntmps56
    go_wp2_with fail
    go_at_call 86
    refine (rst_any a0 b0 c0 a1 b1 c1 x _ k0 k1 k2 k3).mono ?_
    rw [ha]
    rintro e v1 ⟨rfl, hb1⟩
    have sz1 : w.heap.size + 1 ≤ v1.heap.size := by have hh := hb1.size; simp at hh; omega
    have st1 : Below w.heap.size w v1 := Below.trans (by go_grown) (hb1.mono (by simp))
    have c1_0 : v1.cell? ⟨w.heap.size, 0, none⟩ = some (.int .i64 a0) := by rw [(bcell hb1).1 _ _ (by simp)]; first | (rw [new_at (by simp)]; rfl) | simp
    have c1_1 : v1.cell? ⟨w.heap.size, 1, none⟩ = some (.int .i64 b0) := by rw [(bcell hb1).1 _ _ (by simp)]; first | (rw [new_at (by simp)]; rfl) | simp
    have c1_2 : v1.cell? ⟨w.heap.size, 2, none⟩ = some (.int .i64 c0) := by rw [(bcell hb1).1 _ _ (by simp)]; first | (rw [new_at (by simp)]; rfl) | simp
    have c1_3 : v1.cell? ⟨w.heap.size, 3, none⟩ = some (.int .i64 a1) := by rw [(bcell hb1).1 _ _ (by simp)]; first | (rw [new_at (by simp)]; rfl) | simp
    have c1_4 : v1.cell? ⟨w.heap.size, 4, none⟩ = some (.int .i64 b1) := by rw [(bcell hb1).1 _ _ (by simp)]; first | (rw [new_at (by simp)]; rfl) | simp
    have c1_5 : v1.cell? ⟨w.heap.size, 5, none⟩ = some (.int .i64 c1) := by rw [(bcell hb1).1 _ _ (by simp)]; first | (rw [new_at (by simp)]; rfl) | simp
    have c1_6 : v1.cell? ⟨w.heap.size, 6, none⟩ = some (.int .i64 x) := by rw [(bcell hb1).1 _ _ (by simp)]; first | (rw [new_at (by simp)]; rfl) | simp
    have B1 : Hid (Below w.heap.size w v1) := st1
    have d1_0 : w.heap.size < v1.heap.size := by omega
    have e1_0 : w.heap.size ≠ v1.heap.size := by omega
    clear st1 hb1
    go_wp2
    go_ret
    exact ⟨rfl, B1.out⟩
  | false =>
    by_cases h1 : c1 - c0 < 0
    · have e : dlt (a0, b0, c0) (a1, b1, c1) = c1 - c0 + 4294967296 := by unfold dlt; rw [if_neg (by rw [ha]; simp), if_pos h1]
      rw [e]
      have d1 : decide (c1 - c0 < 0) = true := decide_eq_true h1
      clear e
      go_enter Try.func56, Try.ntmps56
      go_wp2_with fail
      go_at_call 86
      refine (rst_any a0 b0 c0 a1 b1 c1 x _ k0 k1 k2 k3).mono ?_
      rw [ha]
      rintro e v1 ⟨rfl, hb1⟩
      have sz1 : w.heap.size + 1 ≤ v1.heap.size := by have hh := hb1.size; simp at hh; omega
      have st1 : Below w.heap.size w v1 := Below.trans (by go_grown) (hb1.mono (by simp))
      have c1_0 : v1.cell? ⟨w.heap.size, 0, none⟩ = some (.int .i64 a0) := by rw [(bcell hb1).1 _ _ (by simp)]; first | (rw [new_at (by simp)]; rfl) | simp
      have c1_1 : v1.cell? ⟨w.heap.size, 1, none⟩ = some (.int .i64 b0) := by rw [(bcell hb1).1 _ _ (by simp)]; first | (rw [new_at (by simp)]; rfl) | simp
      have c1_2 : v1.cell? ⟨w.heap.size, 2, none⟩ = some (.int .i64 c0) := by rw [(bcell hb1).1 _ _ (by simp)]; first | (rw [new_at (by simp)]; rfl) | simp
      have c1_3 : v1.cell? ⟨w.heap.size, 3, none⟩ = some (.int .i64 a1) := by rw [(bcell hb1).1 _ _ (by simp)]; first | (rw [new_at (by simp)]; rfl) | simp
      have c1_4 : v1.cell? ⟨w.heap.size, 4, none⟩ = some (.int .i64 b1) := by rw [(bcell hb1).1 _ _ (by simp)]; first | (rw [new_at (by simp)]; rfl) | simp
      have c1_5 : v1.cell? ⟨w.heap.size, 5, none⟩ = some (.int .i64 c1) := by rw [(bcell hb1).1 _ _ (by simp)]; first | (rw [new_at (by simp)]; rfl) | simp
      have c1_6 : v1.cell? ⟨w.heap.size, 6, none⟩ = some (.int .i64 x) := by rw [(bcell hb1).1 _ _ (by simp)]; first | (rw [new_at (by simp)]; rfl) | simp
      have B1 : Hid (Below w.heap.size w v1) := st1
      have d1_0 : w.heap.size < v1.heap.size := by omega
      have e1_0 : w.heap.size ≠ v1.heap.size := by omega
      clear st1 hb1
      go_wp2
      go_ret
      exact ⟨rfl, B1.out⟩
    · have e : dlt (a0, b0, c0) (a1, b1, c1) = c1 - c0 := by unfold dlt; rw [if_neg (by rw [ha]; simp), if_neg h1]
      rw [e]
      have d1 : decide (c1 - c0 < 0) = false := decide_eq_false h1
      clear e
      go_enter Try.func56, Try.ntmps56
      go_wp2_with fail
      go_at_call 86
      refine (rst_any a0 b0 c0 a1 b1 c1 x _ k0 k1 k2 k3).mono ?_
      rw [ha]
      rintro e v1 ⟨rfl, hb1⟩
      have sz1 : w.heap.size + 1 ≤ v1.heap.size := by have hh := hb1.size; simp at hh; omega
      have st1 : Below w.heap.size w v1 := Below.trans (by go_grown) (hb1.mono (by simp))
      have c1_0 : v1.cell? ⟨w.heap.size, 0, none⟩ = some (.int .i64 a0) := by rw [(bcell hb1).1 _ _ (by simp)]; first | (rw [new_at (by simp)]; rfl) | simp
      have c1_1 : v1.cell? ⟨w.heap.size, 1, none⟩ = some (.int .i64 b0) := by rw [(bcell hb1).1 _ _ (by simp)]; first | (rw [new_at (by simp)]; rfl) | simp
      have c1_2 : v1.cell? ⟨w.heap.size, 2, none⟩ = some (.int .i64 c0) := by rw [(bcell hb1).1 _ _ (by simp)]; first | (rw [new_at (by simp)]; rfl) | simp
      have c1_3 : v1.cell? ⟨w.heap.size, 3, none⟩ = some (.int .i64 a1) := by rw [(bcell hb1).1 _ _ (by simp)]; first | (rw [new_at (by simp)]; rfl) | simp
      have c1_4 : v1.cell? ⟨w.heap.size, 4, none⟩ = some (.int .i64 b1) := by rw [(bcell hb1).1 _ _ (by simp)]; first | (rw [new_at (by simp)]; rfl) | simp
      have c1_5 : v1.cell? ⟨w.heap.size, 5, none⟩ = some (.int .i64 c1) := by rw [(bcell hb1).1 _ _ (by simp)]; first | (rw [new_at (by simp)]; rfl) | simp
      have c1_6 : v1.cell? ⟨w.heap.size, 6, none⟩ = some (.int .i64 x) := by rw [(bcell hb1).1 _ _ (by simp)]; first | (rw [new_at (by simp)]; rfl) | simp
      have B1 : Hid (Below w.heap.size w v1) := st1
      have d1_0 : w.heap.size < v1.heap.size := by omega
      have e1_0 : w.heap.size ≠ v1.heap.size := by omega
      clear st1 hb1
      go_wp2
      go_ret
      exact ⟨rfl, B1.out⟩

set_option maxRecDepth 100000 in
set_option maxHeartbeats 4000000 in
theorem sanew_any (a0 b0 c0 a1 b1 c1 : Int) (w : World) (k0 : 0 ≤ a0) (k1 : a0 ≤ 1000000000) (k2 : 0 ≤ a1) (k3 : a1 ≤ 1000000000) :
    Calls Try.prog 69 #[.agg #[.int .i64 a0, .int .i64 b0, .int .i64 c0], .agg #[.int .i64 a1, .int .i64 b1, .int .i64 c1]] w fun e w' => e = .returned (.bool (anewB (a0, b0, c0) (a1, b1, c1))) ∧ Below w.heap.size w w' := by
  have e : anewB (a0, b0, c0) (a1, b1, c1) = (decide (b1 < a1 - a0) || decide (b1 < b0)) := rfl
  rw [e]
  clear e
  by_cases h1 : b1 < a1 - a0
  · rw [decide_eq_true h1, Bool.true_or]
    have d1 : decide (b1 < a1 - a0) = true := decide_eq_true h1
    go_enter Try.func69, Try.ntmps69
    go_wp2
    go_ret
    exact ⟨rfl, by go_grown⟩
  · rw [decide_eq_false h1, Bool.false_or]
    have d1 : decide (b1 < a1 - a0) = false := decide_eq_false h1
    go_enter Try.func69, Try.ntmps69
    go_wp2
    go_ret
    exact ⟨rfl, by go_grown⟩

end Go.Proofs.Ytadanckhmjgphaa
