/- The column of a key, by both. -/
import Derived.Test.YtophppnllkadoaaS1
namespace Go.Proofs.Ytophppnllkadoaa
open Go.RowKit


set_option maxRecDepth 100000 in
set_option maxHeartbeats 4000000 in
theorem scol_any (r k : Int) (w : World) : Calls Try.prog 28 #[.int .i64 r, .int .i64 k] w fun e w' => e = .returned (.int .i64 (colV r k)) ∧ w = w' := by
  cases hr : inB r 0 3 with
  | false =>
    rw [colV_no (by rw [hr]; rfl)]
    have hr0 : ¬ (0 ≤ r ∧ r ≤ 3) := fun h => by rw [inB_true h.1 h.2] at hr; simp at hr
    clear hr0
    go_enter Try.func28, Try.ntmps28
    go_wp2_with (first | (go_at_call 61; refine (in_any _ _ _ _).mono ?_; rw [hr]; rintro e w2 ⟨rfl, rfl⟩) | (go_at_call 60; refine (key_any _ _).mono ?_; rw [hk]; rintro e w2 ⟨rfl, rfl⟩) | fail)
    go_ret
    exact ⟨rfl, rfl⟩
  | true =>
    cases hk : keyB k with
    | false =>
      rw [colV_no (by rw [hk, Bool.and_false])]
      have h0 := (inB_iff.1 hr).1
      have h1 := (inB_iff.1 hr).2
      have d0 : decide (r < 0) = false := decide_eq_false (by omega)
      have d1 : decide (4 ≤ r) = false := decide_eq_false (by omega)
      go_enter Try.func28, Try.ntmps28
      go_wp2_with (first | (go_at_call 61; refine (in_any _ _ _ _).mono ?_; rw [hr]; rintro e w2 ⟨rfl, rfl⟩) | (go_at_call 60; refine (key_any _ _).mono ?_; rw [hk]; rintro e w2 ⟨rfl, rfl⟩) | fail)
      go_ret
      exact ⟨rfl, rfl⟩
    | true =>
      rw [colV_yes (by rw [hr, hk]; rfl)]
      obtain ⟨h0, h1⟩ := inB_iff.1 hr
      obtain ⟨k0, k1⟩ := keyB_iff.1 hk
      have hc : r = 0 ∨ r = 1 ∨ r = 2 ∨ r = 3 := by omega
      rcases hc with rfl | rfl | rfl | rfl
      · clear h0 h1
        have p0 : IntKind.i64.wrap (k + 1) = k + 1 := IntWalk.i64_in _ (by omega)
        have p1 : IntKind.i64.wrap ((k + 1) * 3) = (k + 1) * 3 := IntWalk.i64_in _ (by omega)
        have p2 : IntKind.i64.wrap ((k + 1) * 3 * 40503) = (k + 1) * 3 * 40503 := IntWalk.i64_in _ (by omega)
        go_enter Try.func28, Try.ntmps28
        go_wp2_with (first | (go_at_call 61; refine (in_any _ _ _ _).mono ?_; rw [hr]; rintro e w2 ⟨rfl, rfl⟩) | (go_at_call 60; refine (key_any _ _).mono ?_; rw [hk]; rintro e w2 ⟨rfl, rfl⟩) | fail)
        go_ret
        exact ⟨ret_int (congrArg (fun x : Int => x % 65521 % 16) (by omega)), rfl⟩
      · clear h0 h1
        have p0 : IntKind.i64.wrap (k + 1) = k + 1 := IntWalk.i64_in _ (by omega)
        have p1 : IntKind.i64.wrap ((k + 1) * 5) = (k + 1) * 5 := IntWalk.i64_in _ (by omega)
        have p2 : IntKind.i64.wrap ((k + 1) * 5 * 40503) = (k + 1) * 5 * 40503 := IntWalk.i64_in _ (by omega)
        go_enter Try.func28, Try.ntmps28
        go_wp2_with (first | (go_at_call 61; refine (in_any _ _ _ _).mono ?_; rw [hr]; rintro e w2 ⟨rfl, rfl⟩) | (go_at_call 60; refine (key_any _ _).mono ?_; rw [hk]; rintro e w2 ⟨rfl, rfl⟩) | fail)
        go_ret
        exact ⟨ret_int (congrArg (fun x : Int => x % 65521 % 16) (by omega)), rfl⟩
      · clear h0 h1
        have p0 : IntKind.i64.wrap (k + 1) = k + 1 := IntWalk.i64_in _ (by omega)
        have p1 : IntKind.i64.wrap ((k + 1) * 7) = (k + 1) * 7 := IntWalk.i64_in _ (by omega)
        have p2 : IntKind.i64.wrap ((k + 1) * 7 * 40503) = (k + 1) * 7 * 40503 := IntWalk.i64_in _ (by omega)
        go_enter Try.func28, Try.ntmps28
        go_wp2_with (first | (go_at_call 61; refine (in_any _ _ _ _).mono ?_; rw [hr]; rintro e w2 ⟨rfl, rfl⟩) | (go_at_call 60; refine (key_any _ _).mono ?_; rw [hk]; rintro e w2 ⟨rfl, rfl⟩) | fail)
        go_ret
        exact ⟨ret_int (congrArg (fun x : Int => x % 65521 % 16) (by omega)), rfl⟩
      · clear h0 h1
        have p0 : IntKind.i64.wrap (k + 1) = k + 1 := IntWalk.i64_in _ (by omega)
        have p1 : IntKind.i64.wrap ((k + 1) * 9) = (k + 1) * 9 := IntWalk.i64_in _ (by omega)
        have p2 : IntKind.i64.wrap ((k + 1) * 9 * 40503) = (k + 1) * 9 * 40503 := IntWalk.i64_in _ (by omega)
        go_enter Try.func28, Try.ntmps28
        go_wp2_with (first | (go_at_call 61; refine (in_any _ _ _ _).mono ?_; rw [hr]; rintro e w2 ⟨rfl, rfl⟩) | (go_at_call 60; refine (key_any _ _).mono ?_; rw [hk]; rintro e w2 ⟨rfl, rfl⟩) | fail)
        go_ret
        exact ⟨ret_int (congrArg (fun x : Int => x % 65521 % 16) (by omega)), rfl⟩

set_option maxRecDepth 100000 in
set_option maxHeartbeats 4000000 in
theorem icol_any (r k : Int) (w : World) : Calls Try.prog 29 #[.int .i64 r, .int .i64 k] w fun e w' => e = .returned (.int .i64 (colV r k)) ∧ w = w' := by
  cases hr : inB r 0 3 with
  | false =>
    rw [colV_no (by rw [hr]; rfl)]
    have hr0 : ¬ (0 ≤ r ∧ r ≤ 3) := fun h => by rw [inB_true h.1 h.2] at hr; simp at hr
    by_cases h0 : r < 0
    · have d0 : decide (r < 0) = true := decide_eq_true h0
      go_enter Try.func29, Try.ntmps29
      go_wp2
      go_ret
      exact ⟨rfl, rfl⟩
    · have d0 : decide (r < 0) = false := decide_eq_false h0
      have h1 : 4 ≤ r := by omega
      have d1 : decide (4 ≤ r) = true := decide_eq_true h1
      go_enter Try.func29, Try.ntmps29
      go_wp2
      go_ret
      exact ⟨rfl, rfl⟩
  | true =>
    cases hk : keyB k with
    | false =>
      rw [colV_no (by rw [hk, Bool.and_false])]
      have h0 := (inB_iff.1 hr).1
      have h1 := (inB_iff.1 hr).2
      have d0 : decide (r < 0) = false := decide_eq_false (by omega)
      have d1 : decide (4 ≤ r) = false := decide_eq_false (by omega)
      go_enter Try.func29, Try.ntmps29
      go_wp2_with (go_at_call 57; refine (keyOk_any _ _).mono ?_; rw [hk]; rintro e w2 ⟨rfl, rfl⟩)
      go_ret
      exact ⟨rfl, rfl⟩
    | true =>
      rw [colV_yes (by rw [hr, hk]; rfl)]
      obtain ⟨h0, h1⟩ := inB_iff.1 hr
      obtain ⟨k0, k1⟩ := keyB_iff.1 hk
      have hc : r = 0 ∨ r = 1 ∨ r = 2 ∨ r = 3 := by omega
      rcases hc with rfl | rfl | rfl | rfl
      · clear h0 h1
        have p0 : IntKind.i64.wrap (k + 1) = k + 1 := IntWalk.i64_in _ (by omega)
        have p1 : IntKind.i64.wrap ((k + 1) * 3) = (k + 1) * 3 := IntWalk.i64_in _ (by omega)
        have p2 : IntKind.i64.wrap ((k + 1) * 3 * 40503) = (k + 1) * 3 * 40503 := IntWalk.i64_in _ (by omega)
        go_enter Try.func29, Try.ntmps29
        go_wp2_with (go_at_call 57; refine (keyOk_any _ _).mono ?_; rw [hk]; rintro e w2 ⟨rfl, rfl⟩)
        go_ret
        exact ⟨ret_int (congrArg (fun x : Int => x % 65521 % 16) (by omega)), rfl⟩
      · clear h0 h1
        have p0 : IntKind.i64.wrap (k + 1) = k + 1 := IntWalk.i64_in _ (by omega)
        have p1 : IntKind.i64.wrap ((k + 1) * 5) = (k + 1) * 5 := IntWalk.i64_in _ (by omega)
        have p2 : IntKind.i64.wrap ((k + 1) * 5 * 40503) = (k + 1) * 5 * 40503 := IntWalk.i64_in _ (by omega)
        go_enter Try.func29, Try.ntmps29
        go_wp2_with (go_at_call 57; refine (keyOk_any _ _).mono ?_; rw [hk]; rintro e w2 ⟨rfl, rfl⟩)
        go_ret
        exact ⟨ret_int (congrArg (fun x : Int => x % 65521 % 16) (by omega)), rfl⟩
      · clear h0 h1
        have p0 : IntKind.i64.wrap (k + 1) = k + 1 := IntWalk.i64_in _ (by omega)
        have p1 : IntKind.i64.wrap ((k + 1) * 7) = (k + 1) * 7 := IntWalk.i64_in _ (by omega)
        have p2 : IntKind.i64.wrap ((k + 1) * 7 * 40503) = (k + 1) * 7 * 40503 := IntWalk.i64_in _ (by omega)
        go_enter Try.func29, Try.ntmps29
        go_wp2_with (go_at_call 57; refine (keyOk_any _ _).mono ?_; rw [hk]; rintro e w2 ⟨rfl, rfl⟩)
        go_ret
        exact ⟨ret_int (congrArg (fun x : Int => x % 65521 % 16) (by omega)), rfl⟩
      · clear h0 h1
        have p0 : IntKind.i64.wrap (k + 1) = k + 1 := IntWalk.i64_in _ (by omega)
        have p1 : IntKind.i64.wrap ((k + 1) * 9) = (k + 1) * 9 := IntWalk.i64_in _ (by omega)
        have p2 : IntKind.i64.wrap ((k + 1) * 9 * 40503) = (k + 1) * 9 * 40503 := IntWalk.i64_in _ (by omega)
        go_enter Try.func29, Try.ntmps29
        go_wp2_with (go_at_call 57; refine (keyOk_any _ _).mono ?_; rw [hk]; rintro e w2 ⟨rfl, rfl⟩)
        go_ret
        exact ⟨ret_int (congrArg (fun x : Int => x % 65521 % 16) (by omega)), rfl⟩

end Go.Proofs.Ytophppnllkadoaa
