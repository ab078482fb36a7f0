/- More helpers of the laws over tables. -/
import Derived.Test.YtgdnfglhlpnooaaGt
import Derived.WalkSpells
import Derived.WalkLawsBesides
import Derived.BigQuiet
import Derived.Deep.QuietTactic
import Derived.Deep.RegionHeld3
import Derived.WalkSmall
import Derived.Handy
namespace Go.Proofs.Ytgdnfglhlpnooaa
open Go.RowKit

theorem heldRouteS_nil (a : Option Addr) (c : Nat) (k : Int) (w : World) :
    Calls Try.prog 61 #[.slice a 0 c, .int .i64 k] w fun e w' => e = .returned (.int .i64 k) ∧ w = w' := by
  go_enter Try.func61, Try.ntmps61
  go_wp2
  go_loop [1, 5] (fun q i => q = .int .i64 k ∧ i = .int .i64 0) (fun _ i => (intOf i).toNat)
  case atStart => exact ⟨rfl, rfl⟩
  case round =>
    obtain ⟨rfl, rfl⟩ := hrel
    go_wp2
    go_ret
    exact ⟨rfl, rfl⟩

theorem heldRouteS_some (g n cap : Nat) (k : Int) (w : World) (hl : n ≤ 1100000) (hk0 : 0 ≤ k) (hk1 : k ≤ 1000000000)
    (h : ∀ q, q < n * 3 → w.cell? ⟨g, q, none⟩ = some (.int .i64 (k + (q : Int)))) :
    Calls Try.prog 61 #[.slice (some ⟨g, 0, none⟩) n cap, .int .i64 k] w fun e w' => e = .returned (.int .i64 (k + ((n * 3 : Nat) : Int))) ∧ w = w' := by
  have H := Lib.hid h
  clear h
  go_enter Try.func61, Try.ntmps61
  go_wp2
  go_loop [1, 5] (fun q i => ∃ j : Nat, j ≤ n ∧ i = .int .i64 (j : Int) ∧ q = .int .i64 (k + 3 * (j : Int))) (fun _ i => n - (intOf i).toNat)
  case atStart => exact ⟨0, Nat.zero_le _, rfl, by simp⟩
  case round =>
    obtain ⟨j, hj, rfl, rfl⟩ := hrel
    by_cases hlt : j < n
    · have c0 : w.cell? ⟨g, j * 3, none⟩ = some (.int .i64 (k + 3 * (j : Int))) := by rw [H.out (j * 3) (by omega)]; simp only [Option.some.injEq, Value.int.injEq, true_and]; push_cast; omega
      have c1 : w.cell? ⟨g, j * 3 + 1, none⟩ = some (.int .i64 (k + 3 * (j : Int) + 1)) := by rw [H.out (j * 3 + 1) (by omega)]; simp only [Option.some.injEq, Value.int.injEq, true_and]; push_cast; omega
      have c2 : w.cell? ⟨g, j * 3 + 2, none⟩ = some (.int .i64 (k + 3 * (j : Int) + 1 + 1)) := by rw [H.out (j * 3 + 2) (by omega)]; simp only [Option.some.injEq, Value.int.injEq, true_and]; push_cast; omega
      have q0 : (0 : Int) ≤ (j : Int) := by omega
      have q1 : (j : Int) < (n : Int) := by omega
      go_wp2
      go_round
      case rel => exact ⟨j + 1, by omega, by go_num, by go_num⟩
      case measure => simp [intOf]; omega
    · have hge : ¬ ((j : Int) < (n : Int)) := by omega
      obtain rfl : j = n := by omega
      go_wp2
      go_ret
      exact ⟨ret_int (by push_cast; omega), rfl⟩

theorem heldRouteS (n lo hi : Nat) (v : Value) (k : Int) (w : World) (hr : Row 3 w lo hi v n (marks k (n * 3))) (hl : n ≤ 1100000) (hk0 : 0 ≤ k) (hk1 : k ≤ 1000000000) :
    Calls Try.prog 61 #[v, .int .i64 k] w fun e w' => e = .returned (.int .i64 (k + ((n * 3 : Nat) : Int))) ∧ w = w' := by
  obtain ⟨h0, hr⟩ := hr
  rcases hr with ⟨hL, a, c, rfl⟩ | ⟨g, cap, rfl, h1, h2, h3, h4, h5⟩
  · subst hL
    exact (heldRouteS_nil a c k w).mono fun _ _ ⟨h1, h2⟩ => ⟨by rw [h1]; simp, h2⟩
  · exact heldRouteS_some g n cap k w h3 hk0 hk1 fun q hq => h4 q _ (marks_at _ _ _ hq)

theorem heldRouteS_K (K : Int) (n lo hi : Nat) (v : Value) (w : World) (hK : K = 1 + ((n * 3 : Nat) : Int)) (hr : Row 3 w lo hi v n (marks 1 (n * 3))) (hl : n ≤ 1100000) :
    Calls Try.prog 61 #[v, .int .i64 1] w fun e w' => e = .returned (.int .i64 K) ∧ w = w' := by
  subst hK
  exact heldRouteS n lo hi v 1 w hr hl (by omega) (by omega)
theorem markTable_any (Z : List Int) (n lo hi : Nat) (v : Value) (k : Int) (w : World) (hr : Row 3 w lo hi v n Z) (hh : hi ≤ w.heap.size) (hl : n ≤ 1100000) (hk0 : 0 ≤ k) (hk1 : k ≤ 1000000000) :
    Calls Try.prog 17 #[.agg #[v], .int .i64 k] w fun e w' => e = .returned (.int .i64 (k + ((n * 3 : Nat) : Int))) ∧ Row 3 w' lo hi v n (marks k (n * 3)) ∧ Turned lo hi w w' := by
  have HR := Lib.hid hr
  obtain ⟨a, c, rfl⟩ := hr.slice
  clear hr
  go_enter Try.func17, Try.ntmps17
  go_wp2_with fail
  go_at_call 60
  refine (markRouteS Z n lo hi _ k _ (HR.out.below (B := w.heap.size) (by go_grown) hh) hl hk0 hk1).mono ?_
  rintro e w3 ⟨rfl, hm, hO⟩
  have HM := Lib.hid (And.intro hm hO)
  clear hm hO
  go_wp2_with fail
  go_ret
  exact ⟨rfl, HM.out.1, HM.out.2.boxed⟩

theorem heldTable_any (n lo hi : Nat) (v : Value) (k : Int) (w : World) (hr : Row 3 w lo hi v n (marks k (n * 3))) (hh : hi ≤ w.heap.size) (hl : n ≤ 1100000) (hk0 : 0 ≤ k) (hk1 : k ≤ 1000000000) :
    Calls Try.prog 18 #[.agg #[v], .int .i64 k] w fun e w' => e = .returned (.int .i64 (k + ((n * 3 : Nat) : Int))) ∧ Below w.heap.size w w' := by
  have HR := Lib.hid hr
  obtain ⟨a, c, rfl⟩ := hr.slice
  clear hr
  have hneg : decide (k + ((n * 3 : Nat) : Int) < 0) = false := decide_eq_false (by omega)
  generalize hq : k + ((n * 3 : Nat) : Int) = q at *
  have Hq := Lib.hid hq
  clear hq
  go_enter Try.func18, Try.ntmps18
  go_wp2_with fail
  go_at_call 61
  refine (heldRouteS n lo hi _ k _ (HR.out.below (B := w.heap.size) (by go_grown) hh) hl hk0 hk1).mono ?_
  rw [Hq.out]
  rintro e w3 ⟨rfl, rfl⟩
  go_wp2_with fail
  go_ret
  exact ⟨rfl, by go_grown⟩

theorem markTable_K (K : Int) (Z : List Int) (n lo hi : Nat) (v : Value) (w : World) (hK : K = 1 + ((n * 3 : Nat) : Int)) (hr : Row 3 w lo hi v n Z) (hh : hi ≤ w.heap.size) (hl : n ≤ 1100000) :
    Calls Try.prog 17 #[.agg #[v], .int .i64 1] w fun e w' => e = .returned (.int .i64 K) ∧ Row 3 w' lo hi v n (marks 1 (n * 3)) ∧ Turned lo hi w w' := by
  subst hK
  exact markTable_any Z n lo hi v 1 w hr hh hl (by omega) (by omega)
theorem heldTable_K (K : Int) (n lo hi : Nat) (v : Value) (w : World) (hK : K = 1 + ((n * 3 : Nat) : Int)) (hr : Row 3 w lo hi v n (marks 1 (n * 3))) (hh : hi ≤ w.heap.size) (hl : n ≤ 1100000) :
    Calls Try.prog 18 #[.agg #[v], .int .i64 1] w fun e w' => e = .returned (.int .i64 K) ∧ Below w.heap.size w w' := by
  subst hK
  exact heldTable_any n lo hi v 1 w hr hh hl (by omega) (by omega)


end Go.Proofs.Ytgdnfglhlpnooaa
