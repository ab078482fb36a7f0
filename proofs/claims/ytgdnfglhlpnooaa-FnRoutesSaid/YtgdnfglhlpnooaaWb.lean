/- PrefixOk of the program and the laws' copies as contracts. -/
import Derived.Test.YtgdnfglhlpnooaaWa
namespace Go.Proofs.Ytgdnfglhlpnooaa
open Go.RowKit

theorem box_keep0 (w : World) (c0 c1 : Value) (T : TypeId) :
    (w.alloc (.cells #[c0, c1] T)).drew.cell? ⟨w.heap.size, 0, none⟩ = some c0 ∧ (w.alloc (.cells #[c0, c1] T)).drew.cell? ⟨w.heap.size, 1, none⟩ = some c1 ∧ w.heap.size < (w.alloc (.cells #[c0, c1] T)).drew.heap.size ∧ Below w.heap.size w (w.alloc (.cells #[c0, c1] T)).drew :=
  ⟨by simp, by simp, by simp, ((Below.refl _ _).alloc (Nat.le_refl _) _).drew⟩
theorem box_keep {w w1 w2 : World} {c0 c1 : Value}
    (h : w1.cell? ⟨w.heap.size, 0, none⟩ = some c0 ∧ w1.cell? ⟨w.heap.size, 1, none⟩ = some c1 ∧ w.heap.size < w1.heap.size ∧ Below w.heap.size w w1)
    (hb : Below w1.heap.size w1 w2) :
    w2.cell? ⟨w.heap.size, 0, none⟩ = some c0 ∧ w2.cell? ⟨w.heap.size, 1, none⟩ = some c1 ∧ w.heap.size < w2.heap.size ∧ Below w.heap.size w w2 := by
  obtain ⟨h0, h1, h2, h3⟩ := h
  obtain ⟨hc, hf⟩ := bcell hb
  have := hb.size
  exact ⟨by rw [hc _ _ h2]; exact h0, by rw [hc _ _ h2]; exact h1, by omega, h3.trans (hb.mono (by omega))⟩

theorem box_below {w w2 : World} {c0 c1 : Value}
    (h : w2.cell? ⟨w.heap.size, 0, none⟩ = some c0 ∧ w2.cell? ⟨w.heap.size, 1, none⟩ = some c1 ∧ w.heap.size < w2.heap.size ∧ Below w.heap.size w w2) : Below w.heap.size w w2 := h.2.2.2

set_option maxHeartbeats 1000000 in
theorem pok_yes (net n : Int) (w : World) (h0 : 0 ≤ n) (h1 : n ≤ 16) (h2 : 0 ≤ net) (h3 : net ≤ 65535) :
    Calls Try.prog 94 #[.agg #[.int .i64 net, .int .i64 n]] w fun e w' => e = .returned (.bool (net % psz n == 0)) ∧ Below w.heap.size w w' := by
  have ha := inB_true h2 h3
  have hp := psz_pos n h0 h1
  have hq := psz_le n h0 h1
  have hz : ¬ (psz n = 0) := by omega
  have ht : net.tmod (psz n) = net % psz n := Int.tmod_eq_emod_of_nonneg h2
  go_enter Try.func94, Try.ntmps94
  go_wp2_with fail
  go_region_held3 (fun w' => w'.cell? ⟨w.heap.size, 0, none⟩ = some (.int .i64 net) ∧ w'.cell? ⟨w.heap.size, 1, none⟩ = some (.int .i64 n) ∧ w.heap.size < w'.heap.size ∧ Below w.heap.size w w') (first | assumption | exact box_keep0 _ _ _ _ | exact box_keep (by assumption) (by assumption))
    (first | (go_at_call 99; refine (iaddr_any _ _).mono ?_; rintro e w2 ⟨rfl, rfl⟩) | (go_at_call 95; refine (size_any _ _ _ h0 h1).mono ?_; rintro e w2 ⟨rfl, hb⟩))
  go_wp2_with fail
  go_ret
  exact ⟨rfl, box_below (by assumption)⟩

set_option maxHeartbeats 4000000 in
theorem pok_no1 (net n : Int) (w : World) (h0 : 0 ≤ n) (h1 : n ≤ 16) (ha : inB net 0 65535 = false) :
    Calls Try.prog 94 #[.agg #[.int .i64 net, .int .i64 n]] w fun e w' => e = .returned (.bool false) ∧ Below w.heap.size w w' := by
  go_enter Try.func94, Try.ntmps94
  go_wp2_with fail
  go_quiet (first | ((go_at_call 99; exact quiet_same (iaddr_any _ _))))
  go_wp2_with fail
  go_ret
  exact ⟨rfl, below_drewN ((Below.refl _ _).alloc (Nat.le_refl _) _) _⟩

set_option maxHeartbeats 4000000 in
theorem pok_no2 (net n : Int) (w : World) (h0 : 0 ≤ n) (hd : decide (n ≤ 16) = false) :
    Calls Try.prog 94 #[.agg #[.int .i64 net, .int .i64 n]] w fun e w' => e = .returned (.bool false) ∧ Below w.heap.size w w' := by
  go_enter Try.func94, Try.ntmps94
  go_wp2_with fail
  go_quiet (fail)
  go_wp2_with fail
  go_ret
  exact ⟨rfl, below_drewN ((Below.refl _ _).alloc (Nat.le_refl _) _) _⟩

set_option maxHeartbeats 4000000 in
theorem pok_no3 (net n : Int) (w : World) (hd : decide (0 ≤ n) = false) :
    Calls Try.prog 94 #[.agg #[.int .i64 net, .int .i64 n]] w fun e w' => e = .returned (.bool false) ∧ Below w.heap.size w w' := by
  go_enter Try.func94, Try.ntmps94
  go_wp2_with fail
  go_quiet (fail)
  go_wp2_with fail
  go_ret
  exact ⟨rfl, below_drewN ((Below.refl _ _).alloc (Nat.le_refl _) _) _⟩

theorem pok_any (net n : Int) (w : World) :
    Calls Try.prog 94 #[.agg #[.int .i64 net, .int .i64 n]] w fun e w' => e = .returned (.bool (pokB net n)) ∧ Below w.heap.size w w' := by
  unfold pokB
  by_cases h1 : 0 ≤ n ∧ n ≤ 16
  · by_cases h2 : 0 ≤ net ∧ net ≤ 65535
    · rw [inB_true h1.1 h1.2, inB_true h2.1 h2.2, Bool.and_self, Bool.true_and]; exact pok_yes net n w h1.1 h1.2 h2.1 h2.2
    · rw [inB_true h1.1 h1.2, inB_false h2, Bool.and_false, Bool.false_and]; exact pok_no1 net n w h1.1 h1.2 (inB_false h2)
  · rw [inB_false h1, Bool.false_and, Bool.false_and]
    by_cases h0 : 0 ≤ n
    · exact pok_no2 net n w h0 (by simp; omega)
    · exact pok_no3 net n w (by simp; omega)

set_option maxHeartbeats 400000 in
theorem toP_any (net n : Int) (w : World) :
    Calls Try.prog 14 #[.agg #[.int .i64 net, .int .i64 n]] w fun e w' => e = .returned (.agg #[.int .i64 net, .int .i64 n]) ∧ Below w.heap.size w w' := by
  go_enter Try.func14, Try.ntmps14
  go_wp2
  go_returns
  exact ⟨rfl, by go_grown⟩

end Go.Proofs.Ytgdnfglhlpnooaa
