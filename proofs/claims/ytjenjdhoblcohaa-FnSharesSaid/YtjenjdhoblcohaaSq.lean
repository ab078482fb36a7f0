/- same, of two rows. -/
import Derived.Test.YtjenjdhoblcohaaDr
import Derived.Test.YtjenjdhoblcohaaLm
namespace Go.Proofs.Ytjenjdhoblcohaa
open Go.RowKit

set_option maxHeartbeats 2400000 in
theorem big_any (a : Option Addr) (n cp : Nat) (w : World) : Calls Try.prog 31 #[.slice a n cp] w fun e w' => e = .returned (.bool (decide ((n : Int) > 1048576))) ∧ w = w' := by
  by_cases h : (n : Int) > 1048576
  · go_enter Try.func31, Try.ntmps31
    go_wp2
    go_ret
    exact ⟨by rw [decide_eq_true h]; rfl, rfl⟩
  · go_enter Try.func31, Try.ntmps31
    go_wp2
    go_ret
    exact ⟨by rw [decide_eq_false (show ¬ (n : Int) > 1048576 by omega)]; rfl, rfl⟩

set_option maxRecDepth 100000 in
set_option maxHeartbeats 2400000 in
/-- Two rows of the same numbers are the same. -/
theorem same_any (g g2 m c c2 : Nat) (Z : List Int) (w : World) (hZ : Z.length = m) (hm : m ≤ 1000000) (h1 : ∀ q z, Z[q]? = some z → w.cell? ⟨g, q, none⟩ = some (.int .i64 z)) (h2 : ∀ q z, Z[q]? = some z → w.cell? ⟨g2, q, none⟩ = some (.int .i64 z)) :
    Calls Try.prog 35 #[.slice (some ⟨g, 0, none⟩) m c, .slice (some ⟨g2, 0, none⟩) m c2] w fun e w' => e = .returned (.bool true) ∧ Below w.heap.size w w' := by
  have H1 := Lib.hid h1
  have H2 := Lib.hid h2
  have HZ := Lib.hid hZ
  clear h1 h2 hZ
  go_enter Try.func35, Try.ntmps35
  go_wp2_with fail
  go_loopw [5] (fun i wr => ∃ k : Nat, k ≤ m ∧ i = .int .i64 (k : Int) ∧ Hid (Below w.heap.size w wr)) (fun i _ => m - (intOf i).toNat)
  case atStart => exact ⟨0, Nat.zero_le _, rfl, Lib.hid (Below.refl _ _)⟩
  case round =>
    obtain ⟨k, hk, rfl, hR⟩ := hrel
    by_cases hlt : k < m
    · have q0 : (k : Int) < (m : Int) := by omega
      have q1 : (0 : Int) ≤ (k : Int) := by omega
      obtain ⟨z, hz⟩ : ∃ z, Z[k]? = some z := ⟨Z[k]'(by rw [HZ.out]; exact hlt), List.getElem?_eq_getElem _⟩
      have l1 := (lt_of_cell (H1.out k z hz)).1
      have l2 := (lt_of_cell (H2.out k z hz)).1
      have y1 : wr.cell? ⟨g, k, none⟩ = some (.int .i64 z) := by rw [hR.out.cell (p := ⟨g, k, none⟩) l1]; exact H1.out k z hz
      have y2 : wr.cell? ⟨g2, k, none⟩ = some (.int .i64 z) := by rw [hR.out.cell (p := ⟨g2, k, none⟩) l2]; exact H2.out k z hz
      clear hz l1 l2
      go_wp2_with fail
      go_region
      go_wp2_with fail
      go_roundw
      case rel => exact ⟨k + 1, by omega, by go_num, Lib.hid hR.out.drew⟩
      case measure => simp [intOf]; omega
    · have hge : ¬ ((k : Int) < (m : Int)) := by omega
      go_wp2_with fail
      go_ret
      exact ⟨rfl, hR.out⟩

set_option maxRecDepth 100000 in
set_option maxHeartbeats 2400000 in
theorem same_nil (a a2 : Option Addr) (c c2 : Nat) (w : World) :
    Calls Try.prog 35 #[.slice a 0 c, .slice a2 0 c2] w fun e w' => e = .returned (.bool true) ∧ Below w.heap.size w w' := by
  go_enter Try.func35, Try.ntmps35
  go_wp2_with fail
  go_loopw [5] (fun i wr => i = .int .i64 0 ∧ Hid (Below w.heap.size w wr)) (fun i _ => 0)
  case atStart => exact ⟨rfl, Lib.hid (Below.refl _ _)⟩
  case round =>
    obtain ⟨rfl, hR⟩ := hrel
    have hge : ¬ ((0 : Int) < ((0 : Nat) : Int)) := by omega
    go_wp2_with fail
    go_ret
    exact ⟨rfl, hR.out⟩
theorem same_row {lo hi lo2 hi2 m : Nat} {v v2 : Value} {Z : List Int} {w : World} (hZ : Z.length = m) (hm : m ≤ 1000000) (h1 : Row 1 w lo hi v m Z) (h2 : Row 1 w lo2 hi2 v2 m Z) :
    Calls Try.prog 35 #[v, v2] w fun e w' => e = .returned (.bool true) ∧ Below w.heap.size w w' := by
  obtain ⟨a, c, rfl, _, hc⟩ := h1.opened
  obtain ⟨a2, c2, rfl, _, hc2⟩ := h2.opened
  by_cases h0 : m = 0
  · subst h0
    exact same_nil a a2 c c2 w
  · obtain ⟨g, rfl, _, h3⟩ := hc (by omega)
    obtain ⟨g2, rfl, _, h4⟩ := hc2 (by omega)
    exact same_any g g2 m c c2 Z w hZ hm h3 h4

end Go.Proofs.Ytjenjdhoblcohaa
