/- big and same. -/
import Derived.Test.YtfkpefbahpjinaaDr
namespace Go.Proofs.Ytfkpefbahpjinaa
open Go.RowKit


set_option maxHeartbeats 2400000 in
theorem big_any (a : Option Addr) (n cp : Nat) (w : World) : Calls Try.prog 10 #[.slice a n cp] w fun e w' => e = .returned (.bool (decide ((n : Int) > 1048576))) ∧ w = w' := by
  by_cases h : (n : Int) > 1048576
  · go_enter Try.func10, Try.ntmps10
    go_wp2
    go_ret
    exact ⟨by rw [decide_eq_true h]; rfl, rfl⟩
  · go_enter Try.func10, Try.ntmps10
    go_wp2
    go_ret
    exact ⟨by rw [decide_eq_false (show ¬ (n : Int) > 1048576 by omega)]; rfl, rfl⟩

set_option maxRecDepth 100000 in
set_option maxHeartbeats 2400000 in
/-- Two rows of the same numbers are the same. -/
theorem same_any (g g2 m c c2 : Nat) (Z : List Int) (w : World) (hZ : Z.length = m) (hm : m ≤ 1000000) (h1 : ∀ q z, Z[q]? = some z → w.cell? ⟨g, q, none⟩ = some (.int .i64 z)) (h2 : ∀ q z, Z[q]? = some z → w.cell? ⟨g2, q, none⟩ = some (.int .i64 z)) :
    Calls Try.prog 15 #[.slice (some ⟨g, 0, none⟩) m c, .slice (some ⟨g2, 0, none⟩) m c2] w fun e w' => e = .returned (.bool true) ∧ Below w.heap.size w w' := by
  have H1 := Lib.hid h1
  have H2 := Lib.hid h2
  have HZ := Lib.hid hZ
  clear h1 h2 hZ
  go_enter Try.func15, Try.ntmps15
  go_wp2_with fail
  go_loopw [5] (fun i wr => ∃ k : Nat, k ≤ m ∧ i = .int .i64 (k : Int) ∧ Hid (Below w.heap.size w wr)) (fun i _ => m - (intOf i).toNat)
  case atStart => exact ⟨0, Nat.zero_le _, rfl, Lib.hid (Below.refl _ _)⟩
  case round =>
    obtain ⟨k, hk, rfl, hR⟩ := hrel
    by_cases hlt : k < m
    · have q0 : (k : Int) < (m : Int) := by omega
      have q1 : (0 : Int) ≤ (k : Int) := by omega
      obtain ⟨z, hz⟩ : ∃ z, Z[k]? = some z := ⟨Z[k]'(by rw [HZ.out]; exact hlt), List.getElem?_eq_getElem _⟩
      have l1 := (lt_of_cell (H1.out k z hz)).1
      have l2 := (lt_of_cell (H2.out k z hz)).1
      have y1 : wr.cell? ⟨g, k, none⟩ = some (.int .i64 z) := by rw [hR.out.cell (p := ⟨g, k, none⟩) l1]; exact H1.out k z hz
      have y2 : wr.cell? ⟨g2, k, none⟩ = some (.int .i64 z) := by rw [hR.out.cell (p := ⟨g2, k, none⟩) l2]; exact H2.out k z hz
      clear hz l1 l2
      go_wp2_with fail
      go_region
      go_wp2_with fail
      go_roundw
      case rel => exact ⟨k + 1, by omega, by go_num, Lib.hid hR.out.drew⟩
      case measure => simp [intOf]; omega
    · have hge : ¬ ((k : Int) < (m : Int)) := by omega
      go_wp2_with fail
      go_ret
      exact ⟨rfl, hR.out⟩

end Go.Proofs.Ytfkpefbahpjinaa
