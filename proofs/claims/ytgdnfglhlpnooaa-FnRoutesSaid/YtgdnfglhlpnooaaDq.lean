/- A number below another one, drawn. -/
import Derived.Test.YtgdnfglhlpnooaaDr
namespace Go.Proofs.Ytgdnfglhlpnooaa
open Go.RowKit

set_option maxRecDepth 100000 in
set_option maxHeartbeats 2400000 in
theorem belw_any (C : Nat) (a : Option Addr) (n cp i : Nat) (m : Int) (w : World) (h : Cur w C a n cp i) :
    Calls Try.prog 67 #[.pointer (some ⟨C, 0, none⟩), .int .i64 m] w fun e w' => (∃ x : Int, e = .returned (.int .i64 x) ∧ 0 ≤ x ∧ (0 < m → x < m) ∧ (m ≤ 0 → x = 0)) ∧ CurPost w C a n cp w' := by
  have HC := Lib.hid h
  clear h
  by_cases h0 : m ≤ 0
  · go_enter Try.func67, Try.ntmps67
    go_wp2_with fail
    go_ret
    exact ⟨⟨0, rfl, Int.le_refl _, fun h => by omega, fun _ => rfl⟩, ⟨i, HC.out⟩, Else.refl' _ _⟩
  · by_cases h1 : m ≤ 256
    · have hne : (m == 0) = false := by simp; omega
      go_enter Try.func67, Try.ntmps67
      go_wp2_with fail
      go_at_call 107
      refine (byte_any C a n cp i _ HC.out).mono ?_
      rintro e w1 ⟨⟨x, rfl, hx0, hx1⟩, hC1, hE1⟩
      go_wp2_with fail
      go_ret
      exact ⟨⟨x % m, rfl, Int.emod_nonneg _ (by omega), fun _ => Int.emod_lt_of_pos _ (by omega), fun h => by omega⟩, hC1, hE1⟩
    · have hne : (m == 0) = false := by simp; omega
      go_enter Try.func67, Try.ntmps67
      go_wp2_with fail
      go_at_call 107
      refine (byte_any C a n cp i _ HC.out).mono ?_
      rintro e w1 ⟨⟨x, rfl, hx0, hx1⟩, ⟨i1, hC1⟩, hE1⟩
      go_wp2_with fail
      go_at_call 107
      refine (byte_any C a n cp i1 _ hC1).mono ?_
      rintro e w2 ⟨⟨y, rfl, hy0, hy1⟩, ⟨i2, hC2⟩, hE2⟩
      go_wp2_with fail
      go_at_call 107
      refine (byte_any C a n cp i2 _ hC2).mono ?_
      rintro e w3 ⟨⟨z, rfl, hz0, hz1⟩, hC3, hE3⟩
      go_wp2_with fail
      go_ret
      exact ⟨⟨_, rfl, Int.emod_nonneg _ (by omega), fun _ => Int.emod_lt_of_pos _ (by omega), fun h => by omega⟩, hC3, (hE1.trans hE2).trans hE3⟩

end Go.Proofs.Ytgdnfglhlpnooaa
