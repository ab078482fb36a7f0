/- The model's l01Read as a contract. -/
import Derived.Test.YtegffibamkaeiaaDoorWt
import Derived.Test.YtegffibamkaeiaaDoorMp
namespace Go.Proofs.YtegffibamkaeiaaDoor
open Go.RowKit

def SomeText (w : World) (e : Ending) (w' : World) : Prop := ∃ t : List UInt8, e = .returned (.string ⟨t.toArray⟩) ∧ Below w.heap.size w w'

set_option maxHeartbeats 1000000 in
theorem num_neg (u : Nat) (h0 : 0 < u) (hb : u ≤ 1000000000) (w : World) :
    Calls Tryd.prog 12 #[.int .i64 (-(u : Int))] w (SomeText w) := by
  have hz : (-(u : Int) == 0) = false := by rw [beq_eq_false_iff_ne]; omega
  have hn : decide (-(u : Int) < 0) = true := decide_eq_true (by omega)
  go_enter Tryd.func12, Tryd.ntmps12
  go_wp2
  go_loopw [0, 3] (fun x o wr => ∃ (m : Nat) (l : List UInt8), m + l.length ≤ u ∧ x = .int .i64 (-(m : Int)) ∧ o = .string ⟨l.toArray⟩ ∧ Below w.heap.size w wr) (fun x _ _ => (intOf x).natAbs)
  case atStart => exact ⟨u, [], by simp, rfl, rfl, Below.refl _ _⟩
  case round =>
    obtain ⟨m, l, hm, rfl, rfl, hB⟩ := hrel
    by_cases hc : 0 < m
    · have hne : (-(m : Int) != 0) = true := by rw [bne_iff_ne]; omega
      have hcv := conv_digit m wr
      have t2 : (-(m : Int)).tdiv 10 = -((m : Int) / 10) := by rw [Int.neg_tdiv, Int.tdiv_eq_ediv_of_nonneg (by omega)]
      have hll : l.length ≤ 1000000000 := by omega
      by_cases hr : 0 < (m : Int) % 10
      · have t1 : (-(m : Int)).tmod 10 = -((m : Int) % 10) := by rw [Int.neg_tmod, Int.tmod_eq_emod_of_nonneg (by omega)]
        have hd : decide (-((m : Int) % 10) < 0) = true := decide_eq_true (by omega)
        go_wp2
        go_roundw
        case rel => exact ⟨m / 10, _ :: l, by simp; omega, by go_num, cat_one _ _, hB.alloc hB.size _⟩
        case measure => simp [intOf]; omega
      · have t1 : (-(m : Int)).tmod 10 = 0 := by rw [Int.neg_tmod, Int.tmod_eq_emod_of_nonneg (by omega)]; omega
        have hcv0 := conv_digit 0 wr
        simp at hcv0
        clear hcv
        go_wp2
        go_roundw
        case rel => exact ⟨m / 10, _ :: l, by simp; omega, by go_num, cat_one _ _, hB.alloc hB.size _⟩
        case measure => simp [intOf]; omega
    · have hm0 : m = 0 := by omega
      subst hm0
      have hll : l.length ≤ 1000000000 := by omega
      go_wp2
      go_ret
      exact ⟨45 :: l, by rw [← cat_one 45 l]; rfl, hB⟩

end Go.Proofs.YtegffibamkaeiaaDoor
