/- The model's l01Num as a contract: the decimal numeral of every int. -/
import Derived.Test.YtegffibamkaeiaaDoorWb
import Derived.Lib.ItoaMem
import Derived.Lib.ItoaLen
import Derived.Laws.IdiomStrings
namespace Go.Proofs.YtegffibamkaeiaaDoor
open Go.RowKit

/-- The digits of u, none for 0. -/
def digs (u : Nat) : List UInt8 := if u = 0 then [] else Lib.decDigits u
theorem digs_step (u : Nat) (h : 0 < u) : digs u = digs (u / 10) ++ [UInt8.ofNat (48 + u % 10)] := by
  unfold digs
  rw [if_neg (by omega), Lib.decDigits]
  by_cases h10 : u < 10
  · rw [dif_pos h10, if_pos (by omega), Nat.mod_eq_of_lt h10, List.nil_append]
  · rw [dif_neg h10, if_neg (by omega)]

theorem digs_len (u : Nat) (h : u < 10000000000000000000) : (digs u).length ≤ 20 := by
  unfold digs
  split
  · simp
  · rw [Lib.decDigits_length]; exact Lib.nDigits_le20 u (by omega)
theorem cat_one (c : UInt8) (l : List UInt8) : Value.string ({ data := #[c] } ++ { data := l.toArray }) = Value.string { data := (c :: l).toArray } :=
  congrArg Value.string (ByteArray.ext (by simp))

/-- 'string([]byte{byte(48 + d)})' for a digit d. -/
theorem conv_digit (m : Nat) (w : World) : (convert 47 9 (.slice (some ⟨w.heap.size, 0, none⟩) 1 1)).run Tryd.prog (w.alloc (.cells #[.int .u8 (48 + (m : Int) % 10)] 5)) = .ok (.string ⟨[UInt8.ofNat (48 + m % 10)].toArray⟩) (w.alloc (.cells #[.int .u8 (48 + (m : Int) % 10)] 5)) := by
  have hb : ((UInt8.ofNat (48 + m % 10)).toNat : Int) = 48 + (m : Int) % 10 := by
    rw [UInt8.toNat_ofNat_of_lt' (by have : UInt8.size = 256 := rfl; omega)]; omega
  exact run_convert_bytes_back (w.alloc (.cells #[.int .u8 (48 + (m : Int) % 10)] 5)) 47 9 5 ⟨w.heap.size, 0, none⟩ 1 [UInt8.ofNat (48 + m % 10)] Tryd.underlying47 Tryd.underlying5 Tryd.underlying9 (fun j hj => by
    have hj0 : j = 0 := by simpa using hj
    subst hj0
    simp only [List.getElem_cons_zero, hb]
    simp [go_sem])

set_option maxHeartbeats 1000000 in
theorem num_pos (u : Nat) (h0 : 0 < u) (hb : (u : Int) ≤ 9223372036854775807) (w : World) :
    Calls Tryd.prog 12 #[.int .i64 (u : Int)] w fun e w' => e = .returned (.string ⟨(Lib.decDigits u).toArray⟩) ∧ Below w.heap.size w w' := by
  have hd : Lib.decDigits u = digs u := by unfold digs; rw [if_neg (by omega)]
  rw [hd]; clear hd
  have hz : ((u : Int) == 0) = false := by rw [beq_eq_false_iff_ne]; omega
  have hn : decide ((u : Int) < 0) = false := decide_eq_false (by omega)
  go_enter Tryd.func12, Tryd.ntmps12
  go_wp2
  go_loopw [0, 3] (fun x o wr => ∃ (m : Nat) (l : List UInt8), m ≤ u ∧ x = .int .i64 (m : Int) ∧ o = .string ⟨l.toArray⟩ ∧ digs m ++ l = digs u ∧ Below w.heap.size w wr) (fun x _ _ => (intOf x).toNat)
  case atStart => exact ⟨u, [], Nat.le_refl _, rfl, rfl, by rw [List.append_nil], Below.refl _ _⟩
  case round =>
    obtain ⟨m, l, hm, rfl, rfl, hdig, hB⟩ := hrel
    have hl : l.length ≤ 20 := by
      have h1 := congrArg List.length hdig
      rw [List.length_append] at h1
      have h2 := digs_len u (by omega)
      omega
    have Hd := Lib.hid hdig
    clear hdig
    by_cases hc : 0 < m
    · have hne : ((m : Int) != 0) = true := by rw [bne_iff_ne]; omega
      have hcv := conv_digit m wr
      have hrm : ¬ ((m : Int) % 10 < 0) := by omega
      go_wp2
      go_roundw
      case rel => exact ⟨m / 10, UInt8.ofNat (48 + m % 10) :: l, by omega, by go_num, (cat_one _ _).trans (by rw [UInt8.ofNat_add]; rfl), by rw [← Hd.out, digs_step m hc, List.append_assoc]; rfl, hB.alloc hB.size _⟩
      case measure => simp [intOf]; omega
    · have hm0 : m = 0 := by omega
      subst hm0
      have hfin : l = digs u := by rw [← Hd.out]; rfl
      have Hf := Lib.hid hfin
      clear hfin
      go_wp2
      go_ret
      exact ⟨by rw [← Hf.out]; rfl, hB⟩

end Go.Proofs.YtegffibamkaeiaaDoor
