/- The model's l01Read as a contract. -/
import Derived.Test.YtegffibamkaeiaaDoorPr
namespace Go.Proofs.YtegffibamkaeiaaDoor
open Go.RowKit

def ReadPost (w : World) (l : List UInt8) (e : Ending) (w' : World) : Prop :=
  ∃ (x : Int) (ok : Bool), e = .returned (.tuple #[.int .i64 x, .bool ok]) ∧ (ok = true → 0 ≤ x → l = Lib.decDigits x.toNat) ∧ (∀ u : Nat, u < 1000000000 → l = Lib.decDigits u → ok = true ∧ x = (u : Int)) ∧ Below w.heap.size w w'

/-- The first i bytes are digits and spell m. -/
def DecTo (l : List UInt8) (i m : Nat) : Prop := Lib.decFrom 0 (l.take i) = some m ∧ m < 10 ^ i
theorem DecTo.lt {l : List UInt8} {i m : Nat} (h : DecTo l i m) (hi : i ≤ 9) : m < 1000000000 :=
  Nat.lt_of_lt_of_le h.2 (Nat.pow_le_pow_right (n := 10) (by decide) hi)
theorem DecTo.step {l : List UInt8} {i m : Nat} (h : DecTo l i m) (hi : i < l.length) (h1 : 48 ≤ (l[i]).toNat) (h2 : (l[i]).toNat ≤ 57) : DecTo l (i + 1) (m * 10 + ((l[i]).toNat - 48)) := by
  refine ⟨Lib.decFrom_take l i 0 m (l[i]) _ h.1 (List.getElem?_eq_getElem hi) (by unfold Lib.digitVal; rw [if_pos ⟨h1, h2⟩]), ?_⟩
  have := h.2
  rw [Nat.pow_succ]
  omega
theorem not_dd {l : List UInt8} {i : Nat} (hi : i < l.length) (h : ¬ (48 ≤ (l[i]).toNat ∧ (l[i]).toNat ≤ 57)) : ∀ u, l ≠ Lib.decDigits u := fun u e =>
  h (dd_digit u _ (e ▸ List.getElem_mem hi))

set_option maxHeartbeats 2000000 in
theorem read_pos (l : List UInt8) (w : World) (h0 : 0 < l.length) (h9 : l.length ≤ 9) (hc : l[0] ≠ 45) :
    Calls Tryd.prog 16 #[.string ⟨l.toArray⟩] w (ReadPost w l) := by
  have p0 : (0 : Int) < (l.length : Int) := by omega
  have hi0 : 0 < (⟨l.toArray⟩ : ByteArray).size := h0
  have e0 : (⟨l.toArray⟩ : ByteArray)[0] = l[0] := List.getElem_toArray _
  have hn : ((l[0]).toNat : Int) ≠ 45 := fun h => hc (UInt8.toNat_inj.1 (by have : (45 : UInt8).toNat = 45 := rfl; omega))
  have t0 : ((((⟨l.toArray⟩ : ByteArray)[0]).toNat : Int) == 45) = false := by rw [e0, beq_eq_false_iff_ne]; exact hn
  have hin := inB_true (x := (l.length : Int)) (lo := 1) (hi := 9) (by omega) (by omega)
  clear e0 hn hc
  go_enter Tryd.func16, Tryd.ntmps16
  go_wp2_with (go_at_call 17; refine (in_any _ _ _ _).mono ?_; rintro e w' ⟨rfl, rfl⟩)
  go_loop [5, 6] (fun x j => ∃ (i m : Nat), i ≤ l.length ∧ x = .int .i64 (m : Int) ∧ j = .int .i64 (i : Int) ∧ DecTo l i m) (fun _ j => l.length - (intOf j).toNat)
  case atStart => exact ⟨0, 0, Nat.zero_le _, rfl, rfl, by simp [DecTo, Lib.decFrom]⟩
  case round =>
    obtain ⟨i, m, hi, rfl, rfl, hD⟩ := hrel
    have hm : m < 1000000000 := hD.lt (by omega)
    by_cases hlt : i < l.length
    · have q0 : (0 : Int) ≤ (i : Int) := by omega
      have q1 : (i : Int) < (l.length : Int) := by omega
      have hi2 : i < (⟨l.toArray⟩ : ByteArray).size := hlt
      have e : (⟨l.toArray⟩ : ByteArray)[i] = l[i] := List.getElem_toArray _
      have hu := (l[i]).toNat_lt
      by_cases c1 : ((l[i]).toNat : Int) < 48
      · have t1 : decide (((((⟨l.toArray⟩ : ByteArray)[i]).toNat : Int)) < 48) = true := by rw [e]; exact decide_eq_true c1
        have HN := Lib.hid (not_dd hlt (fun h => by omega) : ∀ u, l ≠ Lib.decDigits u)
        clear e c1 hD
        go_wp2
        go_ret2
        exact ⟨0, false, rfl, fun h => (by cases h), fun u _ h => absurd h (HN.out u), Below.refl _ _⟩
      · have t1 : decide (((((⟨l.toArray⟩ : ByteArray)[i]).toNat : Int)) < 48) = false := by rw [e]; exact decide_eq_false c1
        by_cases c2 : (57 : Int) < ((l[i]).toNat : Int)
        · have t2 : decide ((57 : Int) < (((⟨l.toArray⟩ : ByteArray)[i]).toNat : Int)) = true := by rw [e]; exact decide_eq_true c2
          have HN := Lib.hid (not_dd hlt (fun h => by omega) : ∀ u, l ≠ Lib.decDigits u)
          clear e c1 c2 hD
          go_wp2
          go_ret2
          exact ⟨0, false, rfl, fun h => (by cases h), fun u _ h => absurd h (HN.out u), Below.refl _ _⟩
        · have t2 : decide ((57 : Int) < (((⟨l.toArray⟩ : ByteArray)[i]).toNat : Int)) = false := by rw [e]; exact decide_eq_false c2
          have HD := Lib.hid (hD.step hlt (by omega) (by omega))
          have hcl : ((((⟨l.toArray⟩ : ByteArray)[i]).toNat : Int)) = ((l[i]).toNat : Int) := by rw [e]
          have hca : 48 ≤ (((⟨l.toArray⟩ : ByteArray)[i]).toNat : Int) := by omega
          have hcb : (((⟨l.toArray⟩ : ByteArray)[i]).toNat : Int) ≤ 57 := by omega
          have HCL := Lib.hid hcl
          clear e c1 c2 hD hcl
          go_wp2
          go_round
          case rel => exact ⟨i + 1, _, by omega, congrArg (Value.int .i64) (by have := HCL.out; omega), by go_num, HD.out⟩
          case measure => simp [intOf]; omega
    · obtain rfl : i = l.length := by omega
      have hdec : Lib.decFrom 0 l = some m := by have := hD.1; rwa [List.take_length] at this
      have HD := Lib.hid hdec
      clear hD hdec
      have hm0 : (0 : Int) ≤ (m : Int) := by omega
      have hm1 : (m : Int) ≤ 9223372036854775807 := by omega
      go_wp2_with (go_at_call 12; refine (num_int _ hm0 hm1 _).mono ?_; rintro e w' ⟨rfl, hb⟩)
      go_ret2
      refine ⟨(m : Int), _, rfl, fun h _ => ?_, fun u hu h => ?_, hb⟩
      · rw [Int.toNat_natCast]; exact (beq_iff_eq.1 h).symm
      · have h2 := HD.out
        rw [h, decFrom_dd] at h2
        obtain rfl : u = m := by simpa using h2
        exact ⟨by rw [h, beq_iff_eq], rfl⟩

theorem drop_one (c : UInt8) (r : List UInt8) : (⟨(c :: r).toArray⟩ : ByteArray).extract 1 (r.length + 1) = ⟨r.toArray⟩ := by
  apply ByteArray.ext
  rw [ByteArray.data_extract]
  simp [List.extract_eq_take_drop]
theorem neg_dd (r : List UInt8) (u : Nat) : (45 :: r) ≠ Lib.decDigits u := fun h => by
  have := dd_digit u 45 (h ▸ List.mem_cons_self)
  exact absurd this.1 (by decide)

set_option maxHeartbeats 2000000 in
theorem read_neg (r : List UInt8) (w : World) (h0 : 0 < r.length) (h9 : r.length ≤ 9) :
    Calls Tryd.prog 16 #[.string ⟨(45 :: r).toArray⟩] w (ReadPost w (45 :: r)) := by
  have hin := inB_true (x := (r.length : Int)) (lo := 1) (hi := 9) (by omega) (by omega)
  have he := drop_one 45 r
  go_enter Tryd.func16, Tryd.ntmps16
  go_wp2_with (go_at_call 17; refine (in_any _ _ _ _).mono ?_; rintro e w' ⟨rfl, rfl⟩)
  go_loop [5, 6] (fun x j => ∃ (i m : Nat), i ≤ r.length ∧ x = .int .i64 (m : Int) ∧ j = .int .i64 (i : Int) ∧ DecTo r i m) (fun _ j => r.length - (intOf j).toNat)
  case atStart => exact ⟨0, 0, Nat.zero_le _, rfl, rfl, by simp [DecTo, Lib.decFrom]⟩
  case round =>
    obtain ⟨i, m, hi, rfl, rfl, hD⟩ := hrel
    have hm : m < 1000000000 := hD.lt (by omega)
    by_cases hlt : i < r.length
    · have q0 : (0 : Int) ≤ (i : Int) := by omega
      have q1 : (i : Int) < (r.length : Int) := by omega
      have hi2 : i < (⟨r.toArray⟩ : ByteArray).size := hlt
      have e : (⟨r.toArray⟩ : ByteArray)[i] = r[i] := List.getElem_toArray _
      have hu := (r[i]).toNat_lt
      by_cases c1 : ((r[i]).toNat : Int) < 48
      · have t1 : decide (((((⟨r.toArray⟩ : ByteArray)[i]).toNat : Int)) < 48) = true := by rw [e]; exact decide_eq_true c1
        clear e c1 hD
        go_wp2
        go_ret2
        exact ⟨0, false, rfl, fun h => (by cases h), fun u _ h => absurd h (neg_dd r u), Below.refl _ _⟩
      · have t1 : decide (((((⟨r.toArray⟩ : ByteArray)[i]).toNat : Int)) < 48) = false := by rw [e]; exact decide_eq_false c1
        by_cases c2 : (57 : Int) < ((r[i]).toNat : Int)
        · have t2 : decide ((57 : Int) < (((⟨r.toArray⟩ : ByteArray)[i]).toNat : Int)) = true := by rw [e]; exact decide_eq_true c2
          clear e c1 c2 hD
          go_wp2
          go_ret2
          exact ⟨0, false, rfl, fun h => (by cases h), fun u _ h => absurd h (neg_dd r u), Below.refl _ _⟩
        · have t2 : decide ((57 : Int) < (((⟨r.toArray⟩ : ByteArray)[i]).toNat : Int)) = false := by rw [e]; exact decide_eq_false c2
          have HD := Lib.hid (hD.step hlt (by omega) (by omega))
          have hcl : ((((⟨r.toArray⟩ : ByteArray)[i]).toNat : Int)) = ((r[i]).toNat : Int) := by rw [e]
          have hca : 48 ≤ (((⟨r.toArray⟩ : ByteArray)[i]).toNat : Int) := by omega
          have hcb : (((⟨r.toArray⟩ : ByteArray)[i]).toNat : Int) ≤ 57 := by omega
          have HCL := Lib.hid hcl
          clear e c1 c2 hD hcl
          go_wp2
          go_round
          case rel => exact ⟨i + 1, _, by omega, congrArg (Value.int .i64) (by have := HCL.out; omega), by go_num, HD.out⟩
          case measure => simp [intOf]; omega
    · obtain rfl : i = r.length := by omega
      clear hD
      have t5 : decide ((r.length : Int) < (r.length : Int) + 1) = true := decide_eq_true (by omega)
      by_cases hm0 : 0 < m
      · have hm1 : m ≤ 1000000000 := by omega
        go_wp2_with (go_at_call 12; refine (num_neg m hm0 hm1 _).mono ?_; rintro e w' ⟨t, rfl, hb⟩)
        go_ret2
        exact ⟨-(m : Int), _, rfl, fun _ h => by omega, fun u _ h => absurd h (neg_dd r u), hb⟩
      · obtain rfl : m = 0 := by omega
        go_wp2_with (go_at_call 12; refine (num_zero _).mono ?_; rintro e w' ⟨rfl, hb⟩)
        go_ret2
        refine ⟨_, _, rfl, fun h _ => (by cases h), fun u _ h => absurd h (neg_dd r u), hb⟩

theorem nDigits_le : ∀ (k u : Nat), u < 10 ^ (k + 1) → Lib.nDigits u ≤ k + 1
  | 0, u, h => by rw [Lib.nDigits_small (by simpa using h)]; omega
  | k + 1, u, h => by
    by_cases hu : u < 10
    · rw [Lib.nDigits_small hu]; omega
    · rw [Lib.nDigits_big hu]
      have := nDigits_le k (u / 10) (by rw [Nat.pow_succ] at h; omega)
      omega
theorem dd_len9 (u : Nat) (h : u < 1000000000) : (Lib.decDigits u).length ≤ 9 := by
  rw [Lib.decDigits_length]; exact nDigits_le 8 u h

set_option maxHeartbeats 1000000 in
theorem read_empty (w : World) : Calls Tryd.prog 16 #[.string ⟨([] : List UInt8).toArray⟩] w (ReadPost w []) := by
  go_enter Tryd.func16, Tryd.ntmps16
  go_wp2
  go_ret2
  exact ⟨0, false, rfl, fun h => (by cases h), fun u _ h => absurd h.symm (dd_ne u), Below.refl _ _⟩

set_option maxHeartbeats 1000000 in
theorem read_negbad (r : List UInt8) (w : World) (h9 : r.length = 0 ∨ 9 < r.length) (hb : r.length ≤ 1000) :
    Calls Tryd.prog 16 #[.string ⟨(45 :: r).toArray⟩] w (ReadPost w (45 :: r)) := by
  have hin := inB_false (x := (r.length : Int)) (lo := 1) (hi := 9) (by omega)
  have he := drop_one 45 r
  clear h9
  go_enter Tryd.func16, Tryd.ntmps16
  go_wp2_with (go_at_call 17; refine (in_any _ _ _ _).mono ?_; rintro e w' ⟨rfl, rfl⟩)
  go_ret2
  exact ⟨0, false, rfl, fun h => (by cases h), fun u _ h => absurd h (neg_dd r u), Below.refl _ _⟩

set_option maxHeartbeats 1000000 in
theorem read_posbad (l : List UInt8) (w : World) (h9 : 9 < l.length) (hb : l.length ≤ 1000) (hc : l[0] ≠ 45) :
    Calls Tryd.prog 16 #[.string ⟨l.toArray⟩] w (ReadPost w l) := by
  have p0 : (0 : Int) < (l.length : Int) := by omega
  have hi0 : 0 < (⟨l.toArray⟩ : ByteArray).size := by have : (⟨l.toArray⟩ : ByteArray).size = l.length := rfl; omega
  have e0 : (⟨l.toArray⟩ : ByteArray)[0] = l[0] := List.getElem_toArray _
  have hn : ((l[0]).toNat : Int) ≠ 45 := fun h => hc (UInt8.toNat_inj.1 (by have : (45 : UInt8).toNat = 45 := rfl; omega))
  have t0 : ((((⟨l.toArray⟩ : ByteArray)[0]).toNat : Int) == 45) = false := by rw [e0, beq_eq_false_iff_ne]; exact hn
  have hin := inB_false (x := (l.length : Int)) (lo := 1) (hi := 9) (by omega)
  clear e0 hn hc
  go_enter Tryd.func16, Tryd.ntmps16
  go_wp2_with (go_at_call 17; refine (in_any _ _ _ _).mono ?_; rintro e w' ⟨rfl, rfl⟩)
  go_ret2
  exact ⟨0, false, rfl, fun h => (by cases h), fun u hu h => absurd (h ▸ h9) (by have := dd_len9 u hu; omega), Below.refl _ _⟩

theorem read_any (l : List UInt8) (w : World) (hb : l.length ≤ 1000) : Calls Tryd.prog 16 #[.string ⟨l.toArray⟩] w (ReadPost w l) := by
  cases l with
  | nil => exact read_empty w
  | cons c r =>
    have hb2 : r.length ≤ 1000 := by simp at hb; omega
    by_cases hc : c = 45
    · subst hc
      by_cases h : 0 < r.length ∧ r.length ≤ 9
      · exact read_neg r w h.1 h.2
      · exact read_negbad r w (by omega) hb2
    · by_cases h : (c :: r).length ≤ 9
      · exact read_pos (c :: r) w (by simp) h hc
      · exact read_posbad (c :: r) w (by omega) hb hc

end Go.Proofs.YtegffibamkaeiaaDoor
