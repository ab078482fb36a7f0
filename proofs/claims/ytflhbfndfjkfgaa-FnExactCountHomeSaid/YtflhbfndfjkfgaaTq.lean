/- The size of a slice of tables. -/
import Derived.Test.YtflhbfndfjkfgaaGt
import Derived.Test.YtflhbfndfjkfgaaTm
import Derived.WalkSpells
namespace Go.Proofs.Ytflhbfndfjkfgaa
open Go.RowKit


/-- How much is left. -/
def szt (l : Int) (n : Nat) (D : List (List Rt)) (k : Nat) (z : Int) : Prop := z = l - (n : Int) - (rtot (D.take k) : Int) ∧ 0 ≤ z ∧ z ≤ 1048576

set_option maxHeartbeats 2400000 in
theorem szTableS_fit (v : Value) (D : List (List Rt)) (l : Int) (w : World) (hA : TArg w v D) (h0 : (ttot D : Int) ≤ l) (h1 : l ≤ 1048576) :
    Calls Try.prog 8 #[v, .int .i64 l] w fun e w' => e = .returned (.int .i64 (l - (ttot D : Int))) ∧ Below w.heap.size w w' := by
  obtain ⟨a, c, rfl, hop⟩ := hA.opened
  have hm := hA.1
  unfold ttot at h0 ⊢
  obtain ⟨n, hn⟩ : ∃ n, n = D.length := ⟨_, rfl⟩
  rw [← hn] at hm h0 hop ⊢
  have HN := Lib.hid hn
  have HO := Lib.hid hop
  have q : (n : Int) ≤ l := by omega
  have q0 : ¬ (l - (n : Int) < 0) := by omega
  have q9 : (n : Int) ≤ 9223372036854775807 := by omega
  have q8 : -9223372036854775808 ≤ l := by omega
  have H0 := Lib.hid h0
  clear hA hop hn hm h0
  go_enter Try.func8, Try.ntmps8
  go_wp2
  go_loopw [1, 5] (fun q i wr => ∃ (k : Nat) (z : Int), k ≤ n ∧ i = .int .i64 (k : Int) ∧ q = .int .i64 z ∧ szt l n D k z ∧ Hid (Below w.heap.size w wr)) (fun _ i _ => n - (intOf i).toNat)
  case atStart => exact ⟨0, _, Nat.zero_le _, rfl, rfl, ⟨by simp [rtot], by omega, by omega⟩, Below.refl _ _⟩
  case round =>
    obtain ⟨k, z, hk, rfl, rfl, hz, hB⟩ := hrel
    obtain ⟨hz1, hz2, hz3⟩ := hz
    have HZ := Lib.hid hz1
    clear hz1
    by_cases hlt : k < n
    · obtain ⟨p, hp⟩ : ∃ p, D[k]? = some p := ⟨_, List.getElem?_eq_getElem (by have := HN.out; omega)⟩
      obtain ⟨b, off, rfl, hb, us, hel⟩ := HO.out (by omega)
      obtain ⟨hc, Z, hL, f1⟩ := hel k p hp
      have d0 : wr.cell? ⟨b, off + k, none⟩ = some (us k) := by rw [hB.out.cell (p := ⟨b, off + k, none⟩) hb]; exact hc
      have y1 := hL.2.1
      obtain ⟨u1, c1, hu⟩ := hL.slice
      have e1 := rtot_snoc hp
      have e2 := rtot_at_le hp
      rw [hu] at d0
      obtain ⟨nk, hnk⟩ : ∃ q, q = p.length := ⟨_, rfl⟩
      rw [← hnk] at d0 e1 e2 y1
      have q0 : (0 : Int) ≤ (k : Int) := by omega
      have q1 : (k : Int) < (n : Int) := by omega
      have hsz := hB.out.size
      have hbl : b < wr.heap.size := by omega
      have E1 := Lib.hid e1
      have E2 := Lib.hid e2
      have hmm : (-1 : Int) < 0 := by omega
      clear f1 hel hc hL hu e1 e2 hnk hp Z
      have q5 : ¬ (z - (nk : Int) < 0) := by have h0 := H0.out; have h1 := HZ.out; have h2 := E2.out; omega
      have q6 : szt l n D (k + 1) (z - (nk : Int)) := by have h0 := H0.out; have h1 := HZ.out; have h2 := E2.out; have h3 := E1.out; exact ⟨by omega, by omega, by omega⟩
      have Q6 := Lib.hid q6
      clear q6 E1 E2
      go_wp2_with fail
      go_at_call 29
      refine (szTable_any u1 nk c1 z _ y1 hz2 hz3).mono ?_
      rw [if_neg (show ¬ (z - (nk : Int) < 0) by omega)]
      rintro e w9 ⟨rfl, hb9⟩
      have HB9 : Hid (Below w.heap.size w w9) := hB.out.trans (hb9.mono (by omega))
      clear hb9
      go_wp2
      go_roundw
      case rel => exact ⟨k + 1, _, by omega, by go_num, rfl, Q6.out, HB9⟩
      case measure => simp [intOf]; omega
    · have hge : ¬ ((k : Int) < (n : Int)) := by omega
      go_wp2
      go_ret
      exact ⟨ret_int (by have h1 := HZ.out; have h2 := HN.out; rw [show k = D.length by omega, List.take_length] at h1; push_cast; omega), hB.out⟩

set_option maxHeartbeats 2400000 in
theorem szTableS_big (v : Value) (D : List (List Rt)) (l : Int) (w : World) (hA : TArg w v D) (h2 : 0 ≤ l) (h0 : l < (ttot D : Int)) (h1 : l ≤ 1048576) :
    Calls Try.prog 8 #[v, .int .i64 l] w fun e w' => e = .returned (.int .i64 (-1)) ∧ Below w.heap.size w w' := by
  obtain ⟨a, c, rfl, hop⟩ := hA.opened
  have hm := hA.1
  unfold ttot at h0
  obtain ⟨n, hn⟩ : ∃ n, n = D.length := ⟨_, rfl⟩
  rw [← hn] at hm h0 hop ⊢
  have HN := Lib.hid hn
  have HO := Lib.hid hop
  unfold maxLen at hm
  have q9 : (n : Int) ≤ 9223372036854775807 := by omega
  have H0 := Lib.hid h0
  clear hA hop hn h0
  by_cases q : l - (n : Int) < 0
  · go_enter Try.func8, Try.ntmps8
    go_wp2
    go_ret
    exact ⟨rfl, Below.refl _ _⟩
  go_enter Try.func8, Try.ntmps8
  go_wp2
  go_loopw [1, 5] (fun q i wr => ∃ (k : Nat) (z : Int), k ≤ n ∧ i = .int .i64 (k : Int) ∧ q = .int .i64 z ∧ szt l n D k z ∧ Hid (Below w.heap.size w wr)) (fun _ i _ => n - (intOf i).toNat)
  case atStart => exact ⟨0, _, Nat.zero_le _, rfl, rfl, ⟨by simp [rtot], by omega, by omega⟩, Below.refl _ _⟩
  case round =>
    obtain ⟨k, z, hk, rfl, rfl, hz, hB⟩ := hrel
    obtain ⟨hz1, hz2, hz3⟩ := hz
    have HZ := Lib.hid hz1
    clear hz1
    by_cases hlt : k < n
    · obtain ⟨p, hp⟩ : ∃ p, D[k]? = some p := ⟨_, List.getElem?_eq_getElem (by have := HN.out; omega)⟩
      obtain ⟨b, off, rfl, hb, us, hel⟩ := HO.out (by omega)
      obtain ⟨hc, Z, hL, f1⟩ := hel k p hp
      have d0 : wr.cell? ⟨b, off + k, none⟩ = some (us k) := by rw [hB.out.cell (p := ⟨b, off + k, none⟩) hb]; exact hc
      have y1 := hL.2.1
      obtain ⟨u1, c1, hu⟩ := hL.slice
      have e1 := rtot_snoc hp
      have e2 := rtot_at_le hp
      rw [hu] at d0
      obtain ⟨nk, hnk⟩ : ∃ q, q = p.length := ⟨_, rfl⟩
      rw [← hnk] at d0 e1 e2 y1
      have q0 : (0 : Int) ≤ (k : Int) := by omega
      have q1 : (k : Int) < (n : Int) := by omega
      have hsz := hB.out.size
      have hbl : b < wr.heap.size := by omega
      have E1 := Lib.hid e1
      have E2 := Lib.hid e2
      have hmm : (-1 : Int) < 0 := by omega
      clear f1 hel hc hL hu e1 e2 hnk hp Z
      go_wp2_with fail
      go_at_call 29
      refine (szTable_any u1 nk c1 z _ y1 hz2 hz3).mono ?_
      by_cases q5 : z - (nk : Int) < 0
      · rw [if_pos (show z - (nk : Int) < 0 by omega)]
        rintro e w9 ⟨rfl, hb9⟩
        have HB9 : Hid (Below w.heap.size w w9) := hB.out.trans (hb9.mono (by omega))
        clear hb9
        go_wp2
        go_ret
        exact ⟨rfl, HB9.out⟩
      · have q6 : szt l n D (k + 1) (z - (nk : Int)) := by have h1 := HZ.out; have h2 := E2.out; have h3 := E1.out; exact ⟨by omega, by omega, by omega⟩
        have Q6 := Lib.hid q6
        clear q6 E1 E2
        rw [if_neg (show ¬ (z - (nk : Int) < 0) by omega)]
        rintro e w9 ⟨rfl, hb9⟩
        have HB9 : Hid (Below w.heap.size w w9) := hB.out.trans (hb9.mono (by omega))
        clear hb9
        go_wp2
        go_roundw
        case rel => exact ⟨k + 1, _, by omega, by go_num, rfl, Q6.out, HB9⟩
        case measure => simp [intOf]; omega
    · exfalso
      have h1 := HZ.out
      have h2 := HN.out
      have h3 := H0.out
      rw [show k = D.length by omega, List.take_length] at h1
      push_cast at h3
      omega

end Go.Proofs.Ytflhbfndfjkfgaa
