/- The size and the copy of a slice of advertisements. -/
import Derived.Test.YtfpafjdakipccaaGw
import Derived.Test.YtfpafjdakipccaaGd
namespace Go.Proofs.Ytfpafjdakipccaa
open Go.RowKit
def szl (l : Int) (n : Nat) (D : List Ls) (k : Nat) (z : Int) : Prop := z = l - (n : Int) - (ltot (D.take k) : Int) /\ 0 <= z /\ z <= 1048576
set_option maxHeartbeats 2400000 in
theorem szLsaS_fit (v : Value) (D : List Ls) (l : Int) (w : World) (hA : DArg w v D) (h0 : (dtot D : Int) <= l) (h1 : l <= 1048576) :
    Calls Try.prog 54 #[v, .int .i64 l] w fun e w' => e = .returned (.int .i64 (l - (dtot D : Int))) /\ Below w.heap.size w w' := by
  obtain ⟨a, c, rfl, hop⟩ := hA.opened
  have hm := hA.1
  rw [dtot_eq] at h0 ⊢
  obtain ⟨n, hn⟩ : ∃ n, n = D.length := ⟨_, rfl⟩
  rw [<- hn] at hm h0 hop ⊢
  have HN := Lib.hid hn
  have HO := Lib.hid hop
  have q : (n : Int) <= l := by omega
  have q0 : ¬ (l - (n : Int) < 0) := by omega
  have q9 : (n : Int) <= 9223372036854775807 := by omega
  have q8 : -9223372036854775808 <= l := by omega
  have H0 := Lib.hid h0
  clear hA hop hn hm h0
  go_enter Try.func54, Try.ntmps54
  go_wp2
  go_loopw [1, 5] (fun q i wr => ∃ (k : Nat) (z : Int), k <= n /\ i = .int .i64 (k : Int) /\ q = .int .i64 z /\ szl l n D k z /\ Hid (Below w.heap.size w wr)) (fun _ i _ => n - (intOf i).toNat)
  case atStart => exact ⟨0, _, Nat.zero_le _, rfl, rfl, ⟨by simp [ltot], by omega, by omega⟩, Below.refl _ _⟩
  case round =>
    obtain ⟨k, z, hk, rfl, rfl, hz, hB⟩ := hrel
    obtain ⟨hz1, hz2, hz3⟩ := hz
    have HZ := Lib.hid hz1
    clear hz1
    by_cases hlt : k < n
    · obtain ⟨p, hp⟩ : ∃ p, D[k]? = some p := ⟨_, List.getElem?_eq_getElem (by have := HN.out; omega)⟩
      obtain ⟨b, off, rfl, hb, us, xs, hel⟩ := HO.out (by omega)
      obtain ⟨hc, Y, Z, hL, f1, f2⟩ := hel k p hp
      have hc' := LC.below hc hB.out hb
      have y1 := hL.1.2.1
      have y2 := hL.2.2.1
      obtain ⟨u1, c1, hu⟩ := hL.1.slice
      obtain ⟨u2, c2, hx⟩ := hL.2.slice
      have e1 := ltot_snoc hp
      have e2 := ltot_at_le hp
      unfold Ls.tot at e1 e2
      rw [hu, hx] at hc'
      obtain ⟨nk, hnk⟩ : ∃ q, q = p.K.length := ⟨_, rfl⟩
      obtain ⟨mk, hmk⟩ : ∃ q, q = p.T.length := ⟨_, rfl⟩
      rw [<- hnk, <- hmk] at hc' e1 e2
      rw [<- hnk] at y1
      rw [<- hmk] at y2
      obtain ⟨d0, d1, d2, d3, d4⟩ := hc'
      have q0 : (0 : Int) <= (k : Int) := by omega
      have q1 : (k : Int) < (n : Int) := by omega
      have hsz := hB.out.size
      have hbl : b < wr.heap.size := by omega
      have E1 := Lib.hid e1
      have E2 := Lib.hid e2
      have hmm : (-1 : Int) < 0 := by omega
      clear f1 f2 hel hc hL hu hx e1 e2 hnk hmk hp Y Z
      have q5 : ¬ (z - (nk : Int) - (mk : Int) < 0) := by have h0 := H0.out; have h1 := HZ.out; have h2 := E2.out; omega
      have q6 : szl l n D (k + 1) (z - (nk : Int) - (mk : Int)) := by have h0 := H0.out; have h1 := HZ.out; have h2 := E2.out; have h3 := E1.out; exact ⟨by omega, by omega, by omega⟩
      have Q6 := Lib.hid q6
      clear q6 E1 E2
      go_wp2_with fail
      go_at_call 28
      refine (szLsa_any p.o p.s p.g u1 u2 nk c1 mk c2 z _ y1 y2 hz2 hz3).mono ?_
      rw [if_neg (show ¬ (z - (nk : Int) - (mk : Int) < 0) by omega)]
      rintro e w9 ⟨rfl, hb9⟩
      have HB9 : Hid (Below w.heap.size w w9) := hB.out.trans (hb9.mono (by omega))
      clear hb9
      go_wp2
      go_roundw
      case rel => exact ⟨k + 1, _, by omega, by go_num, rfl, Q6.out, HB9⟩
      case measure => simp [intOf]; omega
    · have hge : ¬ ((k : Int) < (n : Int)) := by omega
      go_wp2
      go_ret
      exact ⟨ret_int (by have h1 := HZ.out; have h2 := HN.out; rw [show k = D.length by omega, List.take_length] at h1; omega), hB.out⟩
set_option maxHeartbeats 2400000 in
theorem szLsaS_big (v : Value) (D : List Ls) (l : Int) (w : World) (hA : DArg w v D) (h2 : 0 <= l) (h0 : l < (dtot D : Int)) (h1 : l <= 1048576) :
    Calls Try.prog 54 #[v, .int .i64 l] w fun e w' => e = .returned (.int .i64 (-1)) /\ Below w.heap.size w w' := by
  obtain ⟨a, c, rfl, hop⟩ := hA.opened
  have hm := hA.1
  rw [dtot_eq] at h0
  obtain ⟨n, hn⟩ : ∃ n, n = D.length := ⟨_, rfl⟩
  rw [<- hn] at hm h0 hop ⊢
  have HN := Lib.hid hn
  have HO := Lib.hid hop
  unfold maxLen at hm
  have q9 : (n : Int) <= 9223372036854775807 := by omega
  have H0 := Lib.hid h0
  clear hA hop hn h0
  by_cases q : l - (n : Int) < 0
  · go_enter Try.func54, Try.ntmps54
    go_wp2
    go_ret
    exact ⟨rfl, Below.refl _ _⟩
  go_enter Try.func54, Try.ntmps54
  go_wp2
  go_loopw [1, 5] (fun q i wr => ∃ (k : Nat) (z : Int), k <= n /\ i = .int .i64 (k : Int) /\ q = .int .i64 z /\ szl l n D k z /\ Hid (Below w.heap.size w wr)) (fun _ i _ => n - (intOf i).toNat)
  case atStart => exact ⟨0, _, Nat.zero_le _, rfl, rfl, ⟨by simp [ltot], by omega, by omega⟩, Below.refl _ _⟩
  case round =>
    obtain ⟨k, z, hk, rfl, rfl, hz, hB⟩ := hrel
    obtain ⟨hz1, hz2, hz3⟩ := hz
    have HZ := Lib.hid hz1
    clear hz1
    by_cases hlt : k < n
    · obtain ⟨p, hp⟩ : ∃ p, D[k]? = some p := ⟨_, List.getElem?_eq_getElem (by have := HN.out; omega)⟩
      obtain ⟨b, off, rfl, hb, us, xs, hel⟩ := HO.out (by omega)
      obtain ⟨hc, Y, Z, hL, f1, f2⟩ := hel k p hp
      have hc' := LC.below hc hB.out hb
      have y1 := hL.1.2.1
      have y2 := hL.2.2.1
      obtain ⟨u1, c1, hu⟩ := hL.1.slice
      obtain ⟨u2, c2, hx⟩ := hL.2.slice
      have e1 := ltot_snoc hp
      have e2 := ltot_at_le hp
      unfold Ls.tot at e1 e2
      rw [hu, hx] at hc'
      obtain ⟨nk, hnk⟩ : ∃ q, q = p.K.length := ⟨_, rfl⟩
      obtain ⟨mk, hmk⟩ : ∃ q, q = p.T.length := ⟨_, rfl⟩
      rw [<- hnk, <- hmk] at hc' e1 e2
      rw [<- hnk] at y1
      rw [<- hmk] at y2
      obtain ⟨d0, d1, d2, d3, d4⟩ := hc'
      have q0 : (0 : Int) <= (k : Int) := by omega
      have q1 : (k : Int) < (n : Int) := by omega
      have hsz := hB.out.size
      have hbl : b < wr.heap.size := by omega
      have E1 := Lib.hid e1
      have E2 := Lib.hid e2
      have hmm : (-1 : Int) < 0 := by omega
      clear f1 f2 hel hc hL hu hx e1 e2 hnk hmk hp Y Z
      go_wp2_with fail
      go_at_call 28
      refine (szLsa_any p.o p.s p.g u1 u2 nk c1 mk c2 z _ y1 y2 hz2 hz3).mono ?_
      by_cases q5 : z - (nk : Int) - (mk : Int) < 0
      · rw [if_pos (show z - (nk : Int) - (mk : Int) < 0 by omega)]
        rintro e w9 ⟨rfl, hb9⟩
        have HB9 : Hid (Below w.heap.size w w9) := hB.out.trans (hb9.mono (by omega))
        clear hb9
        go_wp2
        go_ret
        exact ⟨rfl, HB9.out⟩
      · have q6 : szl l n D (k + 1) (z - (nk : Int) - (mk : Int)) := by have h1 := HZ.out; have h2 := E2.out; have h3 := E1.out; exact ⟨by omega, by omega, by omega⟩
        have Q6 := Lib.hid q6
        clear q6 E1 E2
        rw [if_neg (show ¬ (z - (nk : Int) - (mk : Int) < 0) by omega)]
        rintro e w9 ⟨rfl, hb9⟩
        have HB9 : Hid (Below w.heap.size w w9) := hB.out.trans (hb9.mono (by omega))
        clear hb9
        go_wp2
        go_roundw
        case rel => exact ⟨k + 1, _, by omega, by go_num, rfl, Q6.out, HB9⟩
        case measure => simp [intOf]; omega
    · exfalso
      have h1 := HZ.out
      have h2 := HN.out
      have h3 := H0.out
      rw [show k = D.length by omega, List.take_length] at h1
      omega
set_option maxHeartbeats 1000000 in
theorem szDb_fit (v : Value) (D : List Ls) (l : Int) (w : World) (hA : DArg w v D) (h0 : (dtot D : Int) <= l) (h1 : l <= 1048576) :
    Calls Try.prog 18 #[.agg #[v], .int .i64 l] w fun e w' => e = .returned (.int .i64 (l - (dtot D : Int))) /\ Below w.heap.size w w' := by
  have HA := Lib.hid hA
  obtain ⟨a, c, rfl⟩ := hA.slice
  clear hA
  have q : ¬ (l - (dtot D : Int) < 0) := by omega
  obtain ⟨z, hz⟩ : ∃ z, z = l - (dtot D : Int) := ⟨_, rfl⟩
  have H0 := Lib.hid h0
  rw [<- hz] at q ⊢
  have HZ := Lib.hid hz
  clear hz h0
  go_enter Try.func18, Try.ntmps18
  go_wp2_with fail
  go_at_call 54
  refine (szLsaS_fit _ D l _ (HA.out.below (by go_grown)) H0.out h1).mono ?_
  rw [<- HZ.out]
  rintro e w9 ⟨rfl, hb9⟩
  have HB9 : Hid (Below w.heap.size w w9) := Below.trans (by go_grown) (hb9.mono (by simp))
  clear hb9
  go_wp2
  go_ret
  exact ⟨rfl, HB9.out⟩
set_option maxHeartbeats 1000000 in
theorem szDb_big (v : Value) (D : List Ls) (l : Int) (w : World) (hA : DArg w v D) (h2 : 0 <= l) (h0 : l < (dtot D : Int)) (h1 : l <= 1048576) :
    Calls Try.prog 18 #[.agg #[v], .int .i64 l] w fun e w' => e = .returned (.int .i64 (-1)) /\ Below w.heap.size w w' := by
  have HA := Lib.hid hA
  obtain ⟨a, c, rfl⟩ := hA.slice
  have H0 := Lib.hid h0
  have hmm : (-1 : Int) < 0 := by omega
  clear hA h0
  go_enter Try.func18, Try.ntmps18
  go_wp2_with fail
  go_at_call 54
  refine (szLsaS_big _ D l _ (HA.out.below (by go_grown)) h2 H0.out h1).mono ?_
  rintro e w9 ⟨rfl, hb9⟩
  have HB9 : Hid (Below w.heap.size w w9) := Below.trans (by go_grown) (hb9.mono (by simp))
  clear hb9
  go_wp2
  go_ret
  exact ⟨rfl, HB9.out⟩
end Go.Proofs.Ytfpafjdakipccaa
