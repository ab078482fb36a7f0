/- The marks of a database held. -/
import Derived.Test.YtfpafjdakipccaaGm
namespace Go.Proofs.Ytfpafjdakipccaa
open Go.RowKit
set_option maxRecDepth 100000 in
set_option maxHeartbeats 4000000 in
theorem heldLsaS_K (K : Int) (D : List Ls) (lo hi : Nat) (v : Value) (w : World) (hK : K = 1 + ((mtot D : Nat) : Int)) (hr : DRow w lo hi v (dmk D)) (hT : mtot D <= 5000000) :
    Calls Try.prog 73 #[v, .int .i64 1] w fun e w' => e = .returned (.int .i64 K) /\ w = w' := by
  subst hK
  obtain ⟨a, c, us, xs, bs, rfl, X⟩ := hr
  have hm := X.len
  rw [dmk_len] at hm ⊢
  obtain ⟨n, hn⟩ : ∃ n, n = D.length := ⟨_, rfl⟩
  rw [<- hn] at hm ⊢
  have HN := Lib.hid hn
  have HX := Lib.hid X
  have HM := Lib.hid hT
  clear X hn hT
  go_enter Try.func73, Try.ntmps73
  go_wp2
  go_loop [1, 5] (fun q i => ∃ (k : Nat) (z : Int), k <= n /\ i = .int .i64 (k : Int) /\ q = .int .i64 z /\ Hid (z = 1 + (mtot (D.take k) : Int))) (fun _ i => n - (intOf i).toNat)
  case atStart => exact ⟨0, _, Nat.zero_le _, rfl, rfl, rfl⟩
  case round =>
    obtain ⟨k, z, hk, rfl, rfl, HZ⟩ := hrel
    by_cases hlt : k < n
    · have hkl : k < D.length := by have := HN.out; omega
      obtain ⟨p, hp⟩ : ∃ p, D[k]? = some p := ⟨_, List.getElem?_eq_getElem hkl⟩
      have hp2 := dmk_at hp
      rw [<- HZ.out] at hp2
      obtain ⟨G, rfl, g1, g2, g3, g4, g5⟩ := HX.out.outer (by rw [dmk_len]; omega)
      have hc := g4 k _ hp2
      obtain ⟨i1, i2, i3⟩ := HX.out.inner k _ hp2
      have hms := mtot_snoc hp
      have hml : mtot (D.take k) + mlen p <= mtot D := by rw [<- hms]; exact mtot_take_le _ _
      have hz : z = 1 + (mtot (D.take k) : Int) := HZ.out
      have hM := HM.out
      have z0 : 0 <= z := by omega
      have z1 : z <= 5000001 := by omega
      unfold mlen at hml hms
      rw [dmkAt_K, dmkAt_T, dmkAt_flatK, dmkAt_flatT] at i1
      obtain ⟨nk, hnk⟩ : ∃ q, q = p.K.length := ⟨_, rfl⟩
      obtain ⟨mk, hmk⟩ : ∃ q, q = p.T.length := ⟨_, rfl⟩
      rw [<- hnk, <- hmk] at i1 hml hms
      obtain ⟨x1, y1, x2, y2, e1, e2⟩ := i1.slice
      rw [e1, e2] at i1 hc
      obtain ⟨mid, m1, m2, r1, r2⟩ := i1
      have n0 : nk <= 1100000 := by obtain ⟨_, _, _, h, _⟩ := r1.opened; exact h
      have n1 : mk <= 1100000 := by obtain ⟨_, _, _, h, _⟩ := r2.opened; exact h
      have d0 : w.cell? ⟨G, k * 5, none⟩ = some (.int .i64 z) := hc.o
      have d1 : w.cell? ⟨G, k * 5 + 1, none⟩ = some (.int .i64 (z + 1)) := hc.s
      have d2 : w.cell? ⟨G, k * 5 + 2, none⟩ = some (.int .i64 (z + 1 + 1)) := by rw [show z + 1 + 1 = (dmkAt z p).g by show _ = z + 2; omega]; exact hc.g
      have d3 := hc.u
      have d4 := hc.x
      have hk0 : (0 : Int) <= (k : Int) := by omega
      have hk1 : (k : Int) < (n : Int) := by omega
      have hz3 : z + 3 = z + 1 + 1 + 1 := by omega
      rw [hz3] at r1 r2
      obtain ⟨z4, hz4⟩ : ∃ q : Int, q = z + 1 + 1 + 1 + ((nk * 2 : Nat) : Int) := ⟨_, rfl⟩
      rw [<- hz4] at r2
      have z40 : 0 <= z4 := by omega
      have z41 : z4 <= 1000000000 := by omega
      have z42 : ¬ (z4 < 0) := by omega
      have z43 : ¬ (z4 + ((mk * 3 : Nat) : Int) < 0) := by omega
      have HZ6 : Hid (z4 + ((mk * 3 : Nat) : Int) = 1 + (mtot (D.take (k + 1)) : Int)) := Lib.hid (by rw [hz4, hz, hms]; push_cast; omega)
      have R1 := Lib.hid r1
      have R2 := Lib.hid r2
      have HZ4 := Lib.hid hz4
      clear g3 g4 g5 hnk hmk e1 e2 hms hml hz hM r1 r2 hp hp2 i2 i3 m1 m2 HZ hc hz3 hz4
      go_wp2_with fail
      go_at_call 65
      refine (heldLinkS nk _ _ _ _ w R1.out n0 (by omega) (by omega)).mono ?_
      rw [<- HZ4.out]
      rintro e w5 ⟨rfl, rfl⟩
      go_wp2_with fail
      go_at_call 66
      refine (heldStubS mk _ _ _ _ w R2.out n1 z40 z41).mono ?_
      rintro e w6 ⟨rfl, rfl⟩
      go_wp2
      go_round
      case rel => exact ⟨k + 1, _, by omega, by go_num, rfl, HZ6⟩
      case measure => simp [intOf]; omega
    · obtain rfl : k = n := by omega
      have hge : ¬ ((k : Int) < (k : Int)) := by omega
      go_wp2
      go_ret
      exact ⟨ret_int (by rw [HZ.out, HN.out, List.take_length]), rfl⟩
set_option maxHeartbeats 2000000 in
theorem markDb_K (K : Int) (D : List Ls) (lo hi : Nat) (v : Value) (w : World) (hK : K = 1 + ((mtot D : Nat) : Int)) (hr : DRow w lo hi v D) (hT : mtot D <= 5000000) (hh : hi <= w.heap.size) :
    Calls Try.prog 25 #[.agg #[v], .int .i64 1] w fun e w' => e = .returned (.int .i64 K) /\ DRow w' lo hi v (dmk D) /\ Tur lo hi w w' := by
  have HR := Lib.hid hr
  have HK := Lib.hid hK
  obtain ⟨a, c, rfl⟩ := hr.slice
  obtain ⟨n, hn⟩ : ∃ n, n = D.length := ⟨_, rfl⟩
  rw [<- hn] at HR ⊢
  clear hr hK hn
  go_enter Try.func25, Try.ntmps25
  go_wp2_with fail
  go_at_call 62
  refine (markLsaS_K K D lo hi _ _ HK.out (HR.out.below (B := w.heap.size) (by go_grown) hh) (by simp; omega) hT).mono ?_
  rintro e w9 ⟨rfl, t, u⟩
  have T := Lib.hid t
  have U := Lib.hid (Tur.boxed u)
  clear t u
  go_wp2
  go_ret
  exact ⟨rfl, T.out, U.out⟩
set_option maxHeartbeats 2000000 in
theorem heldDb_K (K : Int) (D : List Ls) (lo hi : Nat) (v : Value) (w : World) (hK : K = 1 + ((mtot D : Nat) : Int)) (hr : DRow w lo hi v (dmk D)) (hT : mtot D <= 5000000) (hh : hi <= w.heap.size) :
    Calls Try.prog 32 #[.agg #[v], .int .i64 1] w fun e w' => e = .returned (.int .i64 K) /\ Below w.heap.size w w' := by
  have HR := Lib.hid hr
  have h3 : ¬ (K < 0) := by omega
  have HK := Lib.hid hK
  obtain ⟨a, c, rfl⟩ := hr.slice
  obtain ⟨n, hn⟩ : ∃ n, n = (dmk D).length := ⟨_, rfl⟩
  rw [<- hn] at HR ⊢
  clear hr hK hn
  go_enter Try.func32, Try.ntmps32
  go_wp2_with fail
  go_at_call 73
  refine (heldLsaS_K K D lo hi _ _ HK.out (HR.out.below (B := w.heap.size) (by go_grown) hh) hT).mono ?_
  rintro e w9 ⟨rfl, rfl⟩
  go_wp2
  go_ret
  exact ⟨rfl, by go_grown⟩
end Go.Proofs.Ytfpafjdakipccaa
