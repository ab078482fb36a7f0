/- Sizes and marks from any start. -/
import Derived.Test.YtophppnllkadoaaKc
namespace Go.Proofs.Ytophppnllkadoaa
open Go.RowKit


set_option maxRecDepth 100000 in
set_option maxHeartbeats 4000000 in
theorem markIntSS_S (s K : Int) (hs0 : 0 ≤ s) (hs1 : s ≤ 1100001) (D : List (List Int)) (lo hi : Nat) (v : Value) (w : World) (hK : K = s + ((rtot D * 1 : Nat) : Int)) (hr : TRow w lo hi v D) (hh : hi ≤ w.heap.size) (hT : rtot D ≤ 1100000) :
    Calls Try.prog 67 #[v, .int .i64 s] w fun e w' => e = .returned (.int .i64 K) ∧ Tur lo hi w w' := by
  subst hK
  obtain ⟨a, c, us, bs, rfl, X⟩ := hr
  have hm := X.len
  obtain ⟨n, hn⟩ : ∃ n, n = D.length := ⟨_, rfl⟩
  rw [← hn] at hm ⊢
  have HN := Lib.hid hn
  have HX := Lib.hid X
  have HM := Lib.hid hT
  have A0 : Hid (∀ i l, 0 ≤ i → D[i]? = some l → Row 1 w (bs i).1 (bs i).2 (us i) l.length l ∧ ∃ G, a = some ⟨G, 0, none⟩ ∧ w.cell? ⟨G, i, none⟩ = some (us i)) := Lib.hid (fun i l _ hl => by
    have hil := (List.getElem?_eq_some_iff.1 hl).1
    obtain ⟨G, g0, g1, g2, g3, g4, g5⟩ := X.outer (by omega)
    exact ⟨(X.inner i l hl).1, G, g0, g4 i l hl⟩)
  clear X hn hT
  go_enter Try.func67, Try.ntmps67
  go_wp2
  go_loopw [1, 5] (fun q i wr => ∃ (k : Nat) (z : Int), k ≤ n ∧ i = .int .i64 (k : Int) ∧ q = .int .i64 z ∧ Hid (z = s + ((rtot (D.take k) * 1 : Nat) : Int)) ∧ Hid (∀ i l, k ≤ i → D[i]? = some l → Row 1 wr (bs i).1 (bs i).2 (us i) l.length l ∧ ∃ G, a = some ⟨G, 0, none⟩ ∧ wr.cell? ⟨G, i, none⟩ = some (us i)) ∧ Hid (Tur lo hi w wr)) (fun _ i _ => n - (intOf i).toNat)
  case atStart => exact ⟨0, _, Nat.zero_le _, rfl, rfl, Lib.hid (by simp [rtot]), A0, Tur.refl _ _ _⟩
  case round =>
    clear A0
    obtain ⟨k, z, hk, rfl, rfl, HZ, hX, hT2⟩ := hrel
    by_cases hlt : k < n
    · have hkl : k < D.length := by have := HN.out; omega
      obtain ⟨p, hp⟩ : ∃ p, D[k]? = some p := ⟨_, List.getElem?_eq_getElem hkl⟩
      obtain ⟨R0, G, rfl, d0⟩ := hX.out k p (Nat.le_refl _) hp
      obtain ⟨G2, g0, g1, g2, g3, g4, g5⟩ := HX.out.outer (by omega)
      obtain rfl : G = G2 := by simpa using g0
      obtain ⟨_, i2, i3⟩ := HX.out.inner k p hp
      have hms := rtot_snoc hp
      have hml := rtot_at_le hp
      have hz : z = s + ((rtot (D.take k) * 1 : Nat) : Int) := HZ.out
      have hM := HM.out
      have z0 : 0 ≤ z := by omega
      have z1 : z ≤ 1000000000 := by omega
      have z2 : p.length ≤ 1100000 := by omega
      have hsz := hT2.out.size
      have hkz : (0 : Int) ≤ (k : Int) := by omega
      have hkn : (k : Int) < (n : Int) := by omega
      have hGw : G < wr.heap.size := by omega
      have HR0 := Lib.hid R0
      obtain ⟨x1, y1, e1⟩ := R0.slice
      rw [e1] at d0 HR0
      have E1 := Lib.hid e1
      have HH : Hid (∀ i l, k < i → D[i]? = some l → (Row 1 wr (bs i).1 (bs i).2 (us i) l.length l ∧ wr.cell? ⟨G, i, none⟩ = some (us i)) ∧ ((bs k).2 ≤ (bs i).1 ∧ (bs i).2 ≤ wr.heap.size)) := Lib.hid (fun i l hi hl => by
        have hil := (List.getElem?_eq_some_iff.1 hl).1
        obtain ⟨r1, G3, g6, g7⟩ := hX.out i l (by omega) hl
        obtain rfl : G = G3 := by simpa using g6
        have := (HX.out.inner i l hl).2.2
        exact ⟨⟨r1, g7⟩, HX.out.apart k i hi hil, by omega⟩)
      have g5k := g5 k hkl
      have hz3 : z + ((p.length * 1 : Nat) : Int) = s + ((rtot (D.take (k + 1)) * 1 : Nat) : Int) := by rw [hms, hz]; push_cast; omega
      have HZ3 := Lib.hid hz3
      have HG5 := Lib.hid g5k
      have HI2 := Lib.hid i2
      have HI3 := Lib.hid i3
      obtain ⟨np, hnp⟩ : ∃ q, q = p.length := ⟨_, rfl⟩
      rw [← hnp] at d0 HR0 z2 HZ3
      have HP := Lib.hid hp
      clear g0 g3 g4 g5 hms hml hz hM R0 e1 hX g5k hz3 i2 i3 hnp hp
      go_wp2_with fail
      go_at_call 92
      refine (markIntS_any z p np _ _ _ wr z0 z1 HR0.out).mono ?_
      rintro e w9 ⟨rfl, _, ht9⟩
      have T9 := Tur.of ht9
      have HT9 : Hid (Tur lo hi w w9) := Lib.hid (hT2.out.trans T9 (Nat.le_refl _) HI2.out (Nat.le_refl _) HI3.out)
      have HA9 : Hid (∀ i l, k + 1 ≤ i → D[i]? = some l → Row 1 w9 (bs i).1 (bs i).2 (us i) l.length l ∧ ∃ G', some (⟨G, 0, none⟩ : Addr) = some ⟨G', 0, none⟩ ∧ w9.cell? ⟨G', i, none⟩ = some (us i)) := Lib.hid (fun i l hi hl => by
        obtain ⟨⟨r1, c1⟩, a1, a2⟩ := HH.out i l (by omega) hl
        have hg := HG5.out
        exact ⟨T9.row r1 a2 (.inr a1), G, rfl, by rw [T9.cell hGw hg]; exact c1⟩)
      clear ht9 T9 HH HG5 HI2 HI3
      go_wp2_with fail
      go_roundw
      case rel => exact ⟨k + 1, _, by omega, by go_num, rfl, (show Hid _ from by have h := HZ3.out; show _ = _; omega), HA9, HT9⟩
      case measure => simp [intOf]; omega
    · have hge : ¬ ((k : Int) < (n : Int)) := by omega
      go_wp2_with fail
      go_ret
      exact ⟨ret_int (by have h1 := HZ.out; have h2 := HN.out; rw [show k = D.length by omega, List.take_length] at h1; omega), hT2.out⟩

set_option maxRecDepth 100000 in
set_option maxHeartbeats 4000000 in
theorem markSketch_S (s K t : Int) (ht0 : 0 ≤ s) (ht1 : s ≤ 1100001) (D : List (List Int)) (n lo hi : Nat) (v : Value) (w : World) (hK : K = s + ((rtot D * 1 : Nat) : Int)) (hr : KRow w lo hi v n D) (hh : hi ≤ w.heap.size) (hT : rtot D ≤ 1100000) :
    Calls Try.prog 36 #[.agg #[v, .int .i64 t], .int .i64 s] w fun e w' => e = .returned (.int .i64 K) ∧ Tur lo hi w w' := by
  have HR := Lib.hid hr
  obtain ⟨a, c, rfl⟩ := hr.slice
  have HK := Lib.hid hK
  clear hr hK
  go_enter Try.func36, Try.ntmps36
  go_wp2_with fail
  obtain ⟨q1, hq1⟩ : ∃ q1, q1 = w.alloc (.cells #[.slice a n c, .int .i64 t] 28) := ⟨_, rfl⟩
  have hb1 : Below w.heap.size w q1 := by rw [hq1]; exact (Below.refl _ _).alloc (Nat.le_refl _) _
  have hs1 : w.heap.size < q1.heap.size := by rw [hq1]; simp
  rw [← hq1]
  clear hq1
  go_at_call 67
  refine (markIntSS_S s K ht0 ht1 D lo hi _ q1 HK.out (HR.out.below hb1 hh).1 (by omega) hT).mono ?_
  rintro e w3 ⟨rfl, hO⟩
  have HM : Hid (Tur lo hi w w3) := ⟨hO.os.trans hb1.os, hO.tape.trans hb1.tape, hO.output.trans hb1.output, Nat.le_trans hb1.size hO.size, fun b hb hd => (hO.block b (by omega) hd).trans (hb1.block b hb)⟩
  clear hO hb1
  go_wp2_with fail
  go_ret
  exact ⟨rfl, HM.out⟩
set_option maxRecDepth 100000 in
set_option maxHeartbeats 4000000 in
theorem szSketch_at (a : Option Addr) (n c : Nat) (l t : Int) (D : List (List Int)) (w : World) (hA : TArg w (.slice a n c) D) (hd : (ttot D : Int) ≤ l) (hl : l ≤ 1048576) :
    Calls Try.prog 30 #[.agg #[.slice a n c, .int .i64 t], .int .i64 l] w fun e w' => e = .returned (.int .i64 (l - (ttot D : Int))) ∧ Below w.heap.size w w' := by
  have HA := Lib.hid hA
  clear hA
  obtain ⟨z, hz⟩ : ∃ z : Int, z = l - (ttot D : Int) := ⟨_, rfl⟩
  have HZ := Lib.hid hz
  have hz0 : ¬ z < 0 := by omega
  rw [← hz]
  clear hz
  go_enter Try.func30, Try.ntmps30
  go_wp2_with fail
  go_at_call 63
  refine (szIntSS_fit _ D l _ (HA.out.below (by go_grown)) (by omega) (by omega)).mono ?_
  rw [← HZ.out]
  rintro e w3 ⟨rfl, hb3⟩
  have hB : Hid (Below w.heap.size w w3) := Below.trans (by go_grown) (hb3.mono (by simp <;> omega))
  clear hb3
  go_wp2_with fail
  go_ret
  exact ⟨rfl, hB.out⟩
set_option maxRecDepth 100000 in
set_option maxHeartbeats 4000000 in
theorem szSketch_over (a : Option Addr) (n c : Nat) (l t : Int) (D : List (List Int)) (w : World) (hA : TArg w (.slice a n c) D) (h0 : 0 ≤ l) (hd : l < (ttot D : Int)) (hl : l ≤ 1048576) :
    Calls Try.prog 30 #[.agg #[.slice a n c, .int .i64 t], .int .i64 l] w fun e w' => e = .returned (.int .i64 (-1)) ∧ Below w.heap.size w w' := by
  have HA := Lib.hid hA
  clear hA
  have hm : (-1 : Int) < 0 := by omega
  go_enter Try.func30, Try.ntmps30
  go_wp2_with fail
  go_at_call 63
  refine (szIntSS_big _ D l _ (HA.out.below (by go_grown)) (by omega) (by omega) (by omega)).mono ?_
  rintro e w3 ⟨rfl, hb3⟩
  have hB : Hid (Below w.heap.size w w3) := Below.trans (by go_grown) (hb3.mono (by simp <;> omega))
  clear hb3
  go_wp2_with fail
  go_ret
  exact ⟨rfl, hB.out⟩

end Go.Proofs.Ytophppnllkadoaa
