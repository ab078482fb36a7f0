/- Slices of tables compared and marked. -/
import Derived.Test.YtflhbfndfjkfgaaTt
import Derived.Test.YtflhbfndfjkfgaaGk
import Derived.Deep.RegionHeld3
import Derived.Handy
import Derived.WalkSmall
namespace Go.Proofs.Ytflhbfndfjkfgaa
open Go.RowKit


set_option maxHeartbeats 4000000 in
theorem eqTableS_same (D : List (List Rt)) (lo hi lo' hi' : Nat) (v v' : Value) (w : World) (hr : TRow w lo hi v D) (hr' : TRow w lo' hi' v' D) (hh : hi ≤ w.heap.size) (hh' : hi' ≤ w.heap.size) :
    Calls Try.prog 13 #[v, v'] w fun e w' => e = .returned (.bool true) ∧ Below w.heap.size w w' := by
  obtain ⟨a, c, us, bs, rfl, X⟩ := hr
  obtain ⟨a', c', us', bs', rfl, X'⟩ := hr'
  have hm := X.len
  obtain ⟨n, hn⟩ : ∃ n, n = D.length := ⟨_, rfl⟩
  rw [← hn] at hm ⊢
  have HN := Lib.hid hn
  have HX := Lib.hid X
  have HX' := Lib.hid X'
  clear X X' hn
  go_enter Try.func13, Try.ntmps13
  go_wp2
  go_loopw [5] (fun i wr => ∃ k : Nat, k ≤ n ∧ i = .int .i64 (k : Int) ∧ Hid (Below w.heap.size w wr)) (fun i _ => n - (intOf i).toNat)
  case atStart => exact ⟨0, Nat.zero_le _, rfl, Below.refl _ _⟩
  case round =>
    obtain ⟨k, hk, rfl, hB⟩ := hrel
    by_cases hlt : k < n
    · obtain ⟨p, hp⟩ : ∃ p, D[k]? = some p := ⟨_, List.getElem?_eq_getElem (by have := HN.out; omega)⟩
      obtain ⟨G, rfl, g1, g2, g3, g4, _⟩ := HX.out.outer (by have := HN.out; omega)
      obtain ⟨G', rfl, g1', g2', g3', g4', _⟩ := HX'.out.outer (by have := HN.out; omega)
      have hsz := hB.out.size
      have d0 : wr.cell? ⟨G, k, none⟩ = some (us k) := by rw [hB.out.cell (p := ⟨G, k, none⟩) (show G < w.heap.size by omega)]; exact g4 k p hp
      have f0 : wr.cell? ⟨G', k, none⟩ = some (us' k) := by rw [hB.out.cell (p := ⟨G', k, none⟩) (show G' < w.heap.size by omega)]; exact g4' k p hp
      obtain ⟨i1, i2, i3⟩ := HX.out.inner k p hp
      obtain ⟨j1, j2, j3⟩ := HX'.out.inner k p hp
      have R1 := Lib.hid (i1.below hB.out (by omega))
      have R2 := Lib.hid (j1.below hB.out (by omega))
      obtain ⟨x1, y1, e1⟩ := i1.slice
      obtain ⟨x3, y3, e3⟩ := j1.slice
      rw [e1] at d0 R1
      rw [e3] at f0 R2
      have hk0 : (0 : Int) ≤ (k : Int) := by omega
      have hk1 : (k : Int) < (n : Int) := by omega
      have hGw : G < wr.heap.size := by omega
      have hGw' : G' < wr.heap.size := by omega
      obtain ⟨H1, hH1⟩ : ∃ q, q = (bs k).2 := ⟨_, rfl⟩
      obtain ⟨H2, hH2⟩ : ∃ q, q = (bs' k).2 := ⟨_, rfl⟩
      have z1 : H1 ≤ wr.heap.size := by omega
      have z2 : H2 ≤ wr.heap.size := by omega
      rw [← hH1] at R1
      rw [← hH2] at R2
      clear g3 g3' g4 g4' i1 j1 i2 i3 j2 j3 e1 e3 hH1 hH2
      go_wp2_with fail
      go_region_held3 (fun w' => w'.cell? ⟨G, k, none⟩ = some (.slice x1 p.length y1) ∧ w'.cell? ⟨G', k, none⟩ = some (.slice x3 p.length y3) ∧ wr.heap.size ≤ w'.heap.size ∧ Below wr.heap.size wr w') (first | assumption | exact rr2_start d0 f0 | exact rr2_drew (by assumption) | exact rr2_keep (by omega) (by omega) (by assumption) (by assumption))
        (first | (go_at_call 35; refine (eqTable_same (flat p) p.length _ _ _ _ _ _ _ (R1.out.below (rr2_out (by assumption)).2 z1) (R2.out.below (rr2_out (by assumption)).2 z2) (by have hq := (rr2_out (by assumption)).1; omega) (by have hq := (rr2_out (by assumption)).1; omega)).mono ?_; rintro e w9 ⟨rfl, hb⟩))
      have HE : Hid (Below w.heap.size w w9) := hB.out.trans ((rr2_out (by assumption)).2.mono (by omega))
      go_wp2_with fail
      go_roundw
      case rel => exact ⟨k + 1, by omega, by go_num, HE⟩
      case measure => simp [intOf]; omega
    · have hge : ¬ ((k : Int) < (n : Int)) := by omega
      go_wp2
      go_ret
      exact ⟨rfl, hB.out⟩

set_option maxRecDepth 100000 in
set_option maxHeartbeats 4000000 in
theorem markTableS_K (K : Int) (D : List (List Rt)) (lo hi : Nat) (v : Value) (w : World) (hK : K = 1 + ((rtot D * 3 : Nat) : Int)) (hr : TRow w lo hi v D) (hh : hi ≤ w.heap.size) (hT : rtot D ≤ 1100000) :
    Calls Try.prog 14 #[v, .int .i64 1] w fun e w' => e = .returned (.int .i64 K) ∧ Tur lo hi w w' := by
  subst hK
  obtain ⟨a, c, us, bs, rfl, X⟩ := hr
  have hm := X.len
  obtain ⟨n, hn⟩ : ∃ n, n = D.length := ⟨_, rfl⟩
  rw [← hn] at hm ⊢
  have HN := Lib.hid hn
  have HX := Lib.hid X
  have HM := Lib.hid hT
  have A0 : Hid (∀ i l, 0 ≤ i → D[i]? = some l → Row 3 w (bs i).1 (bs i).2 (us i) l.length (flat l) ∧ ∃ G, a = some ⟨G, 0, none⟩ ∧ w.cell? ⟨G, i, none⟩ = some (us i)) := Lib.hid (fun i l _ hl => by
    have hil := (List.getElem?_eq_some_iff.1 hl).1
    obtain ⟨G, g0, g1, g2, g3, g4, g5⟩ := X.outer (by omega)
    exact ⟨(X.inner i l hl).1, G, g0, g4 i l hl⟩)
  clear X hn hT
  go_enter Try.func14, Try.ntmps14
  go_wp2
  go_loopw [1, 5] (fun q i wr => ∃ (k : Nat) (z : Int), k ≤ n ∧ i = .int .i64 (k : Int) ∧ q = .int .i64 z ∧ Hid (z = 1 + ((rtot (D.take k) * 3 : Nat) : Int)) ∧ Hid (∀ i l, k ≤ i → D[i]? = some l → Row 3 wr (bs i).1 (bs i).2 (us i) l.length (flat l) ∧ ∃ G, a = some ⟨G, 0, none⟩ ∧ wr.cell? ⟨G, i, none⟩ = some (us i)) ∧ Hid (Tur lo hi w wr)) (fun _ i _ => n - (intOf i).toNat)
  case atStart => exact ⟨0, _, Nat.zero_le _, rfl, rfl, rfl, A0, Tur.refl _ _ _⟩
  case round =>
    clear A0
    obtain ⟨k, z, hk, rfl, rfl, HZ, hX, hT2⟩ := hrel
    by_cases hlt : k < n
    · have hkl : k < D.length := by have := HN.out; omega
      obtain ⟨p, hp⟩ : ∃ p, D[k]? = some p := ⟨_, List.getElem?_eq_getElem hkl⟩
      obtain ⟨R0, G, rfl, d0⟩ := hX.out k p (Nat.le_refl _) hp
      obtain ⟨G2, g0, g1, g2, g3, g4, g5⟩ := HX.out.outer (by omega)
      obtain rfl : G = G2 := by simpa using g0
      obtain ⟨_, i2, i3⟩ := HX.out.inner k p hp
      have hms := rtot_snoc hp
      have hml := rtot_at_le hp
      have hz : z = 1 + ((rtot (D.take k) * 3 : Nat) : Int) := HZ.out
      have hM := HM.out
      have z0 : 0 ≤ z := by omega
      have z1 : z ≤ 1000000000 := by omega
      have z2 : p.length ≤ 1100000 := by omega
      have hsz := hT2.out.size
      have hkz : (0 : Int) ≤ (k : Int) := by omega
      have hkn : (k : Int) < (n : Int) := by omega
      have hGw : G < wr.heap.size := by omega
      have HR0 := Lib.hid R0
      obtain ⟨x1, y1, e1⟩ := R0.slice
      rw [e1] at d0 HR0
      have E1 := Lib.hid e1
      have HH : Hid (∀ i l, k < i → D[i]? = some l → (Row 3 wr (bs i).1 (bs i).2 (us i) l.length (flat l) ∧ wr.cell? ⟨G, i, none⟩ = some (us i)) ∧ ((bs k).2 ≤ (bs i).1 ∧ (bs i).2 ≤ wr.heap.size)) := Lib.hid (fun i l hi hl => by
        have hil := (List.getElem?_eq_some_iff.1 hl).1
        obtain ⟨r1, G3, g6, g7⟩ := hX.out i l (by omega) hl
        obtain rfl : G = G3 := by simpa using g6
        have := (HX.out.inner i l hl).2.2
        exact ⟨⟨r1, g7⟩, HX.out.apart k i hi hil, by omega⟩)
      have g5k := g5 k hkl
      have hz3 : z + ((p.length * 3 : Nat) : Int) = 1 + ((rtot (D.take (k + 1)) * 3 : Nat) : Int) := by rw [hms, hz]; push_cast; omega
      have HZ3 := Lib.hid hz3
      have HG5 := Lib.hid g5k
      have HI2 := Lib.hid i2
      have HI3 := Lib.hid i3
      obtain ⟨np, hnp⟩ : ∃ q, q = p.length := ⟨_, rfl⟩
      rw [← hnp] at d0 HR0 z2 HZ3
      have HP := Lib.hid hp
      clear g0 g3 g4 g5 hms hml hz hM R0 e1 hX g5k hz3 i2 i3 hnp hp
      go_wp2_with fail
      go_at_call 36
      refine (markRouteS (flat p) np _ _ _ z wr HR0.out z2 z0 z1).mono ?_
      rintro e w9 ⟨rfl, _, ht9⟩
      have T9 := Tur.of ht9
      have HT9 : Hid (Tur lo hi w w9) := Lib.hid (hT2.out.trans T9 (Nat.le_refl _) HI2.out (Nat.le_refl _) HI3.out)
      have HA9 : Hid (∀ i l, k + 1 ≤ i → D[i]? = some l → Row 3 w9 (bs i).1 (bs i).2 (us i) l.length (flat l) ∧ ∃ G', some (⟨G, 0, none⟩ : Addr) = some ⟨G', 0, none⟩ ∧ w9.cell? ⟨G', i, none⟩ = some (us i)) := Lib.hid (fun i l hi hl => by
        obtain ⟨⟨r1, c1⟩, a1, a2⟩ := HH.out i l (by omega) hl
        have hg := HG5.out
        exact ⟨T9.row r1 a2 (.inr a1), G, rfl, by rw [T9.cell hGw hg]; exact c1⟩)
      clear ht9 T9 HH HG5 HI2 HI3
      go_wp2_with fail
      go_roundw
      case rel => exact ⟨k + 1, _, by omega, by go_num, rfl, HZ3, HA9, HT9⟩
      case measure => simp [intOf]; omega
    · have hge : ¬ ((k : Int) < (n : Int)) := by omega
      go_wp2_with fail
      go_ret
      exact ⟨ret_int (by have h1 := HZ.out; have h2 := HN.out; rw [show k = D.length by omega, List.take_length] at h1; exact h1), hT2.out⟩

end Go.Proofs.Ytflhbfndfjkfgaa
