/- Rows of rows: what mark leaves, what held finds. -/
import Derived.Test.YtnaifkmganngfaaKa
namespace Go.Proofs.Ytnaifkmganngfaa
open Go.RowKit


theorem new_at {w : World} {b o : Nat} {cs : Array Value} {t : TypeId} (h : b = w.heap.size) : (w.alloc (.cells cs t)).cell? ⟨b, o, none⟩ = cs[o]? := by subst h; exact cell_of_row _ _ _ _ _ _ (heap_alloc_new _ _)
theorem new_frz {w : World} {b o : Nat} {cs : Array Value} {t : TypeId} (h : b = w.heap.size) : (w.alloc (.cells cs t)).frozen? ⟨b, o, none⟩ = false := by subst h; exact frozen_of_row _ _ _ _ _ (heap_alloc_new _ _)
theorem old_frz {w : World} {b o : Nat} {x : Obj} (h : b < w.heap.size) : (w.alloc x).frozen? ⟨b, o, none⟩ = w.frozen? ⟨b, o, none⟩ := ((Below.refl w.heap.size w).alloc (Nat.le_refl _) x).frozen (p := ⟨b, o, none⟩) h



/-- The rows of a sketch, n of them, that share no memory. -/
def KRow (w : World) (lo hi : Nat) (v : Value) (n : Nat) (D : List (List Rw)) : Prop := TRow w lo hi v D ∧ D.length = n
theorem KRow.below {w w' : World} {B lo hi n : Nat} {v : Value} {D : List (List Rw)} (h : KRow w lo hi v n D) (hb : Below B w w') (hB : hi ≤ B) : KRow w' lo hi v n D := ⟨h.1.below hb hB, h.2⟩
theorem KRow.wide {w : World} {lo hi lo' hi' n : Nat} {v : Value} {D : List (List Rw)} (h : KRow w lo hi v n D) (hl : lo' ≤ lo) (hh : hi ≤ hi') : KRow w lo' hi' v n D := ⟨h.1.wide hl hh, h.2⟩
theorem KRow.setCell {w : World} {lo hi n : Nat} {v : Value} {D : List (List Rw)} (h : KRow w lo hi v n D) {p : Addr} (hp : p.block < lo ∨ hi ≤ p.block) (u : Value) : KRow (w.setCell p u) lo hi v n D := ⟨h.1.setCell hp u, h.2⟩
theorem KRow.slice {w : World} {lo hi n : Nat} {v : Value} {D : List (List Rw)} (h : KRow w lo hi v n D) : ∃ a c, v = .slice a n c := by
  obtain ⟨a, c, e⟩ := h.1.slice
  exact ⟨a, c, by rw [e, h.2]⟩
theorem Tur.krow {lo hi lo' hi' n : Nat} {w w' : World} {v : Value} {D : List (List Rw)} (h : Tur lo hi w w') (hr : KRow w lo' hi' v n D) (hh : hi' ≤ w.heap.size) (hd : hi' ≤ lo ∨ hi ≤ lo') : KRow w' lo' hi' v n D := ⟨h.trow hr.1 hh hd, hr.2⟩
/-- The i-th row with its marks. -/
def mrk (D : List (List Rw)) (i : Nat) (l : List Rw) : List Int := marks (1 + ((rtot (D.take i) * 5 : Nat) : Int)) (l.length * 5)
theorem mrk_len (D : List (List Rw)) (i : Nat) (l : List Rw) : (mrk D i l).length = l.length * 5 := marks_len _ _
/-- Rows of rows behind mark. -/
def MRow (w : World) (lo hi : Nat) (v : Value) (n : Nat) (D : List (List Rw)) : Prop :=
  ∃ (a : Option Addr) (c : Nat) (us : Nat → Value) (bs : Nat → Nat × Nat), v = .slice a n c ∧ D.length = n ∧ n ≤ 1100000 ∧ ∀ i l, D[i]? = some l → Row 5 w (bs i).1 (bs i).2 (us i) l.length (mrk D i l) ∧ (bs i).2 ≤ hi ∧ ∃ G : Nat, a = some ⟨G, 0, none⟩ ∧ lo ≤ G ∧ G < hi ∧ w.cell? ⟨G, i, none⟩ = some (us i)
theorem MRow.below {w w' : World} {B lo hi n : Nat} {v : Value} {D : List (List Rw)} (h : MRow w lo hi v n D) (hb : Below B w w') (hB : hi ≤ B) : MRow w' lo hi v n D := by
  obtain ⟨a, c, us, bs, h1, h2, h3, h4⟩ := h
  refine ⟨a, c, us, bs, h1, h2, h3, fun i l hi' => ?_⟩
  obtain ⟨r1, r2, G, g1, g2, g3, g4⟩ := h4 i l hi'
  exact ⟨r1.below hb (by omega), r2, G, g1, g2, g3, by rw [hb.cell (p := ⟨G, i, none⟩) (by show G < B; omega)]; exact g4⟩
theorem MRow.slice {w : World} {lo hi n : Nat} {v : Value} {D : List (List Rw)} (h : MRow w lo hi v n D) : ∃ a c, v = .slice a n c := by
  obtain ⟨a, c, us, bs, h1, h2⟩ := h
  exact ⟨a, c, h1⟩
set_option maxRecDepth 100000 in
set_option maxHeartbeats 4000000 in
theorem markRowSS_M (K : Int) (D : List (List Rw)) (lo hi : Nat) (v : Value) (w : World) (hK : K = 1 + ((rtot D * 5 : Nat) : Int)) (hr : TRow w lo hi v D) (hh : hi ≤ w.heap.size) (hT : rtot D ≤ 1100000) :
    Calls Try.prog 47 #[v, .int .i64 1] w fun e w' => e = .returned (.int .i64 K) ∧ MRow w' lo hi v D.length D ∧ Tur lo hi w w' := by
  subst hK
  obtain ⟨a, c, us, bs, rfl, X⟩ := hr
  have hm := X.len
  obtain ⟨n, hn⟩ : ∃ n, n = D.length := ⟨_, rfl⟩
  rw [← hn] at hm ⊢
  have HN := Lib.hid hn
  have HX := Lib.hid X
  have HM := Lib.hid hT
  have A0 : Hid (∀ i l, 0 ≤ i → D[i]? = some l → Row 5 w (bs i).1 (bs i).2 (us i) l.length (flat l) ∧ ∃ G, a = some ⟨G, 0, none⟩ ∧ w.cell? ⟨G, i, none⟩ = some (us i)) := Lib.hid (fun i l _ hl => by
    have hil := (List.getElem?_eq_some_iff.1 hl).1
    obtain ⟨G, g0, g1, g2, g3, g4, g5⟩ := X.outer (by omega)
    exact ⟨(X.inner i l hl).1, G, g0, g4 i l hl⟩)
  clear X hn hT
  go_enter Try.func47, Try.ntmps47
  go_wp2
  go_loopw [1, 5] (fun q i wr => ∃ (k : Nat) (z : Int), k ≤ n ∧ i = .int .i64 (k : Int) ∧ q = .int .i64 z ∧ Hid (z = 1 + ((rtot (D.take k) * 5 : Nat) : Int)) ∧ Hid (∀ i l, k ≤ i → D[i]? = some l → Row 5 wr (bs i).1 (bs i).2 (us i) l.length (flat l) ∧ ∃ G, a = some ⟨G, 0, none⟩ ∧ wr.cell? ⟨G, i, none⟩ = some (us i)) ∧ Hid (∀ i l, i < k → D[i]? = some l → Row 5 wr (bs i).1 (bs i).2 (us i) l.length (mrk D i l) ∧ ∃ G, a = some ⟨G, 0, none⟩ ∧ wr.cell? ⟨G, i, none⟩ = some (us i)) ∧ Hid (Tur lo hi w wr)) (fun _ i _ => n - (intOf i).toNat)
  case atStart => exact ⟨0, _, Nat.zero_le _, rfl, rfl, rfl, A0, fun i l hi => absurd hi (Nat.not_lt_zero _), Tur.refl _ _ _⟩
  case round =>
    clear A0
    obtain ⟨k, z, hk, rfl, rfl, HZ, hX, hMk, hT2⟩ := hrel
    by_cases hlt : k < n
    · have hkl : k < D.length := by have := HN.out; omega
      obtain ⟨p, hp⟩ : ∃ p, D[k]? = some p := ⟨_, List.getElem?_eq_getElem hkl⟩
      obtain ⟨R0, G, rfl, d0⟩ := hX.out k p (Nat.le_refl _) hp
      obtain ⟨G2, g0, g1, g2, g3, g4, g5⟩ := HX.out.outer (by omega)
      obtain rfl : G = G2 := by simpa using g0
      obtain ⟨_, i2, i3⟩ := HX.out.inner k p hp
      have hms := rtot_snoc hp
      have hml := rtot_at_le hp
      have hz : z = 1 + ((rtot (D.take k) * 5 : Nat) : Int) := HZ.out
      have hM := HM.out
      have z0 : 0 ≤ z := by omega
      have z1 : z ≤ 1000000000 := by omega
      have z2 : p.length ≤ 1100000 := by omega
      have hsz := hT2.out.size
      have hkz : (0 : Int) ≤ (k : Int) := by omega
      have hkn : (k : Int) < (n : Int) := by omega
      have hGw : G < wr.heap.size := by omega
      have HR0 := Lib.hid R0
      obtain ⟨x1, y1, e1⟩ := R0.slice
      rw [e1] at d0 HR0
      have E1 := Lib.hid e1
      have HH : Hid (∀ i l, k < i → D[i]? = some l → (Row 5 wr (bs i).1 (bs i).2 (us i) l.length (flat l) ∧ wr.cell? ⟨G, i, none⟩ = some (us i)) ∧ ((bs k).2 ≤ (bs i).1 ∧ (bs i).2 ≤ wr.heap.size)) := Lib.hid (fun i l hi hl => by
        have hil := (List.getElem?_eq_some_iff.1 hl).1
        obtain ⟨r1, G3, g6, g7⟩ := hX.out i l (by omega) hl
        obtain rfl : G = G3 := by simpa using g6
        have := (HX.out.inner i l hl).2.2
        exact ⟨⟨r1, g7⟩, HX.out.apart k i hi hil, by omega⟩)
      have HHM : Hid (∀ i l, i < k → D[i]? = some l → (Row 5 wr (bs i).1 (bs i).2 (us i) l.length (mrk D i l) ∧ wr.cell? ⟨G, i, none⟩ = some (us i)) ∧ ((bs i).2 ≤ (bs k).1 ∧ (bs i).2 ≤ wr.heap.size)) := Lib.hid (fun i l hi hl => by
        obtain ⟨r1, G3, g6, g7⟩ := hMk.out i l hi hl
        obtain rfl : G = G3 := by simpa using g6
        have := (HX.out.inner i l hl).2.2
        exact ⟨⟨r1, g7⟩, HX.out.apart i k hi hkl, by omega⟩)
      have HZ0 : Hid (z = 1 + ((rtot (D.take k) * 5 : Nat) : Int)) := hz
      have g5k := g5 k hkl
      have hz3 : z + ((p.length * 5 : Nat) : Int) = 1 + ((rtot (D.take (k + 1)) * 5 : Nat) : Int) := by rw [hms, hz]; push_cast; omega
      have HZ3 := Lib.hid hz3
      have HG5 := Lib.hid g5k
      have HI2 := Lib.hid i2
      have HI3 := Lib.hid i3
      obtain ⟨np, hnp⟩ : ∃ q, q = p.length := ⟨_, rfl⟩
      rw [← hnp] at d0 HR0 z2 HZ3
      have HP := Lib.hid hp
      have Hnp := Lib.hid hnp
      clear g0 g3 g4 g5 hms hml hz hM R0 e1 hX hMk g5k hz3 i2 i3 hnp hp
      go_wp2_with fail
      go_at_call 66
      refine (markRowS_any z (flat p) np _ _ _ wr z0 z1 z2 HR0.out).mono ?_
      rintro e w9 ⟨rfl, hrm, ht9⟩
      have HRM := Lib.hid hrm
      clear hrm
      have T9 := Tur.of ht9
      have HT9 : Hid (Tur lo hi w w9) := Lib.hid (hT2.out.trans T9 (Nat.le_refl _) HI2.out (Nat.le_refl _) HI3.out)
      have HA9 : Hid (∀ i l, k + 1 ≤ i → D[i]? = some l → Row 5 w9 (bs i).1 (bs i).2 (us i) l.length (flat l) ∧ ∃ G', some (⟨G, 0, none⟩ : Addr) = some ⟨G', 0, none⟩ ∧ w9.cell? ⟨G', i, none⟩ = some (us i)) := Lib.hid (fun i l hi hl => by
        obtain ⟨⟨r1, c1⟩, a1, a2⟩ := HH.out i l (by omega) hl
        have hg := HG5.out
        exact ⟨T9.row r1 a2 (.inr a1), G, rfl, by rw [T9.cell hGw hg]; exact c1⟩)
      have HM9 : Hid (∀ i l, i < k + 1 → D[i]? = some l → Row 5 w9 (bs i).1 (bs i).2 (us i) l.length (mrk D i l) ∧ ∃ G', some (⟨G, 0, none⟩ : Addr) = some ⟨G', 0, none⟩ ∧ w9.cell? ⟨G', i, none⟩ = some (us i)) := Lib.hid (fun i l hi hl => by
        have hg := HG5.out
        by_cases e : i = k
        · subst e
          rw [HP.out] at hl
          obtain rfl := Option.some.inj hl
          refine ⟨?_, G, rfl, by rw [T9.cell hGw hg, E1.out, ← Hnp.out]; exact d0⟩
          have h := HRM.out
          rw [Hnp.out, ← E1.out, HZ0.out] at h
          exact h
        · obtain ⟨⟨r1, c1⟩, a1, a2⟩ := HHM.out i l (by omega) hl
          exact ⟨T9.row r1 a2 (.inl a1), G, rfl, by rw [T9.cell hGw hg]; exact c1⟩)
      clear ht9 T9 HH HG5 HI2 HI3 HHM HRM HZ0
      go_wp2_with fail
      go_roundw
      case rel => exact ⟨k + 1, _, by omega, by go_num, rfl, (show Hid _ from by have h := HZ3.out; show _ = _; omega), HA9, HM9, HT9⟩
      case measure => simp [intOf]; omega
    · have hge : ¬ ((k : Int) < (n : Int)) := by omega
      have HEnd : Hid (MRow wr lo hi (.slice a n c) n D) := Lib.hid ⟨a, c, us, bs, rfl, HN.out.symm, hm, fun i l hl => by
        have hil := (List.getElem?_eq_some_iff.1 hl).1
        obtain ⟨r1, G3, g6, g7⟩ := hMk.out i l (by have := HN.out; omega) hl
        obtain ⟨G2, g0, g1, g2, _⟩ := HX.out.outer (by omega)
        obtain rfl : G3 = G2 := by rw [g6] at g0; simpa using g0
        exact ⟨r1, (HX.out.inner i l hl).2.2, G3, g6, g1, g2, g7⟩⟩
      clear hMk hX
      go_wp2_with fail
      go_ret
      exact ⟨ret_int (by have h1 := HZ.out; have h2 := HN.out; rw [show k = D.length by omega, List.take_length] at h1; omega), HEnd.out, hT2.out⟩

set_option maxHeartbeats 2400000 in
theorem heldRowSS_K (K : Int) (D : List (List Rw)) (n lo hi : Nat) (v : Value) (w : World) (hK : K = 1 + ((rtot D * 5 : Nat) : Int)) (hr : MRow w lo hi v n D) (hT : rtot D ≤ 1100000) :
    Calls Try.prog 48 #[v, .int .i64 1] w fun e w' => e = .returned (.int .i64 K) ∧ w = w' := by
  subst hK
  obtain ⟨a, c, us, bs, rfl, hD, hm, X⟩ := hr
  have HN := Lib.hid hD
  have HX := Lib.hid X
  have HM := Lib.hid hT
  clear X hD hT
  go_enter Try.func48, Try.ntmps48
  go_wp2
  go_loopw [1, 5] (fun q i wr => ∃ (k : Nat) (z : Int), k ≤ n ∧ i = .int .i64 (k : Int) ∧ q = .int .i64 z ∧ Hid (z = 1 + ((rtot (D.take k) * 5 : Nat) : Int)) ∧ w = wr) (fun _ i _ => n - (intOf i).toNat)
  case atStart => exact ⟨0, _, Nat.zero_le _, rfl, rfl, by show _ = _; simp [rtot], rfl⟩
  case round =>
    obtain ⟨k, z, hk, rfl, rfl, HZ, rfl⟩ := hrel
    by_cases hlt : k < n
    case neg =>
      have hge : ¬ ((k : Int) < (n : Int)) := by omega
      go_wp2_with fail
      go_ret
      exact ⟨ret_int (by have h1 := HZ.out; have h2 := HN.out; rw [show k = D.length by omega, List.take_length] at h1; omega), rfl⟩
    case pos =>
    obtain ⟨p, hp⟩ : ∃ p, D[k]? = some p := ⟨_, List.getElem?_eq_getElem (by have := HN.out; omega)⟩
    obtain ⟨r1, _, G, rfl, _, _, d0⟩ := HX.out k p hp
    have hms := rtot_snoc hp
    have hml := rtot_at_le hp
    have hz := HZ.out
    have hM := HM.out
    have z0 : 0 ≤ z := by omega
    have z1 : z ≤ 1000000000 := by omega
    have hkz : (0 : Int) ≤ (k : Int) := by omega
    have hkn : (k : Int) < (n : Int) := by omega
    have HZ3 : Hid (z + ((p.length * 5 : Nat) : Int) = 1 + ((rtot (D.take (k + 1)) * 5 : Nat) : Int)) := by show _ = _; rw [hms, hz]; push_cast; omega
    have hnn : 0 ≤ z + ((p.length * 5 : Nat) : Int) := by omega
    have HR : Hid (Row 5 w (bs k).1 (bs k).2 (us k) p.length (marks z (p.length * 5))) := by
      unfold mrk at r1
      rw [← hz] at r1
      exact r1
    obtain ⟨x1, y1, e1⟩ := r1.slice
    rw [e1] at d0 HR
    obtain ⟨np, hnp⟩ : ∃ q, q = p.length := ⟨_, rfl⟩
    have np1 : np ≤ 1100000 := by omega
    rw [← hnp] at d0 HR HZ3 hnn
    have hneg : ¬ (z + ((np * 5 : Nat) : Int) < 0) := by omega
    clear r1 hms hml hz hM e1 hnp hp
    obtain ⟨zz, hzz⟩ : ∃ zz, zz = z + ((np * 5 : Nat) : Int) := ⟨_, rfl⟩
    rw [← hzz] at HZ3 hneg hnn
    have HZZ := Lib.hid hzz
    clear hzz
    go_wp2_with fail
    go_at_call 67
    refine (heldRowS_any z np _ _ _ w z0 z1 np1 HR.out).mono ?_
    rw [← HZZ.out]
    rintro e w' ⟨rfl, rfl⟩
    go_wp2_with fail
    go_roundw
    case rel => exact ⟨k + 1, zz, by omega, by go_num, rfl, HZ3, by first | rfl | trivial⟩
    case measure => simp [intOf]; omega

end Go.Proofs.Ytnaifkmganngfaa
