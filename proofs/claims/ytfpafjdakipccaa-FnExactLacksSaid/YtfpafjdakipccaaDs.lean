/- DbSum of both. -/
import Derived.Test.YtfpafjdakipccaaDi
import Derived.Test.YtfpafjdakipccaaX9
namespace Go.Proofs.Ytfpafjdakipccaa
open Go.RowKit


/-- The box of the argument, and what lay before. -/
structure BRel (w wr : World) (v : Value) : Prop where
  cell : wr.cell? ⟨w.heap.size, 0, none⟩ = some v
  size : w.heap.size < wr.heap.size
  below : Below w.heap.size w wr
theorem BRel.next {w wr w2 : World} {v : Value} (h : BRel w wr v) (hb : Below wr.heap.size wr w2) : BRel w w2 v :=
  ⟨by rw [hb.cell (p := ⟨w.heap.size, 0, none⟩) h.size]; exact h.cell, Nat.lt_of_lt_of_le h.size hb.size, h.below.trans (hb.mono (by have := h.size; omega))⟩

set_option maxRecDepth 100000 in
set_option maxHeartbeats 4000000 in
theorem sdsum_no (D : List Ls) (lo hi : Nat) (v : Value) (w : World) (hr : DRow w lo hi v D) (hh : hi ≤ w.heap.size) (hv : dokB D = false) :
    Calls Try.prog 41 #[.agg #[v]] w fun e w' => e = .returned (.int .i64 (-1)) ∧ Below w.heap.size w w' := by
  have HR := Lib.hid hr
  have HV := Lib.hid hv
  obtain ⟨a, c, rfl⟩ := hr.slice
  clear hr hv
  go_enter Try.func41, Try.ntmps41
  go_wp2_with fail
  go_at_call 14
  refine (sdbok_any D lo hi _ _ (HR.out.below (B := w.heap.size) (by go_grown) (by omega)) (by simp; omega)).mono ?_
  rw [HV.out]
  rintro e w9 ⟨rfl, hb9⟩
  have HB9 : Hid (Below w.heap.size w w9) := Below.trans (by go_grown) (hb9.mono (by simp))
  clear hb9
  go_wp2
  go_ret
  exact ⟨rfl, HB9.out⟩

set_option maxRecDepth 100000 in
set_option maxHeartbeats 4000000 in
theorem sdsum_yes (D : List Ls) (lo hi : Nat) (v : Value) (w : World) (hr : DRow w lo hi v D) (hh : hi ≤ w.heap.size) (hv : dokB D = true) :
    Calls Try.prog 41 #[.agg #[v]] w fun e w' => e = .returned (.int .i64 (dsums D)) ∧ Below w.heap.size w w' := by
  have HR := Lib.hid hr
  have HV := Lib.hid hv
  obtain ⟨a, c, us, xs, bs, rfl, X⟩ := hr
  have hm := X.len
  obtain ⟨n, hn⟩ : ∃ n, n = D.length := ⟨_, rfl⟩
  rw [← hn] at hm HR ⊢
  have HN := Lib.hid hn
  have HX := Lib.hid X
  clear X hn hv
  go_enter Try.func41, Try.ntmps41
  go_wp2_with fail
  go_at_call 14
  refine (sdbok_any D lo hi _ _ (HR.out.below (B := w.heap.size) (by go_grown) (by omega)) (by simp; omega)).mono ?_
  rw [HV.out]
  rintro e w1 ⟨rfl, hb1⟩
  have HS : Hid (BRel w w1 (.slice a n c)) := Lib.hid ⟨by rw [(bcell hb1).1 _ _ (by simp)]; exact new_box _ _ _, by have := hb1.size; simp at this; omega, Below.trans (by go_grown) (hb1.mono (by simp))⟩
  have d0 := HS.out.cell
  clear hb1 HR
  go_wp2
  go_loopw [3, 4] (fun s i wr => ∃ (k : Nat) (z : Int), k ≤ n ∧ i = .int .i64 (k : Int) ∧ s = .int .i64 z ∧ Hid (BRel w wr (.slice a n c)) ∧ Hid (z = dsums (D.take k))) (fun _ i _ => n - (intOf i).toNat)
  case atStart => exact ⟨0, 1, Nat.zero_le _, rfl, rfl, HS, rfl⟩
  case round =>
    clear d0 HS
    obtain ⟨k, z, hk, rfl, rfl, hR, HZ⟩ := hrel
    have hzb := dsums_bd (D.take k)
    rw [← HZ.out] at hzb
    have z0 := hzb.1
    have z9 := hzb.2
    clear hzb
    by_cases hlt : k < n
    · skip
      obtain ⟨p, hp⟩ : ∃ p, D[k]? = some p := ⟨_, List.getElem?_eq_getElem (by have := HN.out; omega)⟩
      obtain ⟨G, rfl, g1, g2, _, g4, _⟩ := HX.out.outer (by have := HN.out; omega)
      have hc := (g4 k p hp).below hR.out.below (by omega)
      obtain ⟨i1, i2, i3⟩ := HX.out.inner k p hp
      have R1 := Lib.hid (i1.below hR.out.below (by omega))
      obtain ⟨x1, y1, x2, y2, e1, e2⟩ := i1.slice
      rw [e1, e2] at hc R1
      obtain ⟨nk, hnk⟩ : ∃ q, q = p.K.length := ⟨_, rfl⟩
      obtain ⟨mk, hmk⟩ : ∃ q, q = p.T.length := ⟨_, rfl⟩
      rw [← hnk, ← hmk] at hc R1
      have Hnk := Lib.hid hnk
      have Hmk := Lib.hid hmk
      obtain ⟨d1, d2, d3, d4, d5⟩ := hc
      have d0 := hR.out.cell
      have hsz := hR.out.size
      have hk0 : (0 : Int) ≤ (k : Int) := by omega
      have hk1 : (k : Int) < (n : Int) := by omega
      have hGw : G < wr.heap.size := by omega
      obtain ⟨H0, hH0⟩ : ∃ q, q = (bs k).1 := ⟨_, rfl⟩
      obtain ⟨H1, hH1⟩ : ∃ q, q = (bs k).2 := ⟨_, rfl⟩
      have z1 : H1 ≤ wr.heap.size := by omega
      rw [← hH0, ← hH1] at R1
      have Hp := Lib.hid hp
      clear i1 i2 i3 e1 e2 hH0 hH1 hnk hmk hp
      have hsb := Ls.sum_bd (dokB_get HV.out Hp.out).1
      obtain ⟨y, hy⟩ : ∃ y, y = p.sum := ⟨_, rfl⟩
      rw [← hy] at hsb
      have y0 := hsb.1
      have y1' := hsb.2
      have HY := Lib.hid hy
      have hzs : Hid (dsums (D.take (k + 1)) = (31 * z + y) % 1000003) := Lib.hid (by rw [dsums_snoc Hp.out, HZ.out, HY.out]; rfl)
      clear hsb hy g4
      go_wp2_with fail
      go_at_call 79
      refine (slsum_any p.o p.s p.g _ _ _ _ nk mk _ _ p.K p.T _ Hnk.out.symm Hmk.out.symm R1.out.fst R1.out.snd z1 z1).mono ?_
      rw [show lsum p.o p.s p.g p.K p.T = y from HY.out.symm]
      rintro e w9 ⟨rfl, hb9⟩
      have HE : Hid (BRel w w9 (.slice (some ⟨G, 0, none⟩) n c)) := hR.out.next hb9
      clear hb9
      go_wp2
      go_roundw
      case rel => exact ⟨k + 1, _, by omega, by go_num, rfl, HE, hzs.out.symm⟩
      case measure => simp [intOf]; omega
    · have hge : ¬ ((k : Int) < (n : Int)) := by omega
      have d0 := hR.out.cell
      go_wp2
      go_ret
      exact ⟨ret_int (by rw [HZ.out, show k = D.length by have := HN.out; omega, List.take_length]), hR.out.below⟩

set_option maxRecDepth 100000 in
set_option maxHeartbeats 4000000 in
theorem idsum_no (D : List Ls) (lo hi : Nat) (v : Value) (w : World) (hr : DRow w lo hi v D) (hh : hi ≤ w.heap.size) (hv : dokB D = false) :
    Calls Try.prog 17 #[.agg #[v]] w fun e w' => e = .returned (.int .i64 (-1)) ∧ Below w.heap.size w w' := by
  have HR := Lib.hid hr
  have HV := Lib.hid hv
  obtain ⟨a, c, rfl⟩ := hr.slice
  clear hr hv
  go_enter Try.func17, Try.ntmps17
  go_wp2_with fail
  go_at_call 20
  refine (idbok_any D lo hi _ _ (HR.out.below (B := w.heap.size) (by go_grown) (by omega)) (by simp; omega)).mono ?_
  rw [HV.out]
  rintro e w9 ⟨rfl, hb9⟩
  have HB9 : Hid (Below w.heap.size w w9) := Below.trans (by go_grown) (hb9.mono (by simp))
  clear hb9
  go_wp2
  go_ret
  exact ⟨rfl, HB9.out⟩

set_option maxRecDepth 100000 in
set_option maxHeartbeats 4000000 in
theorem idsum_yes (D : List Ls) (lo hi : Nat) (v : Value) (w : World) (hr : DRow w lo hi v D) (hh : hi ≤ w.heap.size) (hv : dokB D = true) :
    Calls Try.prog 17 #[.agg #[v]] w fun e w' => e = .returned (.int .i64 (dsums D)) ∧ Below w.heap.size w w' := by
  have HR := Lib.hid hr
  have HV := Lib.hid hv
  obtain ⟨a, c, us, xs, bs, rfl, X⟩ := hr
  have hm := X.len
  obtain ⟨n, hn⟩ : ∃ n, n = D.length := ⟨_, rfl⟩
  rw [← hn] at hm HR ⊢
  have HN := Lib.hid hn
  have HX := Lib.hid X
  clear X hn hv
  go_enter Try.func17, Try.ntmps17
  go_wp2_with fail
  go_at_call 20
  refine (idbok_any D lo hi _ _ (HR.out.below (B := w.heap.size) (by go_grown) (by omega)) (by simp; omega)).mono ?_
  rw [HV.out]
  rintro e w1 ⟨rfl, hb1⟩
  have HS : Hid (BRel w w1 (.slice a n c)) := Lib.hid ⟨by rw [(bcell hb1).1 _ _ (by simp)]; exact new_box _ _ _, by have := hb1.size; simp at this; omega, Below.trans (by go_grown) (hb1.mono (by simp))⟩
  have d0 := HS.out.cell
  clear hb1 HR
  go_wp2
  go_loopw [3, 12] (fun s i wr => ∃ (k : Nat) (z : Int), k ≤ n ∧ i = .int .i64 (k : Int) ∧ s = .int .i64 z ∧ Hid (BRel w wr (.slice a n c)) ∧ Hid (z = dsums (D.take k))) (fun _ i _ => n - (intOf i).toNat)
  case atStart => exact ⟨0, 1, Nat.zero_le _, rfl, rfl, HS, rfl⟩
  case round =>
    clear d0 HS
    obtain ⟨k, z, hk, rfl, rfl, hR, HZ⟩ := hrel
    have hzb := dsums_bd (D.take k)
    rw [← HZ.out] at hzb
    have z0 := hzb.1
    have z9 := hzb.2
    clear hzb
    by_cases hlt : k < n
    · skip
      obtain ⟨p, hp⟩ : ∃ p, D[k]? = some p := ⟨_, List.getElem?_eq_getElem (by have := HN.out; omega)⟩
      obtain ⟨G, rfl, g1, g2, _, g4, _⟩ := HX.out.outer (by have := HN.out; omega)
      have hc := (g4 k p hp).below hR.out.below (by omega)
      obtain ⟨i1, i2, i3⟩ := HX.out.inner k p hp
      have R1 := Lib.hid (i1.below hR.out.below (by omega))
      obtain ⟨x1, y1, x2, y2, e1, e2⟩ := i1.slice
      rw [e1, e2] at hc R1
      obtain ⟨nk, hnk⟩ : ∃ q, q = p.K.length := ⟨_, rfl⟩
      obtain ⟨mk, hmk⟩ : ∃ q, q = p.T.length := ⟨_, rfl⟩
      rw [← hnk, ← hmk] at hc R1
      have Hnk := Lib.hid hnk
      have Hmk := Lib.hid hmk
      obtain ⟨d1, d2, d3, d4, d5⟩ := hc
      have d0 := hR.out.cell
      have hsz := hR.out.size
      have hk0 : (0 : Int) ≤ (k : Int) := by omega
      have hk1 : (k : Int) < (n : Int) := by omega
      have hGw : G < wr.heap.size := by omega
      obtain ⟨H0, hH0⟩ : ∃ q, q = (bs k).1 := ⟨_, rfl⟩
      obtain ⟨H1, hH1⟩ : ∃ q, q = (bs k).2 := ⟨_, rfl⟩
      have z1 : H1 ≤ wr.heap.size := by omega
      rw [← hH0, ← hH1] at R1
      have Hp := Lib.hid hp
      clear i1 i2 i3 e1 e2 hH0 hH1 hnk hmk hp
      have hsb := Ls.sum_bd (dokB_get HV.out Hp.out).1
      obtain ⟨y, hy⟩ : ∃ y, y = p.sum := ⟨_, rfl⟩
      rw [← hy] at hsb
      have y0 := hsb.1
      have y1' := hsb.2
      have HY := Lib.hid hy
      have hzs : Hid (dsums (D.take (k + 1)) = (31 * z + y) % 1000003) := Lib.hid (by rw [dsums_snoc Hp.out, HZ.out, HY.out]; rfl)
      clear hsb hy g4
      go_wp2_with fail
      obtain ⟨wb, hwb⟩ : ∃ q, q = wr.alloc (.cells #[.int .i64 p.o, .int .i64 p.s, .int .i64 p.g, .slice x1 nk y1, .slice x2 mk y2] 33) := ⟨_, rfl⟩
      have hbb : Below wr.heap.size wr wb := by rw [hwb]; go_grown
      have HBB := Lib.hid hbb
      rw [← hwb]
      clear hwb
      go_at_call 53
      refine (ilsum_any p.o p.s p.g _ _ _ _ nk mk _ _ p.K p.T _ Hnk.out.symm Hmk.out.symm (R1.out.below HBB.out z1).fst (R1.out.below HBB.out z1).snd (by have := HBB.out.size; omega) (by have := HBB.out.size; omega)).mono ?_
      rw [show lsum p.o p.s p.g p.K p.T = y from HY.out.symm]
      rintro e w9 ⟨rfl, hb9⟩
      have HE : Hid (BRel w w9 (.slice (some ⟨G, 0, none⟩) n c)) := hR.out.next (HBB.out.trans (hb9.mono HBB.out.size))
      clear hb9
      go_wp2
      go_roundw
      case rel => exact ⟨k + 1, _, by omega, by go_num, rfl, HE, hzs.out.symm⟩
      case measure => simp [intOf]; omega
    · have hge : ¬ ((k : Int) < (n : Int)) := by omega
      have d0 := hR.out.cell
      go_wp2
      go_ret
      exact ⟨ret_int (by rw [HZ.out, show k = D.length by have := HN.out; omega, List.take_length]), hR.out.below⟩

theorem sdsum_any (D : List Ls) (lo hi : Nat) (v : Value) (w : World) (hr : DRow w lo hi v D) (hh : hi ≤ w.heap.size) :
    Calls Try.prog 41 #[.agg #[v]] w fun e w' => e = .returned (.int .i64 (dsumB D)) ∧ Below w.heap.size w w' := by
  unfold dsumB
  cases hv : dokB D
  · rw [if_neg (by decide)]; exact sdsum_no D lo hi v w hr hh hv
  · rw [if_pos rfl]; exact sdsum_yes D lo hi v w hr hh hv

theorem idsum_any (D : List Ls) (lo hi : Nat) (v : Value) (w : World) (hr : DRow w lo hi v D) (hh : hi ≤ w.heap.size) :
    Calls Try.prog 17 #[.agg #[v]] w fun e w' => e = .returned (.int .i64 (dsumB D)) ∧ Below w.heap.size w w' := by
  unfold dsumB
  cases hv : dokB D
  · rw [if_neg (by decide)]; exact idsum_no D lo hi v w hr hh hv
  · rw [if_pos rfl]; exact idsum_yes D lo hi v w hr hh hv

end Go.Proofs.Ytfpafjdakipccaa
