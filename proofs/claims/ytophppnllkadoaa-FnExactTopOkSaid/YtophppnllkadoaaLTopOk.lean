/- The law of TopOk over contracts. -/
import Derived.Test.YtophppnllkadoaaL0
namespace Go.Proofs.Ytophppnllkadoaa
open Go.RowKit


set_option maxRecDepth 100000 in
set_option maxHeartbeats 8000000 in
theorem lawExactTopOk_fit (s0 : Value) (n0 : Nat) (Z0 : Nat → Int) (w : World) (hA0 : Arg 3 w s0 n0 Z0) (hn : n0 ≤ 1048576) (b0 : Bool)
    (hs : ∀ (lo0 hi0 : Nat) (v0 : Value) (w : World), Row 3 w lo0 hi0 v0 n0 (zs Z0 n0 3) → hi0 ≤ w.heap.size → Calls Try.prog 25 #[.agg #[v0]] w fun e w' => e = .returned (.bool b0) ∧ Below w.heap.size w w')
    (hi : ∀ (lo0 hi0 : Nat) (v0 : Value) (w : World), Row 3 w lo0 hi0 v0 n0 (zs Z0 n0 3) → hi0 ≤ w.heap.size → Calls Try.prog 42 #[.agg #[v0]] w fun e w' => e = .returned (.bool b0) ∧ Below w.heap.size w w') :
    Calls Try.prog 11 #[.agg #[s0]] w fun e w' => e = .returned (.bool true) ∧ Below w.heap.size w w' := by
  have hx0 := hA0.2.1
  have HA0 := Lib.hid hA0
  obtain ⟨ad0, cp0, rfl⟩ := hA0.slice
  clear hA0
  have Hs := Lib.hid hs
  have Hi := Lib.hid hi
  clear hs hi
  have H0 := fun w => szTop_any ad0 n0 cp0 (1048576) w hx0 (by omega) (by omega)
  have hneg0 : ¬ ((1048576 : Int) - (n0 : Int) < 0) := by omega
  simp only [if_neg hneg0] at H0
  go_enter Try.func11, Try.ntmps11
  go_wp2_with fail
  go_at_call 40
  refine (H0 _).mono ?_
  rintro e w1 ⟨rfl, hb1⟩
  have sz1 : w.heap.size + 1 ≤ w1.heap.size := by have hh := hb1.size; simp at hh; omega
  have st1 : Below w.heap.size w w1 := Below.trans (by go_grown) (hb1.mono (by simp))
  have c1_0_0 : w1.cell? ⟨w.heap.size, 0, none⟩ = some (.slice ad0 n0 cp0) := by rw [(bcell hb1).1 _ _ (by simp)]; simp
  have B1 : Hid (Below w.heap.size w w1) := st1
  have d1_0 : w.heap.size < w1.heap.size := by omega
  have e1_0 : w.heap.size ≠ w1.heap.size := by omega
  clear st1 hb1
  go_wp2_with fail
  go_at_call 41
  refine (toTop_any _ n0 Z0 _ (HA0.out.below B1.out) (by omega)).mono ?_
  rintro e w2 ⟨xs0, rfl, hr, hb2⟩
  have sz2 : w1.heap.size ≤ w2.heap.size := hb2.size
  have st2 : Below w1.heap.size w1 w2 := hb2
  have c2_0_0 : w2.cell? ⟨w.heap.size, 0, none⟩ = some (.slice ad0 n0 cp0) := by rw [(bcell st2).1 _ _ (by omega)]; exact c1_0_0
  have B2 : Hid (Below w.heap.size w w2) := B1.out.trans (st2.mono (by omega))
  have R2_s0 : Hid (Row 3 w2 (w1.heap.size) (w2.heap.size) xs0 n0 (zs Z0 n0 3)) := hr
  have d2_0 : w.heap.size < w2.heap.size := by omega
  have e2_0 : w.heap.size ≠ w2.heap.size := by omega
  clear d1_0 e1_0 c1_0_0 B1 st2 hr hb2
  go_wp2_with fail
  go_at_call 25
  refine (Hs.out _ _ xs0 _ R2_s0.out (by first | omega | (simp; omega) | simp)).mono ?_
  rintro e w3 ⟨rfl, hb3⟩
  have sz3 : w2.heap.size ≤ w3.heap.size := hb3.size
  have st3 : Below w2.heap.size w2 w3 := hb3
  have c3_0_0 : w3.cell? ⟨w.heap.size, 0, none⟩ = some (.slice ad0 n0 cp0) := by rw [(bcell st3).1 _ _ (by omega)]; exact c2_0_0
  have B3 : Hid (Below w.heap.size w w3) := B2.out.trans (st3.mono (by omega))
  have R3_s0 : Hid (Row 3 w3 (w1.heap.size) (w2.heap.size) xs0 n0 (zs Z0 n0 3)) := R2_s0.out.below st3 (by omega)
  have d3_0 : w.heap.size < w3.heap.size := by omega
  have e3_0 : w.heap.size ≠ w3.heap.size := by omega
  clear d2_0 e2_0 c2_0_0 R2_s0 B2 st3 hb3
  go_wp2_with fail
  go_at_call 41
  refine (toTop_any _ n0 Z0 _ (HA0.out.below B3.out) (by omega)).mono ?_
  rintro e w4 ⟨xx0, rfl, hr, hb4⟩
  have sz4 : w3.heap.size ≤ w4.heap.size := hb4.size
  have st4 : Below w3.heap.size w3 w4 := hb4
  have c4_0_0 : w4.cell? ⟨w.heap.size, 0, none⟩ = some (.slice ad0 n0 cp0) := by rw [(bcell st4).1 _ _ (by omega)]; exact c3_0_0
  have B4 : Hid (Below w.heap.size w w4) := B3.out.trans (st4.mono (by omega))
  have R4_x0 : Hid (Row 3 w4 (w3.heap.size) (w4.heap.size) xx0 n0 (zs Z0 n0 3)) := hr
  have d4_0 : w.heap.size < w4.heap.size := by omega
  have e4_0 : w.heap.size ≠ w4.heap.size := by omega
  clear d3_0 e3_0 c3_0_0 B3 st4 hr hb4
  obtain ⟨xx0a, xx0c, rfl⟩ := R4_x0.out.slice
  go_wp2_with fail
  go_at_call 42
  refine (Hi.out _ _ (.slice xx0a n0 xx0c) _ (R4_x0.out.below (B := w4.heap.size) (by go_grown) (by omega)) (by first | omega | (simp; omega) | simp)).mono ?_
  rintro e w5 ⟨rfl, hb5⟩
  have sz5 : w4.heap.size + 1 ≤ w5.heap.size := by have hh := hb5.size; simp at hh; omega
  have st5 : Below w4.heap.size w4 w5 := Below.trans (by go_grown) (hb5.mono (by simp))
  have c5_0_0 : w5.cell? ⟨w.heap.size, 0, none⟩ = some (.slice ad0 n0 cp0) := by rw [(bcell st5).1 _ _ (by omega)]; exact c4_0_0
  have c5_1_0 : w5.cell? ⟨w4.heap.size, 0, none⟩ = some ((.slice xx0a n0 xx0c)) := by rw [(bcell hb5).1 _ _ (by simp)]; simp
  have B5 : Hid (Below w.heap.size w w5) := B4.out.trans (st5.mono (by omega))
  have R5_x0 : Hid (Row 3 w5 (w3.heap.size) (w4.heap.size) (.slice xx0a n0 xx0c) n0 (zs Z0 n0 3)) := R4_x0.out.below st5 (by omega)
  have d5_0 : w.heap.size < w5.heap.size := by omega
  have e5_0 : w.heap.size ≠ w5.heap.size := by omega
  have d5_1 : w4.heap.size < w5.heap.size := by omega
  have e5_1 : w4.heap.size ≠ w5.heap.size := by omega
  clear d4_0 e4_0 c4_0_0 R4_x0 B4 st5 hb5
  go_wp2_with fail
  go_region_held3 (fun w' => w'.cell? ⟨w.heap.size, 0, none⟩ = some (.slice ad0 n0 cp0) ∧ w'.cell? ⟨w4.heap.size, 0, none⟩ = some ((.slice xx0a n0 xx0c)) ∧ w5.heap.size ≤ w'.heap.size ∧ Below w5.heap.size w5 w') (first | assumption | exact rr2_start c5_0_0 c5_1_0 | exact rr2_drew (by assumption) | exact rr2_keep (by omega) (by omega) (by assumption) (by assumption))
    (first | (go_at_call 41; refine (toTop_any _ n0 Z0 _ (HA0.out.below (B5.out.trans ((rr2_out (by assumption)).2.mono (by omega)))) (by omega)).mono ?_; rintro e w6 ⟨y0, rfl, ry0, hb⟩; have hz6 := hb.size) | (go_at_call 43; refine (eqTop_same (zs Z0 n0 3) n0 _ _ _ _ _ _ _ (R5_x0.out.below (rr2_out (by assumption)).2 (by omega)) ry0 (by have hq := rr2_out (by assumption); omega) (Nat.le_refl _)).mono ?_; rintro e w7 ⟨rfl, hb⟩))
  have hb7 : Below w5.heap.size w5 w7 := (rr2_out (by assumption)).2
  have sz7 : w5.heap.size ≤ w7.heap.size := hb7.size
  have st7 : Below w5.heap.size w5 w7 := hb7
  have c7_0_0 : w7.cell? ⟨w.heap.size, 0, none⟩ = some (.slice ad0 n0 cp0) := by rw [(bcell st7).1 _ _ (by omega)]; exact c5_0_0
  have c7_1_0 : w7.cell? ⟨w4.heap.size, 0, none⟩ = some ((.slice xx0a n0 xx0c)) := by rw [(bcell st7).1 _ _ (by omega)]; exact c5_1_0
  have B7 : Hid (Below w.heap.size w w7) := B5.out.trans (st7.mono (by omega))
  have R7_x0 : Hid (Row 3 w7 (w3.heap.size) (w4.heap.size) (.slice xx0a n0 xx0c) n0 (zs Z0 n0 3)) := R5_x0.out.below st7 (by omega)
  have d7_0 : w.heap.size < w7.heap.size := by omega
  have e7_0 : w.heap.size ≠ w7.heap.size := by omega
  have d7_1 : w4.heap.size < w7.heap.size := by omega
  have e7_1 : w4.heap.size ≠ w7.heap.size := by omega
  clear d5_0 e5_0 d5_1 e5_1 c5_0_0 c5_1_0 R5_x0 B5 st7 hb7
  go_wp2_with fail
  go_ret
  exact ⟨rfl, B7.out⟩

set_option maxHeartbeats 2000000 in
theorem lawExactTopOk_big0 (s0 : Value) (n0 : Nat) (Z0 : Nat → Int) (w : World) (hA0 : Arg 3 w s0 n0 Z0) (hn : 1048576 < n0) :
    Calls Try.prog 11 #[.agg #[s0]] w fun e w' => e = .returned (.bool true) ∧ Below w.heap.size w w' := by
  have hx0 := hA0.2.1
  obtain ⟨ad0, cp0, rfl⟩ := hA0.slice
  clear hA0
  have H0 := fun w => szTop_any ad0 n0 cp0 (1048576) w hx0 (by omega) (by omega)
  have hneg0 : ((1048576 : Int) - (n0 : Int) < 0) := by omega
  simp only [if_pos hneg0] at H0
  clear hneg0
  go_enter Try.func11, Try.ntmps11
  go_wp2_with fail
  go_at_call 40
  refine (H0 _).mono ?_
  rintro e w1 ⟨rfl, hb1⟩
  have sz1 : w.heap.size + 1 ≤ w1.heap.size := by have hh := hb1.size; simp at hh; omega
  have st1 : Below w.heap.size w w1 := Below.trans (by go_grown) (hb1.mono (by simp))
  have c1_0_0 : w1.cell? ⟨w.heap.size, 0, none⟩ = some (.slice ad0 n0 cp0) := by rw [(bcell hb1).1 _ _ (by simp)]; simp
  have B1 : Hid (Below w.heap.size w w1) := st1
  have d1_0 : w.heap.size < w1.heap.size := by omega
  have e1_0 : w.heap.size ≠ w1.heap.size := by omega
  clear st1 hb1
  go_wp2_with fail
  go_ret
  exact ⟨rfl, B1.out⟩

end Go.Proofs.Ytophppnllkadoaa
