/- The law of WayCost over contracts. -/
import Derived.Test.YtflhbfndfjkfgaaQL0
import Derived.Test.YtflhbfndfjkfgaaQGi
namespace Go.Proofs.Ytflhbfndfjkfgaa
open Go.RowKit


set_option maxRecDepth 100000 in
set_option maxHeartbeats 8000000 in
theorem lawExactWayCost_fit (x0 : Int) (s0 : Value) (n0 : Nat) (Z0 : Nat → Int) (s1 : Value) (n1 : Nat) (Z1 : Nat → Int) (w : World) (hA0 : Arg 3 w s0 n0 Z0) (hA1 : Arg 1 w s1 n1 Z1) (hn : n0 ≤ 1048576) (hn1 : n1 ≤ 1048576) (r0 : Int)
    (hs : ∀ (lo0 hi0 : Nat) (v0 : Value) (lo1 hi1 : Nat) (v1 : Value) (w : World), Row 3 w lo0 hi0 v0 n0 (zs Z0 n0 3) → hi0 ≤ w.heap.size → Row 1 w lo1 hi1 v1 n1 (zs Z1 n1 1) → hi1 ≤ w.heap.size → Calls Try.prog 18 #[.agg #[.int .i64 x0, v0], v1] w fun e w' => e = .returned (.int .i64 r0) ∧ Below w.heap.size w w')
    (hi : ∀ (lo0 hi0 : Nat) (v0 : Value) (lo1 hi1 : Nat) (v1 : Value) (w : World), Row 3 w lo0 hi0 v0 n0 (zs Z0 n0 3) → hi0 ≤ w.heap.size → Row 1 w lo1 hi1 v1 n1 (zs Z1 n1 1) → hi1 ≤ w.heap.size → Calls Try.prog 21 #[.agg #[.int .i64 x0, v0], v1] w fun e w' => e = .returned (.int .i64 r0) ∧ Below w.heap.size w w') :
    Calls Try.prog 4 #[.agg #[.int .i64 x0, s0], s1] w fun e w' => e = .returned (.bool true) ∧ Below w.heap.size w w' := by
  have hx0 := hA0.2.1
  have HA0 := Lib.hid hA0
  obtain ⟨ad0, cp0, rfl⟩ := hA0.slice
  clear hA0
  have hx1 := hA1.2.1
  have HA1 := Lib.hid hA1
  obtain ⟨ad1, cp1, rfl⟩ := hA1.slice
  clear hA1
  have Hs := Lib.hid hs
  have Hi := Lib.hid hi
  clear hs hi
  have H0 := fun w => szGraph_any x0 ad0 n0 cp0 (1048576) w hx0 (by omega) (by omega)
  have hneg0 : ¬ ((1048576 : Int) - (n0 : Int) < 0) := by omega
  simp only [if_neg hneg0] at H0
  have hb1 : decide ((1048576 : Int) < (n1 : Int)) = false := decide_eq_false (by omega)
  have hb2 : decide (1048576 < n1) = false := decide_eq_false (by omega)
  go_enter Try.func4, Try.ntmps4
  go_wp2_with fail
  go_at_call 17
  refine (H0 _).mono ?_
  rintro e w1 ⟨rfl, hb1⟩
  have sz1 : w.heap.size + 1 ≤ w1.heap.size := by have hh := hb1.size; simp at hh; omega
  have st1 : Below w.heap.size w w1 := Below.trans (by go_grown) (hb1.mono (by simp))
  have c1_0_0 : w1.cell? ⟨w.heap.size, 0, none⟩ = some (.int .i64 x0) := by rw [(bcell hb1).1 _ _ (by simp)]; simp
  have c1_0_1 : w1.cell? ⟨w.heap.size, 1, none⟩ = some (.slice ad0 n0 cp0) := by rw [(bcell hb1).1 _ _ (by simp)]; simp
  have B1 : Hid (Below w.heap.size w w1) := st1
  have d1_0 : w.heap.size < w1.heap.size := by omega
  have e1_0 : w.heap.size ≠ w1.heap.size := by omega
  clear st1 hb1
  go_wp2_with fail
  go_at_call 19
  refine (toGraph_any x0 _ n0 Z0 _ (HA0.out.below B1.out) (by omega)).mono ?_
  rintro e w2 ⟨xs0, rfl, hr, hb2⟩
  have sz2 : w1.heap.size ≤ w2.heap.size := hb2.size
  have st2 : Below w1.heap.size w1 w2 := hb2
  have c2_0_0 : w2.cell? ⟨w.heap.size, 0, none⟩ = some (.int .i64 x0) := by rw [(bcell st2).1 _ _ (by omega)]; exact c1_0_0
  have c2_0_1 : w2.cell? ⟨w.heap.size, 1, none⟩ = some (.slice ad0 n0 cp0) := by rw [(bcell st2).1 _ _ (by omega)]; exact c1_0_1
  have B2 : Hid (Below w.heap.size w w2) := B1.out.trans (st2.mono (by omega))
  have R2_s0 : Hid (Row 3 w2 (w1.heap.size) (w2.heap.size) xs0 n0 (zs Z0 n0 3)) := hr
  have d2_0 : w.heap.size < w2.heap.size := by omega
  have e2_0 : w.heap.size ≠ w2.heap.size := by omega
  clear d1_0 e1_0 c1_0_0 c1_0_1 B1 st2 hr hb2
  go_wp2_with fail
  go_at_call 20
  refine (toIntS_any _ n1 Z1 _ (HA1.out.below B2.out) (by omega)).mono ?_
  rintro e w3 ⟨xs1, rfl, hr, hb3⟩
  have sz3 : w2.heap.size ≤ w3.heap.size := hb3.size
  have st3 : Below w2.heap.size w2 w3 := hb3
  have c3_0_0 : w3.cell? ⟨w.heap.size, 0, none⟩ = some (.int .i64 x0) := by rw [(bcell st3).1 _ _ (by omega)]; exact c2_0_0
  have c3_0_1 : w3.cell? ⟨w.heap.size, 1, none⟩ = some (.slice ad0 n0 cp0) := by rw [(bcell st3).1 _ _ (by omega)]; exact c2_0_1
  have B3 : Hid (Below w.heap.size w w3) := B2.out.trans (st3.mono (by omega))
  have R3_s0 : Hid (Row 3 w3 (w1.heap.size) (w2.heap.size) xs0 n0 (zs Z0 n0 3)) := R2_s0.out.below st3 (by omega)
  have R3_s1 : Hid (Row 1 w3 (w2.heap.size) (w3.heap.size) xs1 n1 (zs Z1 n1 1)) := hr
  have d3_0 : w.heap.size < w3.heap.size := by omega
  have e3_0 : w.heap.size ≠ w3.heap.size := by omega
  clear d2_0 e2_0 c2_0_0 c2_0_1 R2_s0 B2 st3 hr hb3
  go_wp2_with fail
  go_at_call 18
  refine (Hs.out _ _ xs0 _ _ xs1 _ R3_s0.out (by first | omega | (simp; omega) | simp) R3_s1.out (by first | omega | (simp; omega) | simp)).mono ?_
  rintro e w4 ⟨rfl, hb4⟩
  have sz4 : w3.heap.size ≤ w4.heap.size := hb4.size
  have st4 : Below w3.heap.size w3 w4 := hb4
  have c4_0_0 : w4.cell? ⟨w.heap.size, 0, none⟩ = some (.int .i64 x0) := by rw [(bcell st4).1 _ _ (by omega)]; exact c3_0_0
  have c4_0_1 : w4.cell? ⟨w.heap.size, 1, none⟩ = some (.slice ad0 n0 cp0) := by rw [(bcell st4).1 _ _ (by omega)]; exact c3_0_1
  have B4 : Hid (Below w.heap.size w w4) := B3.out.trans (st4.mono (by omega))
  have R4_s0 : Hid (Row 3 w4 (w1.heap.size) (w2.heap.size) xs0 n0 (zs Z0 n0 3)) := R3_s0.out.below st4 (by omega)
  have R4_s1 : Hid (Row 1 w4 (w2.heap.size) (w3.heap.size) xs1 n1 (zs Z1 n1 1)) := R3_s1.out.below st4 (by omega)
  have d4_0 : w.heap.size < w4.heap.size := by omega
  have e4_0 : w.heap.size ≠ w4.heap.size := by omega
  clear d3_0 e3_0 c3_0_0 c3_0_1 R3_s0 R3_s1 B3 st4 hb4
  go_wp2_with fail
  go_at_call 19
  refine (toGraph_any x0 _ n0 Z0 _ (HA0.out.below B4.out) (by omega)).mono ?_
  rintro e w5 ⟨xx0, rfl, hr, hb5⟩
  have sz5 : w4.heap.size ≤ w5.heap.size := hb5.size
  have st5 : Below w4.heap.size w4 w5 := hb5
  have c5_0_0 : w5.cell? ⟨w.heap.size, 0, none⟩ = some (.int .i64 x0) := by rw [(bcell st5).1 _ _ (by omega)]; exact c4_0_0
  have c5_0_1 : w5.cell? ⟨w.heap.size, 1, none⟩ = some (.slice ad0 n0 cp0) := by rw [(bcell st5).1 _ _ (by omega)]; exact c4_0_1
  have B5 : Hid (Below w.heap.size w w5) := B4.out.trans (st5.mono (by omega))
  have R5_x0 : Hid (Row 3 w5 (w4.heap.size) (w5.heap.size) xx0 n0 (zs Z0 n0 3)) := hr
  have d5_0 : w.heap.size < w5.heap.size := by omega
  have e5_0 : w.heap.size ≠ w5.heap.size := by omega
  clear d4_0 e4_0 c4_0_0 c4_0_1 B4 st5 hr hb5
  obtain ⟨xx0a, xx0c, rfl⟩ := R5_x0.out.slice
  go_wp2_with fail
  go_at_call 20
  refine (toIntS_any _ n1 Z1 _ (HA1.out.below (Below.trans B5.out (by go_grown))) (by omega)).mono ?_
  rintro e w6 ⟨xx1, rfl, hr, hb6⟩
  have sz6 : w5.heap.size + 1 ≤ w6.heap.size := by have hh := hb6.size; simp at hh; omega
  have st6 : Below w5.heap.size w5 w6 := Below.trans (by go_grown) (hb6.mono (by simp))
  have c6_0_0 : w6.cell? ⟨w.heap.size, 0, none⟩ = some (.int .i64 x0) := by rw [(bcell st6).1 _ _ (by omega)]; exact c5_0_0
  have c6_0_1 : w6.cell? ⟨w.heap.size, 1, none⟩ = some (.slice ad0 n0 cp0) := by rw [(bcell st6).1 _ _ (by omega)]; exact c5_0_1
  have c6_1_0 : w6.cell? ⟨w5.heap.size, 0, none⟩ = some (.int .i64 x0) := by rw [(bcell hb6).1 _ _ (by simp)]; simp
  have c6_1_1 : w6.cell? ⟨w5.heap.size, 1, none⟩ = some ((.slice xx0a n0 xx0c)) := by rw [(bcell hb6).1 _ _ (by simp)]; simp
  have B6 : Hid (Below w.heap.size w w6) := B5.out.trans (st6.mono (by omega))
  have R6_x0 : Hid (Row 3 w6 (w4.heap.size) (w5.heap.size) (.slice xx0a n0 xx0c) n0 (zs Z0 n0 3)) := R5_x0.out.below st6 (by omega)
  have R6_x1 : Hid (Row 1 w6 (w5.heap.size + 1) (w6.heap.size) xx1 n1 (zs Z1 n1 1)) := hr.wide (by simp) (Nat.le_refl _)
  have d6_0 : w.heap.size < w6.heap.size := by omega
  have e6_0 : w.heap.size ≠ w6.heap.size := by omega
  have d6_1 : w5.heap.size < w6.heap.size := by omega
  have e6_1 : w5.heap.size ≠ w6.heap.size := by omega
  clear d5_0 e5_0 c5_0_0 c5_0_1 R5_x0 B5 st6 hb6
  obtain ⟨xx1a, xx1c, rfl⟩ := R6_x1.out.slice
  go_wp2_with fail
  go_at_call 21
  refine (Hi.out _ _ (.slice xx0a n0 xx0c) _ _ (.slice xx1a n1 xx1c) _ R6_x0.out (by first | omega | (simp; omega) | simp) R6_x1.out (by first | omega | (simp; omega) | simp)).mono ?_
  rintro e w7 ⟨rfl, hb7⟩
  have sz7 : w6.heap.size ≤ w7.heap.size := hb7.size
  have st7 : Below w6.heap.size w6 w7 := hb7
  have c7_0_0 : w7.cell? ⟨w.heap.size, 0, none⟩ = some (.int .i64 x0) := by rw [(bcell st7).1 _ _ (by omega)]; exact c6_0_0
  have c7_0_1 : w7.cell? ⟨w.heap.size, 1, none⟩ = some (.slice ad0 n0 cp0) := by rw [(bcell st7).1 _ _ (by omega)]; exact c6_0_1
  have c7_1_0 : w7.cell? ⟨w5.heap.size, 0, none⟩ = some (.int .i64 x0) := by rw [(bcell st7).1 _ _ (by omega)]; exact c6_1_0
  have c7_1_1 : w7.cell? ⟨w5.heap.size, 1, none⟩ = some ((.slice xx0a n0 xx0c)) := by rw [(bcell st7).1 _ _ (by omega)]; exact c6_1_1
  have B7 : Hid (Below w.heap.size w w7) := B6.out.trans (st7.mono (by omega))
  have R7_x0 : Hid (Row 3 w7 (w4.heap.size) (w5.heap.size) (.slice xx0a n0 xx0c) n0 (zs Z0 n0 3)) := R6_x0.out.below st7 (by omega)
  have R7_x1 : Hid (Row 1 w7 (w5.heap.size + 1) (w6.heap.size) (.slice xx1a n1 xx1c) n1 (zs Z1 n1 1)) := R6_x1.out.below st7 (by omega)
  have d7_0 : w.heap.size < w7.heap.size := by omega
  have e7_0 : w.heap.size ≠ w7.heap.size := by omega
  have d7_1 : w5.heap.size < w7.heap.size := by omega
  have e7_1 : w5.heap.size ≠ w7.heap.size := by omega
  clear d6_0 e6_0 d6_1 e6_1 c6_0_0 c6_0_1 c6_1_0 c6_1_1 R6_x0 R6_x1 B6 st7 hb7
  go_wp2_with fail
  go_region_held3 (fun w' => w'.cell? ⟨w.heap.size, 0, none⟩ = some (.int .i64 x0) ∧ w'.cell? ⟨w.heap.size, 1, none⟩ = some (.slice ad0 n0 cp0) ∧ w'.cell? ⟨w5.heap.size, 0, none⟩ = some (.int .i64 x0) ∧ w'.cell? ⟨w5.heap.size, 1, none⟩ = some ((.slice xx0a n0 xx0c)) ∧ w7.heap.size ≤ w'.heap.size ∧ Below w7.heap.size w7 w') (first | assumption | exact rr4_start c7_0_0 c7_0_1 c7_1_0 c7_1_1 | exact rr4_drew (by assumption) | exact rr4_keep (by omega) (by omega) (by omega) (by omega) (by assumption) (by assumption))
    (first | (go_at_call 19; refine (toGraph_any x0 _ n0 Z0 _ (HA0.out.below (B7.out.trans ((rr4_out (by assumption)).2.mono (by omega)))) (by omega)).mono ?_; rintro e w8 ⟨y0, rfl, ry0, hb⟩; have hz8 := hb.size) | (go_at_call 22; refine (eqGraph_same x0 (zs Z0 n0 3) n0 _ _ _ _ _ _ _ (R7_x0.out.below (rr4_out (by assumption)).2 (by omega)) ry0 (by have hq := rr4_out (by assumption); omega) (Nat.le_refl _)).mono ?_; rintro e w9 ⟨rfl, hb⟩))
  have hb9 : Below w7.heap.size w7 w9 := (rr4_out (by assumption)).2
  have sz9 : w7.heap.size ≤ w9.heap.size := hb9.size
  have st9 : Below w7.heap.size w7 w9 := hb9
  have c9_0_0 : w9.cell? ⟨w.heap.size, 0, none⟩ = some (.int .i64 x0) := by rw [(bcell st9).1 _ _ (by omega)]; exact c7_0_0
  have c9_0_1 : w9.cell? ⟨w.heap.size, 1, none⟩ = some (.slice ad0 n0 cp0) := by rw [(bcell st9).1 _ _ (by omega)]; exact c7_0_1
  have c9_1_0 : w9.cell? ⟨w5.heap.size, 0, none⟩ = some (.int .i64 x0) := by rw [(bcell st9).1 _ _ (by omega)]; exact c7_1_0
  have c9_1_1 : w9.cell? ⟨w5.heap.size, 1, none⟩ = some ((.slice xx0a n0 xx0c)) := by rw [(bcell st9).1 _ _ (by omega)]; exact c7_1_1
  have B9 : Hid (Below w.heap.size w w9) := B7.out.trans (st9.mono (by omega))
  have R9_x0 : Hid (Row 3 w9 (w4.heap.size) (w5.heap.size) (.slice xx0a n0 xx0c) n0 (zs Z0 n0 3)) := R7_x0.out.below st9 (by omega)
  have R9_x1 : Hid (Row 1 w9 (w5.heap.size + 1) (w6.heap.size) (.slice xx1a n1 xx1c) n1 (zs Z1 n1 1)) := R7_x1.out.below st9 (by omega)
  have d9_0 : w.heap.size < w9.heap.size := by omega
  have e9_0 : w.heap.size ≠ w9.heap.size := by omega
  have d9_1 : w5.heap.size < w9.heap.size := by omega
  have e9_1 : w5.heap.size ≠ w9.heap.size := by omega
  clear d7_0 e7_0 d7_1 e7_1 c7_0_0 c7_0_1 c7_1_0 c7_1_1 R7_x0 R7_x1 B7 st9 hb9
  go_wp2_with fail
  go_at_call 20
  refine (toIntS_any _ n1 Z1 _ (HA1.out.below B9.out) (by omega)).mono ?_
  rintro e w10 ⟨xy1, rfl, hr, hb10⟩
  have sz10 : w9.heap.size ≤ w10.heap.size := hb10.size
  have st10 : Below w9.heap.size w9 w10 := hb10
  have c10_0_0 : w10.cell? ⟨w.heap.size, 0, none⟩ = some (.int .i64 x0) := by rw [(bcell st10).1 _ _ (by omega)]; exact c9_0_0
  have c10_0_1 : w10.cell? ⟨w.heap.size, 1, none⟩ = some (.slice ad0 n0 cp0) := by rw [(bcell st10).1 _ _ (by omega)]; exact c9_0_1
  have c10_1_0 : w10.cell? ⟨w5.heap.size, 0, none⟩ = some (.int .i64 x0) := by rw [(bcell st10).1 _ _ (by omega)]; exact c9_1_0
  have c10_1_1 : w10.cell? ⟨w5.heap.size, 1, none⟩ = some ((.slice xx0a n0 xx0c)) := by rw [(bcell st10).1 _ _ (by omega)]; exact c9_1_1
  have B10 : Hid (Below w.heap.size w w10) := B9.out.trans (st10.mono (by omega))
  have R10_x0 : Hid (Row 3 w10 (w4.heap.size) (w5.heap.size) (.slice xx0a n0 xx0c) n0 (zs Z0 n0 3)) := R9_x0.out.below st10 (by omega)
  have R10_x1 : Hid (Row 1 w10 (w5.heap.size + 1) (w6.heap.size) (.slice xx1a n1 xx1c) n1 (zs Z1 n1 1)) := R9_x1.out.below st10 (by omega)
  have R10_y1 : Hid (Row 1 w10 (w9.heap.size) (w10.heap.size) xy1 n1 (zs Z1 n1 1)) := hr
  have d10_0 : w.heap.size < w10.heap.size := by omega
  have e10_0 : w.heap.size ≠ w10.heap.size := by omega
  have d10_1 : w5.heap.size < w10.heap.size := by omega
  have e10_1 : w5.heap.size ≠ w10.heap.size := by omega
  clear d9_0 e9_0 d9_1 e9_1 c9_0_0 c9_0_1 c9_1_0 c9_1_1 R9_x0 R9_x1 B9 st10 hr hb10
  go_wp2_with fail
  go_at_call 12
  refine (eqIntS_same (zs Z1 n1 1) n1 _ _ _ _ _ _ _ R10_x1.out R10_y1.out (by omega) (by omega)).mono ?_
  rintro e w11 ⟨rfl, hb11⟩
  have sz11 : w10.heap.size ≤ w11.heap.size := hb11.size
  have st11 : Below w10.heap.size w10 w11 := hb11
  have c11_0_0 : w11.cell? ⟨w.heap.size, 0, none⟩ = some (.int .i64 x0) := by rw [(bcell st11).1 _ _ (by omega)]; exact c10_0_0
  have c11_0_1 : w11.cell? ⟨w.heap.size, 1, none⟩ = some (.slice ad0 n0 cp0) := by rw [(bcell st11).1 _ _ (by omega)]; exact c10_0_1
  have c11_1_0 : w11.cell? ⟨w5.heap.size, 0, none⟩ = some (.int .i64 x0) := by rw [(bcell st11).1 _ _ (by omega)]; exact c10_1_0
  have c11_1_1 : w11.cell? ⟨w5.heap.size, 1, none⟩ = some ((.slice xx0a n0 xx0c)) := by rw [(bcell st11).1 _ _ (by omega)]; exact c10_1_1
  have B11 : Hid (Below w.heap.size w w11) := B10.out.trans (st11.mono (by omega))
  have R11_x0 : Hid (Row 3 w11 (w4.heap.size) (w5.heap.size) (.slice xx0a n0 xx0c) n0 (zs Z0 n0 3)) := R10_x0.out.below st11 (by omega)
  have R11_x1 : Hid (Row 1 w11 (w5.heap.size + 1) (w6.heap.size) (.slice xx1a n1 xx1c) n1 (zs Z1 n1 1)) := R10_x1.out.below st11 (by omega)
  have R11_y1 : Hid (Row 1 w11 (w9.heap.size) (w10.heap.size) xy1 n1 (zs Z1 n1 1)) := R10_y1.out.below st11 (by omega)
  have d11_0 : w.heap.size < w11.heap.size := by omega
  have e11_0 : w.heap.size ≠ w11.heap.size := by omega
  have d11_1 : w5.heap.size < w11.heap.size := by omega
  have e11_1 : w5.heap.size ≠ w11.heap.size := by omega
  clear d10_0 e10_0 d10_1 e10_1 c10_0_0 c10_0_1 c10_1_0 c10_1_1 R10_x0 R10_x1 R10_y1 B10 st11 hb11
  go_wp2_with fail
  go_ret
  exact ⟨rfl, B11.out⟩

set_option maxHeartbeats 2000000 in
theorem lawExactWayCost_big0 (x0 : Int) (s0 : Value) (n0 : Nat) (Z0 : Nat → Int) (s1 : Value) (n1 : Nat) (Z1 : Nat → Int) (w : World) (hA0 : Arg 3 w s0 n0 Z0) (hA1 : Arg 1 w s1 n1 Z1) (hn1 : n1 ≤ 1048576) (hn : 1048576 < n0) :
    Calls Try.prog 4 #[.agg #[.int .i64 x0, s0], s1] w fun e w' => e = .returned (.bool true) ∧ Below w.heap.size w w' := by
  have hx0 := hA0.2.1
  obtain ⟨ad0, cp0, rfl⟩ := hA0.slice
  obtain ⟨ad1, cp1, rfl⟩ := hA1.slice
  clear hA0 hA1
  have H0 := fun w => szGraph_any x0 ad0 n0 cp0 (1048576) w hx0 (by omega) (by omega)
  have hneg0 : ((1048576 : Int) - (n0 : Int) < 0) := by omega
  simp only [if_pos hneg0] at H0
  clear hneg0
  have hb1 : decide ((1048576 : Int) < (n1 : Int)) = false := decide_eq_false (by omega)
  have hb2 : decide (1048576 < n1) = false := decide_eq_false (by omega)
  go_enter Try.func4, Try.ntmps4
  go_wp2_with fail
  go_at_call 17
  refine (H0 _).mono ?_
  rintro e w1 ⟨rfl, hb1⟩
  have sz1 : w.heap.size + 1 ≤ w1.heap.size := by have hh := hb1.size; simp at hh; omega
  have st1 : Below w.heap.size w w1 := Below.trans (by go_grown) (hb1.mono (by simp))
  have c1_0_0 : w1.cell? ⟨w.heap.size, 0, none⟩ = some (.int .i64 x0) := by rw [(bcell hb1).1 _ _ (by simp)]; simp
  have c1_0_1 : w1.cell? ⟨w.heap.size, 1, none⟩ = some (.slice ad0 n0 cp0) := by rw [(bcell hb1).1 _ _ (by simp)]; simp
  have B1 : Hid (Below w.heap.size w w1) := st1
  have d1_0 : w.heap.size < w1.heap.size := by omega
  have e1_0 : w.heap.size ≠ w1.heap.size := by omega
  clear st1 hb1
  go_wp2_with fail
  go_ret
  exact ⟨rfl, B1.out⟩

set_option maxHeartbeats 2000000 in
theorem lawExactWayCost_big1 (x0 : Int) (s0 : Value) (n0 : Nat) (Z0 : Nat → Int) (s1 : Value) (n1 : Nat) (Z1 : Nat → Int) (w : World) (hA0 : Arg 3 w s0 n0 Z0) (hA1 : Arg 1 w s1 n1 Z1) (hn : 1048576 < n1) :
    Calls Try.prog 4 #[.agg #[.int .i64 x0, s0], s1] w fun e w' => e = .returned (.bool true) ∧ Below w.heap.size w w' := by
  have hx1 := hA1.2.1
  unfold maxLen at hx1
  obtain ⟨ad0, cp0, rfl⟩ := hA0.slice
  obtain ⟨ad1, cp1, rfl⟩ := hA1.slice
  clear hA0 hA1
  have hb1 : (1048576 : Int) < (n1 : Int) := by omega
  go_enter Try.func4, Try.ntmps4
  go_wp2
  go_ret
  exact ⟨rfl, by go_grown⟩

end Go.Proofs.Ytflhbfndfjkfgaa
