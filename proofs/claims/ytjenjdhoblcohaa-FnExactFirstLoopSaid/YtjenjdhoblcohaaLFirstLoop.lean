/- The law of FirstLoop over contracts. -/
import Derived.Test.YtjenjdhoblcohaaL0
import Derived.Test.YtjenjdhoblcohaaGc
namespace Go.Proofs.Ytjenjdhoblcohaa
open Go.RowKit


set_option maxRecDepth 100000 in
set_option maxHeartbeats 8000000 in
theorem lawExactFirstLoop_fit (x0 : Int) (s0 : Value) (n0 : Nat) (Z0 : Nat → Int) (x1 : Int) (s1 : Value) (n1 : Nat) (Z1 : Nat → Int) (s2 : Value) (n2 : Nat) (Z2 : Nat → Int) (a3 : Int) (w : World) (hA0 : Arg 3 w s0 n0 Z0) (hA1 : Arg 3 w s1 n1 Z1) (hA2 : Arg 1 w s2 n2 Z2) (hn : n0 + n1 ≤ 1048576) (hn2 : n2 ≤ 1048576) (r0 : Int)
    (hs : ∀ (lo0 hi0 : Nat) (v0 : Value) (lo1 hi1 : Nat) (v1 : Value) (lo2 hi2 : Nat) (v2 : Value) (w : World), Row 3 w lo0 hi0 v0 n0 (zs Z0 n0 3) → hi0 ≤ w.heap.size → Row 3 w lo1 hi1 v1 n1 (zs Z1 n1 3) → hi1 ≤ w.heap.size → Row 1 w lo2 hi2 v2 n2 (zs Z2 n2 1) → hi2 ≤ w.heap.size → capOk v2 n2 → Calls Try.prog 27 #[.agg #[.int .i64 x0, v0], .agg #[.int .i64 x1, v1], v2, .int .i64 a3] w fun e w' => e = .returned (.int .i64 r0) ∧ Below w.heap.size w w')
    (hi : ∀ (lo0 hi0 : Nat) (v0 : Value) (lo1 hi1 : Nat) (v1 : Value) (lo2 hi2 : Nat) (v2 : Value) (w : World), Row 3 w lo0 hi0 v0 n0 (zs Z0 n0 3) → hi0 ≤ w.heap.size → Row 3 w lo1 hi1 v1 n1 (zs Z1 n1 3) → hi1 ≤ w.heap.size → Row 1 w lo2 hi2 v2 n2 (zs Z2 n2 1) → hi2 ≤ w.heap.size → capOk v2 n2 → Calls Try.prog 28 #[.agg #[.int .i64 x0, v0], .agg #[.int .i64 x1, v1], v2, .int .i64 a3] w fun e w' => e = .returned (.int .i64 r0) ∧ Below w.heap.size w w') :
    Calls Try.prog 7 #[.agg #[.int .i64 x0, s0], .agg #[.int .i64 x1, s1], s2, .int .i64 a3] w fun e w' => e = .returned (.bool true) ∧ Below w.heap.size w w' := by
  have hx0 := hA0.2.1
  have HA0 := Lib.hid hA0
  obtain ⟨ad0, cp0, rfl⟩ := hA0.slice
  clear hA0
  have hx1 := hA1.2.1
  have HA1 := Lib.hid hA1
  obtain ⟨ad1, cp1, rfl⟩ := hA1.slice
  clear hA1
  have hx2 := hA2.2.1
  have HA2 := Lib.hid hA2
  obtain ⟨ad2, cp2, rfl⟩ := hA2.slice
  clear hA2
  have Hs := Lib.hid hs
  have Hi := Lib.hid hi
  clear hs hi
  have H0 := fun w => szGraph_any x0 ad0 n0 cp0 (1048576) w hx0 (by omega) (by omega)
  have hneg0 : ¬ ((1048576 : Int) - (n0 : Int) < 0) := by omega
  simp only [if_neg hneg0] at H0
  have H1 := fun w => szGraph_any x1 ad1 n1 cp1 (1048576 - (n0 : Int)) w hx1 (by omega) (by omega)
  have hneg1 : ¬ ((1048576 - (n0 : Int) : Int) - (n1 : Int) < 0) := by omega
  simp only [if_neg hneg1] at H1
  have hq2 : decide ((n2 : Int) > 1048576) = false := decide_eq_false (by omega)
  have hp2 : ¬ ((n2 : Int) > 1048576) := by omega
  go_enter Try.func7, Try.ntmps7
  go_wp2_with fail
  go_at_call 11
  refine (H0 _).mono ?_
  rintro e w1 ⟨rfl, hb1⟩
  have sz1 : w.heap.size + 2 ≤ w1.heap.size := by have hh := hb1.size; simp at hh; omega
  have st1 : Below w.heap.size w w1 := Below.trans (by go_grown) (hb1.mono (by simp; omega))
  have c1_0_0 : w1.cell? ⟨w.heap.size, 0, none⟩ = some (.int .i64 x0) := by rw [(bcell hb1).1 _ _ (by simp; omega), old_box (by simp)]; simp
  have c1_0_1 : w1.cell? ⟨w.heap.size, 1, none⟩ = some (.slice ad0 n0 cp0) := by rw [(bcell hb1).1 _ _ (by simp; omega), old_box (by simp)]; simp
  have c1_1_0 : w1.cell? ⟨w.heap.size + 1, 0, none⟩ = some (.int .i64 x1) := by rw [(bcell hb1).1 _ _ (by simp)]; simp
  have c1_1_1 : w1.cell? ⟨w.heap.size + 1, 1, none⟩ = some (.slice ad1 n1 cp1) := by rw [(bcell hb1).1 _ _ (by simp)]; simp
  have B1 : Hid (Below w.heap.size w w1) := st1
  have d1_0 : w.heap.size < w1.heap.size := by omega
  have e1_0 : w.heap.size ≠ w1.heap.size := by omega
  have d1_1 : w.heap.size + 1 < w1.heap.size := by omega
  have e1_1 : w.heap.size + 1 ≠ w1.heap.size := by omega
  clear st1 hb1
  go_wp2_with fail
  go_at_call 11
  refine (H1 _).mono ?_
  rintro e w2 ⟨rfl, hb2⟩
  have sz2 : w1.heap.size ≤ w2.heap.size := hb2.size
  have st2 : Below w1.heap.size w1 w2 := hb2
  have c2_0_0 : w2.cell? ⟨w.heap.size, 0, none⟩ = some (.int .i64 x0) := by rw [(bcell st2).1 _ _ (by omega)]; exact c1_0_0
  have c2_0_1 : w2.cell? ⟨w.heap.size, 1, none⟩ = some (.slice ad0 n0 cp0) := by rw [(bcell st2).1 _ _ (by omega)]; exact c1_0_1
  have c2_1_0 : w2.cell? ⟨w.heap.size + 1, 0, none⟩ = some (.int .i64 x1) := by rw [(bcell st2).1 _ _ (by omega)]; exact c1_1_0
  have c2_1_1 : w2.cell? ⟨w.heap.size + 1, 1, none⟩ = some (.slice ad1 n1 cp1) := by rw [(bcell st2).1 _ _ (by omega)]; exact c1_1_1
  have B2 : Hid (Below w.heap.size w w2) := B1.out.trans (st2.mono (by omega))
  have d2_0 : w.heap.size < w2.heap.size := by omega
  have e2_0 : w.heap.size ≠ w2.heap.size := by omega
  have d2_1 : w.heap.size + 1 < w2.heap.size := by omega
  have e2_1 : w.heap.size + 1 ≠ w2.heap.size := by omega
  clear d1_0 e1_0 d1_1 e1_1 c1_0_0 c1_0_1 c1_1_0 c1_1_1 B1 st2 hb2
  go_wp2_with fail
  have tk0 : True := trivial
  have tk1 : True := trivial
  have tk2 : True := trivial
  go_region_held3 (fun w' => w'.cell? ⟨w.heap.size, 0, none⟩ = some (.int .i64 x0) ∧ w'.cell? ⟨w.heap.size, 1, none⟩ = some (.slice ad0 n0 cp0) ∧ w'.cell? ⟨w.heap.size + 1, 0, none⟩ = some (.int .i64 x1) ∧ w'.cell? ⟨w.heap.size + 1, 1, none⟩ = some (.slice ad1 n1 cp1) ∧ w2.heap.size ≤ w'.heap.size ∧ Below w2.heap.size w2 w') (first | assumption | exact rr4_start c2_0_0 c2_0_1 c2_1_0 c2_1_1 | exact rr4_drew (by assumption) | exact rr4_keep (by omega) (by omega) (by omega) (by omega) (by assumption) (by assumption) | exact rr4_box (by omega) (by omega) (by omega) (by omega) (by assumption))
    (first | (go_at_call 13; clear tk0; refine (toGraph_any x0 _ n0 Z0 _ (HA0.out.below (B2.out.trans ((rr4_out (by assumption)).2.mono (by omega)))) (by omega)).mono ?_; rintro e w3 ⟨y0, rfl, ry0, hb⟩; have hz3 := hb.size) | (go_at_call 13; clear tk1; refine (toGraph_any x1 _ n1 Z1 _ (HA1.out.below (B2.out.trans ((rr4_out (by assumption)).2.mono (by omega)))) (by omega)).mono ?_; rintro e w4 ⟨y1, rfl, ry1, hb⟩; have hz4 := hb.size; have ry0 := ry0.below hb (by first | exact Nat.le_refl _ | omega)) | (go_at_call 17; clear tk2; refine (toIntSC_any _ n2 Z2 _ (HA2.out.below (B2.out.trans ((rr4_out (by assumption)).2.mono (by omega)))) (by omega)).mono ?_; rintro e w5 ⟨y2, rfl, ry2, cy2, hb⟩; have hz5 := hb.size; have ry0 := ry0.below hb (by first | exact Nat.le_refl _ | omega); have ry1 := ry1.below hb (by first | exact Nat.le_refl _ | omega)) | (go_at_call 27; refine (Hs.out _ _ _ _ _ _ _ _ _ _ ry0 (by first | exact Nat.le_refl _ | omega) ry1 (by first | exact Nat.le_refl _ | omega) ry2 (by first | exact Nat.le_refl _ | omega) cy2).mono ?_; rintro e w6 ⟨rfl, hb⟩))
  have hb6 : Below w2.heap.size w2 w6 := (rr4_out (by assumption)).2
  have sz6 : w2.heap.size ≤ w6.heap.size := hb6.size
  have st6 : Below w2.heap.size w2 w6 := hb6
  have c6_0_0 : w6.cell? ⟨w.heap.size, 0, none⟩ = some (.int .i64 x0) := by rw [(bcell st6).1 _ _ (by omega)]; exact c2_0_0
  have c6_0_1 : w6.cell? ⟨w.heap.size, 1, none⟩ = some (.slice ad0 n0 cp0) := by rw [(bcell st6).1 _ _ (by omega)]; exact c2_0_1
  have c6_1_0 : w6.cell? ⟨w.heap.size + 1, 0, none⟩ = some (.int .i64 x1) := by rw [(bcell st6).1 _ _ (by omega)]; exact c2_1_0
  have c6_1_1 : w6.cell? ⟨w.heap.size + 1, 1, none⟩ = some (.slice ad1 n1 cp1) := by rw [(bcell st6).1 _ _ (by omega)]; exact c2_1_1
  have B6 : Hid (Below w.heap.size w w6) := B2.out.trans (st6.mono (by omega))
  have d6_0 : w.heap.size < w6.heap.size := by omega
  have e6_0 : w.heap.size ≠ w6.heap.size := by omega
  have d6_1 : w.heap.size + 1 < w6.heap.size := by omega
  have e6_1 : w.heap.size + 1 ≠ w6.heap.size := by omega
  clear d2_0 e2_0 d2_1 e2_1 c2_0_0 c2_0_1 c2_1_0 c2_1_1 B2 st6 hb6
  go_wp2_with fail
  go_at_call 13
  refine (toGraph_any x0 _ n0 Z0 _ (HA0.out.below B6.out) (by omega)).mono ?_
  rintro e w7 ⟨xx0, rfl, hr, hb7⟩
  have sz7 : w6.heap.size ≤ w7.heap.size := hb7.size
  have st7 : Below w6.heap.size w6 w7 := hb7
  have c7_0_0 : w7.cell? ⟨w.heap.size, 0, none⟩ = some (.int .i64 x0) := by rw [(bcell st7).1 _ _ (by omega)]; exact c6_0_0
  have c7_0_1 : w7.cell? ⟨w.heap.size, 1, none⟩ = some (.slice ad0 n0 cp0) := by rw [(bcell st7).1 _ _ (by omega)]; exact c6_0_1
  have c7_1_0 : w7.cell? ⟨w.heap.size + 1, 0, none⟩ = some (.int .i64 x1) := by rw [(bcell st7).1 _ _ (by omega)]; exact c6_1_0
  have c7_1_1 : w7.cell? ⟨w.heap.size + 1, 1, none⟩ = some (.slice ad1 n1 cp1) := by rw [(bcell st7).1 _ _ (by omega)]; exact c6_1_1
  have B7 : Hid (Below w.heap.size w w7) := B6.out.trans (st7.mono (by omega))
  have R7_x0 : Hid (Row 3 w7 (w6.heap.size) (w7.heap.size) xx0 n0 (zs Z0 n0 3)) := hr
  have d7_0 : w.heap.size < w7.heap.size := by omega
  have e7_0 : w.heap.size ≠ w7.heap.size := by omega
  have d7_1 : w.heap.size + 1 < w7.heap.size := by omega
  have e7_1 : w.heap.size + 1 ≠ w7.heap.size := by omega
  clear d6_0 e6_0 d6_1 e6_1 c6_0_0 c6_0_1 c6_1_0 c6_1_1 B6 st7 hr hb7
  obtain ⟨xx0a, xx0c, rfl⟩ := R7_x0.out.slice
  go_wp2_with fail
  go_at_call 13
  refine (toGraph_any x1 _ n1 Z1 _ (HA1.out.below (Below.trans B7.out (by go_grown))) (by omega)).mono ?_
  rintro e w8 ⟨xx1, rfl, hr, hb8⟩
  have sz8 : w7.heap.size + 1 ≤ w8.heap.size := by have hh := hb8.size; simp at hh; omega
  have st8 : Below w7.heap.size w7 w8 := Below.trans (by go_grown) (hb8.mono (by simp))
  have c8_0_0 : w8.cell? ⟨w.heap.size, 0, none⟩ = some (.int .i64 x0) := by rw [(bcell st8).1 _ _ (by omega)]; exact c7_0_0
  have c8_0_1 : w8.cell? ⟨w.heap.size, 1, none⟩ = some (.slice ad0 n0 cp0) := by rw [(bcell st8).1 _ _ (by omega)]; exact c7_0_1
  have c8_1_0 : w8.cell? ⟨w.heap.size + 1, 0, none⟩ = some (.int .i64 x1) := by rw [(bcell st8).1 _ _ (by omega)]; exact c7_1_0
  have c8_1_1 : w8.cell? ⟨w.heap.size + 1, 1, none⟩ = some (.slice ad1 n1 cp1) := by rw [(bcell st8).1 _ _ (by omega)]; exact c7_1_1
  have c8_2_0 : w8.cell? ⟨w7.heap.size, 0, none⟩ = some (.int .i64 x0) := by rw [(bcell hb8).1 _ _ (by simp)]; simp
  have c8_2_1 : w8.cell? ⟨w7.heap.size, 1, none⟩ = some ((.slice xx0a n0 xx0c)) := by rw [(bcell hb8).1 _ _ (by simp)]; simp
  have B8 : Hid (Below w.heap.size w w8) := B7.out.trans (st8.mono (by omega))
  have R8_x0 : Hid (Row 3 w8 (w6.heap.size) (w7.heap.size) (.slice xx0a n0 xx0c) n0 (zs Z0 n0 3)) := R7_x0.out.below st8 (by omega)
  have R8_x1 : Hid (Row 3 w8 (w7.heap.size + 1) (w8.heap.size) xx1 n1 (zs Z1 n1 3)) := hr.wide (by simp) (Nat.le_refl _)
  have d8_0 : w.heap.size < w8.heap.size := by omega
  have e8_0 : w.heap.size ≠ w8.heap.size := by omega
  have d8_1 : w.heap.size + 1 < w8.heap.size := by omega
  have e8_1 : w.heap.size + 1 ≠ w8.heap.size := by omega
  have d8_2 : w7.heap.size < w8.heap.size := by omega
  have e8_2 : w7.heap.size ≠ w8.heap.size := by omega
  clear d7_0 e7_0 d7_1 e7_1 c7_0_0 c7_0_1 c7_1_0 c7_1_1 R7_x0 B7 st8 hb8
  obtain ⟨xx1a, xx1c, rfl⟩ := R8_x1.out.slice
  go_wp2_with fail
  go_at_call 17
  refine (toIntSC_any _ n2 Z2 _ (HA2.out.below (Below.trans B8.out (by go_grown))) (by omega)).mono ?_
  rintro e w9 ⟨xx2, rfl, hr, cq_x2, hb9⟩
  have sz9 : w8.heap.size + 1 ≤ w9.heap.size := by have hh := hb9.size; simp at hh; omega
  have st9 : Below w8.heap.size w8 w9 := Below.trans (by go_grown) (hb9.mono (by simp))
  have c9_0_0 : w9.cell? ⟨w.heap.size, 0, none⟩ = some (.int .i64 x0) := by rw [(bcell st9).1 _ _ (by omega)]; exact c8_0_0
  have c9_0_1 : w9.cell? ⟨w.heap.size, 1, none⟩ = some (.slice ad0 n0 cp0) := by rw [(bcell st9).1 _ _ (by omega)]; exact c8_0_1
  have c9_1_0 : w9.cell? ⟨w.heap.size + 1, 0, none⟩ = some (.int .i64 x1) := by rw [(bcell st9).1 _ _ (by omega)]; exact c8_1_0
  have c9_1_1 : w9.cell? ⟨w.heap.size + 1, 1, none⟩ = some (.slice ad1 n1 cp1) := by rw [(bcell st9).1 _ _ (by omega)]; exact c8_1_1
  have c9_2_0 : w9.cell? ⟨w7.heap.size, 0, none⟩ = some (.int .i64 x0) := by rw [(bcell st9).1 _ _ (by omega)]; exact c8_2_0
  have c9_2_1 : w9.cell? ⟨w7.heap.size, 1, none⟩ = some ((.slice xx0a n0 xx0c)) := by rw [(bcell st9).1 _ _ (by omega)]; exact c8_2_1
  have c9_3_0 : w9.cell? ⟨w8.heap.size, 0, none⟩ = some (.int .i64 x1) := by rw [(bcell hb9).1 _ _ (by simp)]; simp
  have c9_3_1 : w9.cell? ⟨w8.heap.size, 1, none⟩ = some ((.slice xx1a n1 xx1c)) := by rw [(bcell hb9).1 _ _ (by simp)]; simp
  have B9 : Hid (Below w.heap.size w w9) := B8.out.trans (st9.mono (by omega))
  have R9_x0 : Hid (Row 3 w9 (w6.heap.size) (w7.heap.size) (.slice xx0a n0 xx0c) n0 (zs Z0 n0 3)) := R8_x0.out.below st9 (by omega)
  have R9_x1 : Hid (Row 3 w9 (w7.heap.size + 1) (w8.heap.size) (.slice xx1a n1 xx1c) n1 (zs Z1 n1 3)) := R8_x1.out.below st9 (by omega)
  have R9_x2 : Hid (Row 1 w9 (w8.heap.size + 1) (w9.heap.size) xx2 n2 (zs Z2 n2 1)) := hr.wide (by simp) (Nat.le_refl _)
  have d9_0 : w.heap.size < w9.heap.size := by omega
  have e9_0 : w.heap.size ≠ w9.heap.size := by omega
  have d9_1 : w.heap.size + 1 < w9.heap.size := by omega
  have e9_1 : w.heap.size + 1 ≠ w9.heap.size := by omega
  have d9_2 : w7.heap.size < w9.heap.size := by omega
  have e9_2 : w7.heap.size ≠ w9.heap.size := by omega
  have d9_3 : w8.heap.size < w9.heap.size := by omega
  have e9_3 : w8.heap.size ≠ w9.heap.size := by omega
  clear d8_0 e8_0 d8_1 e8_1 d8_2 e8_2 c8_0_0 c8_0_1 c8_1_0 c8_1_1 c8_2_0 c8_2_1 R8_x0 R8_x1 B8 st9 hb9
  obtain ⟨xx2a, xx2c, rfl⟩ := R9_x2.out.slice
  go_wp2_with fail
  go_at_call 28
  refine (Hi.out _ _ (.slice xx0a n0 xx0c) _ _ (.slice xx1a n1 xx1c) _ _ (.slice xx2a n2 xx2c) _ R9_x0.out (by first | omega | (simp; omega) | simp) R9_x1.out (by first | omega | (simp; omega) | simp) R9_x2.out (by first | omega | (simp; omega) | simp) cq_x2).mono ?_
  rintro e w10 ⟨rfl, hb10⟩
  have sz10 : w9.heap.size ≤ w10.heap.size := hb10.size
  have st10 : Below w9.heap.size w9 w10 := hb10
  have c10_0_0 : w10.cell? ⟨w.heap.size, 0, none⟩ = some (.int .i64 x0) := by rw [(bcell st10).1 _ _ (by omega)]; exact c9_0_0
  have c10_0_1 : w10.cell? ⟨w.heap.size, 1, none⟩ = some (.slice ad0 n0 cp0) := by rw [(bcell st10).1 _ _ (by omega)]; exact c9_0_1
  have c10_1_0 : w10.cell? ⟨w.heap.size + 1, 0, none⟩ = some (.int .i64 x1) := by rw [(bcell st10).1 _ _ (by omega)]; exact c9_1_0
  have c10_1_1 : w10.cell? ⟨w.heap.size + 1, 1, none⟩ = some (.slice ad1 n1 cp1) := by rw [(bcell st10).1 _ _ (by omega)]; exact c9_1_1
  have c10_2_0 : w10.cell? ⟨w7.heap.size, 0, none⟩ = some (.int .i64 x0) := by rw [(bcell st10).1 _ _ (by omega)]; exact c9_2_0
  have c10_2_1 : w10.cell? ⟨w7.heap.size, 1, none⟩ = some ((.slice xx0a n0 xx0c)) := by rw [(bcell st10).1 _ _ (by omega)]; exact c9_2_1
  have c10_3_0 : w10.cell? ⟨w8.heap.size, 0, none⟩ = some (.int .i64 x1) := by rw [(bcell st10).1 _ _ (by omega)]; exact c9_3_0
  have c10_3_1 : w10.cell? ⟨w8.heap.size, 1, none⟩ = some ((.slice xx1a n1 xx1c)) := by rw [(bcell st10).1 _ _ (by omega)]; exact c9_3_1
  have B10 : Hid (Below w.heap.size w w10) := B9.out.trans (st10.mono (by omega))
  have R10_x0 : Hid (Row 3 w10 (w6.heap.size) (w7.heap.size) (.slice xx0a n0 xx0c) n0 (zs Z0 n0 3)) := R9_x0.out.below st10 (by omega)
  have R10_x1 : Hid (Row 3 w10 (w7.heap.size + 1) (w8.heap.size) (.slice xx1a n1 xx1c) n1 (zs Z1 n1 3)) := R9_x1.out.below st10 (by omega)
  have R10_x2 : Hid (Row 1 w10 (w8.heap.size + 1) (w9.heap.size) (.slice xx2a n2 xx2c) n2 (zs Z2 n2 1)) := R9_x2.out.below st10 (by omega)
  have d10_0 : w.heap.size < w10.heap.size := by omega
  have e10_0 : w.heap.size ≠ w10.heap.size := by omega
  have d10_1 : w.heap.size + 1 < w10.heap.size := by omega
  have e10_1 : w.heap.size + 1 ≠ w10.heap.size := by omega
  have d10_2 : w7.heap.size < w10.heap.size := by omega
  have e10_2 : w7.heap.size ≠ w10.heap.size := by omega
  have d10_3 : w8.heap.size < w10.heap.size := by omega
  have e10_3 : w8.heap.size ≠ w10.heap.size := by omega
  clear d9_0 e9_0 d9_1 e9_1 d9_2 e9_2 d9_3 e9_3 c9_0_0 c9_0_1 c9_1_0 c9_1_1 c9_2_0 c9_2_1 c9_3_0 c9_3_1 R9_x0 R9_x1 R9_x2 B9 st10 hb10
  go_wp2_with fail
  go_region_held3 (fun w' => w'.cell? ⟨w.heap.size, 0, none⟩ = some (.int .i64 x0) ∧ w'.cell? ⟨w.heap.size, 1, none⟩ = some (.slice ad0 n0 cp0) ∧ w'.cell? ⟨w.heap.size + 1, 0, none⟩ = some (.int .i64 x1) ∧ w'.cell? ⟨w.heap.size + 1, 1, none⟩ = some (.slice ad1 n1 cp1) ∧ w'.cell? ⟨w7.heap.size, 0, none⟩ = some (.int .i64 x0) ∧ w'.cell? ⟨w7.heap.size, 1, none⟩ = some ((.slice xx0a n0 xx0c)) ∧ w'.cell? ⟨w8.heap.size, 0, none⟩ = some (.int .i64 x1) ∧ w'.cell? ⟨w8.heap.size, 1, none⟩ = some ((.slice xx1a n1 xx1c)) ∧ w10.heap.size ≤ w'.heap.size ∧ Below w10.heap.size w10 w') (first | assumption | exact rr8_start c10_0_0 c10_0_1 c10_1_0 c10_1_1 c10_2_0 c10_2_1 c10_3_0 c10_3_1 | exact rr8_drew (by assumption) | exact rr8_keep (by omega) (by omega) (by omega) (by omega) (by omega) (by omega) (by omega) (by omega) (by assumption) (by assumption))
    (first | (go_at_call 13; refine (toGraph_any x0 _ n0 Z0 _ (HA0.out.below (B10.out.trans ((rr8_out (by assumption)).2.mono (by omega)))) (by omega)).mono ?_; rintro e w11 ⟨y0, rfl, ry0, hb⟩; have hz11 := hb.size) | (go_at_call 15; refine (eqGraph_same x0 (zs Z0 n0 3) n0 _ _ _ _ _ _ _ (R10_x0.out.below (rr8_out (by assumption)).2 (by omega)) ry0 (by have hq := rr8_out (by assumption); omega) (Nat.le_refl _)).mono ?_; rintro e w12 ⟨rfl, hb⟩))
  have hb12 : Below w10.heap.size w10 w12 := (rr8_out (by assumption)).2
  have sz12 : w10.heap.size ≤ w12.heap.size := hb12.size
  have st12 : Below w10.heap.size w10 w12 := hb12
  have c12_0_0 : w12.cell? ⟨w.heap.size, 0, none⟩ = some (.int .i64 x0) := by rw [(bcell st12).1 _ _ (by omega)]; exact c10_0_0
  have c12_0_1 : w12.cell? ⟨w.heap.size, 1, none⟩ = some (.slice ad0 n0 cp0) := by rw [(bcell st12).1 _ _ (by omega)]; exact c10_0_1
  have c12_1_0 : w12.cell? ⟨w.heap.size + 1, 0, none⟩ = some (.int .i64 x1) := by rw [(bcell st12).1 _ _ (by omega)]; exact c10_1_0
  have c12_1_1 : w12.cell? ⟨w.heap.size + 1, 1, none⟩ = some (.slice ad1 n1 cp1) := by rw [(bcell st12).1 _ _ (by omega)]; exact c10_1_1
  have c12_2_0 : w12.cell? ⟨w7.heap.size, 0, none⟩ = some (.int .i64 x0) := by rw [(bcell st12).1 _ _ (by omega)]; exact c10_2_0
  have c12_2_1 : w12.cell? ⟨w7.heap.size, 1, none⟩ = some ((.slice xx0a n0 xx0c)) := by rw [(bcell st12).1 _ _ (by omega)]; exact c10_2_1
  have c12_3_0 : w12.cell? ⟨w8.heap.size, 0, none⟩ = some (.int .i64 x1) := by rw [(bcell st12).1 _ _ (by omega)]; exact c10_3_0
  have c12_3_1 : w12.cell? ⟨w8.heap.size, 1, none⟩ = some ((.slice xx1a n1 xx1c)) := by rw [(bcell st12).1 _ _ (by omega)]; exact c10_3_1
  have B12 : Hid (Below w.heap.size w w12) := B10.out.trans (st12.mono (by omega))
  have R12_x0 : Hid (Row 3 w12 (w6.heap.size) (w7.heap.size) (.slice xx0a n0 xx0c) n0 (zs Z0 n0 3)) := R10_x0.out.below st12 (by omega)
  have R12_x1 : Hid (Row 3 w12 (w7.heap.size + 1) (w8.heap.size) (.slice xx1a n1 xx1c) n1 (zs Z1 n1 3)) := R10_x1.out.below st12 (by omega)
  have R12_x2 : Hid (Row 1 w12 (w8.heap.size + 1) (w9.heap.size) (.slice xx2a n2 xx2c) n2 (zs Z2 n2 1)) := R10_x2.out.below st12 (by omega)
  have d12_0 : w.heap.size < w12.heap.size := by omega
  have e12_0 : w.heap.size ≠ w12.heap.size := by omega
  have d12_1 : w.heap.size + 1 < w12.heap.size := by omega
  have e12_1 : w.heap.size + 1 ≠ w12.heap.size := by omega
  have d12_2 : w7.heap.size < w12.heap.size := by omega
  have e12_2 : w7.heap.size ≠ w12.heap.size := by omega
  have d12_3 : w8.heap.size < w12.heap.size := by omega
  have e12_3 : w8.heap.size ≠ w12.heap.size := by omega
  clear d10_0 e10_0 d10_1 e10_1 d10_2 e10_2 d10_3 e10_3 c10_0_0 c10_0_1 c10_1_0 c10_1_1 c10_2_0 c10_2_1 c10_3_0 c10_3_1 R10_x0 R10_x1 R10_x2 B10 st12 hb12
  go_wp2_with fail
  go_region_held3 (fun w' => w'.cell? ⟨w.heap.size, 0, none⟩ = some (.int .i64 x0) ∧ w'.cell? ⟨w.heap.size, 1, none⟩ = some (.slice ad0 n0 cp0) ∧ w'.cell? ⟨w.heap.size + 1, 0, none⟩ = some (.int .i64 x1) ∧ w'.cell? ⟨w.heap.size + 1, 1, none⟩ = some (.slice ad1 n1 cp1) ∧ w'.cell? ⟨w7.heap.size, 0, none⟩ = some (.int .i64 x0) ∧ w'.cell? ⟨w7.heap.size, 1, none⟩ = some ((.slice xx0a n0 xx0c)) ∧ w'.cell? ⟨w8.heap.size, 0, none⟩ = some (.int .i64 x1) ∧ w'.cell? ⟨w8.heap.size, 1, none⟩ = some ((.slice xx1a n1 xx1c)) ∧ w12.heap.size ≤ w'.heap.size ∧ Below w12.heap.size w12 w') (first | assumption | exact rr8_start c12_0_0 c12_0_1 c12_1_0 c12_1_1 c12_2_0 c12_2_1 c12_3_0 c12_3_1 | exact rr8_drew (by assumption) | exact rr8_keep (by omega) (by omega) (by omega) (by omega) (by omega) (by omega) (by omega) (by omega) (by assumption) (by assumption))
    (first | (go_at_call 13; refine (toGraph_any x1 _ n1 Z1 _ (HA1.out.below (B12.out.trans ((rr8_out (by assumption)).2.mono (by omega)))) (by omega)).mono ?_; rintro e w13 ⟨y1, rfl, ry1, hb⟩; have hz13 := hb.size) | (go_at_call 15; refine (eqGraph_same x1 (zs Z1 n1 3) n1 _ _ _ _ _ _ _ (R12_x1.out.below (rr8_out (by assumption)).2 (by omega)) ry1 (by have hq := rr8_out (by assumption); omega) (Nat.le_refl _)).mono ?_; rintro e w14 ⟨rfl, hb⟩))
  have hb14 : Below w12.heap.size w12 w14 := (rr8_out (by assumption)).2
  have sz14 : w12.heap.size ≤ w14.heap.size := hb14.size
  have st14 : Below w12.heap.size w12 w14 := hb14
  have c14_0_0 : w14.cell? ⟨w.heap.size, 0, none⟩ = some (.int .i64 x0) := by rw [(bcell st14).1 _ _ (by omega)]; exact c12_0_0
  have c14_0_1 : w14.cell? ⟨w.heap.size, 1, none⟩ = some (.slice ad0 n0 cp0) := by rw [(bcell st14).1 _ _ (by omega)]; exact c12_0_1
  have c14_1_0 : w14.cell? ⟨w.heap.size + 1, 0, none⟩ = some (.int .i64 x1) := by rw [(bcell st14).1 _ _ (by omega)]; exact c12_1_0
  have c14_1_1 : w14.cell? ⟨w.heap.size + 1, 1, none⟩ = some (.slice ad1 n1 cp1) := by rw [(bcell st14).1 _ _ (by omega)]; exact c12_1_1
  have c14_2_0 : w14.cell? ⟨w7.heap.size, 0, none⟩ = some (.int .i64 x0) := by rw [(bcell st14).1 _ _ (by omega)]; exact c12_2_0
  have c14_2_1 : w14.cell? ⟨w7.heap.size, 1, none⟩ = some ((.slice xx0a n0 xx0c)) := by rw [(bcell st14).1 _ _ (by omega)]; exact c12_2_1
  have c14_3_0 : w14.cell? ⟨w8.heap.size, 0, none⟩ = some (.int .i64 x1) := by rw [(bcell st14).1 _ _ (by omega)]; exact c12_3_0
  have c14_3_1 : w14.cell? ⟨w8.heap.size, 1, none⟩ = some ((.slice xx1a n1 xx1c)) := by rw [(bcell st14).1 _ _ (by omega)]; exact c12_3_1
  have B14 : Hid (Below w.heap.size w w14) := B12.out.trans (st14.mono (by omega))
  have R14_x0 : Hid (Row 3 w14 (w6.heap.size) (w7.heap.size) (.slice xx0a n0 xx0c) n0 (zs Z0 n0 3)) := R12_x0.out.below st14 (by omega)
  have R14_x1 : Hid (Row 3 w14 (w7.heap.size + 1) (w8.heap.size) (.slice xx1a n1 xx1c) n1 (zs Z1 n1 3)) := R12_x1.out.below st14 (by omega)
  have R14_x2 : Hid (Row 1 w14 (w8.heap.size + 1) (w9.heap.size) (.slice xx2a n2 xx2c) n2 (zs Z2 n2 1)) := R12_x2.out.below st14 (by omega)
  have d14_0 : w.heap.size < w14.heap.size := by omega
  have e14_0 : w.heap.size ≠ w14.heap.size := by omega
  have d14_1 : w.heap.size + 1 < w14.heap.size := by omega
  have e14_1 : w.heap.size + 1 ≠ w14.heap.size := by omega
  have d14_2 : w7.heap.size < w14.heap.size := by omega
  have e14_2 : w7.heap.size ≠ w14.heap.size := by omega
  have d14_3 : w8.heap.size < w14.heap.size := by omega
  have e14_3 : w8.heap.size ≠ w14.heap.size := by omega
  clear d12_0 e12_0 d12_1 e12_1 d12_2 e12_2 d12_3 e12_3 c12_0_0 c12_0_1 c12_1_0 c12_1_1 c12_2_0 c12_2_1 c12_3_0 c12_3_1 R12_x0 R12_x1 R12_x2 B12 st14 hb14
  go_wp2_with fail
  go_at_call 17
  refine (toIntSC_any _ n2 Z2 _ (HA2.out.below B14.out) (by omega)).mono ?_
  rintro e w15 ⟨xy2, rfl, hr, cq_y2, hb15⟩
  have sz15 : w14.heap.size ≤ w15.heap.size := hb15.size
  have st15 : Below w14.heap.size w14 w15 := hb15
  have c15_0_0 : w15.cell? ⟨w.heap.size, 0, none⟩ = some (.int .i64 x0) := by rw [(bcell st15).1 _ _ (by omega)]; exact c14_0_0
  have c15_0_1 : w15.cell? ⟨w.heap.size, 1, none⟩ = some (.slice ad0 n0 cp0) := by rw [(bcell st15).1 _ _ (by omega)]; exact c14_0_1
  have c15_1_0 : w15.cell? ⟨w.heap.size + 1, 0, none⟩ = some (.int .i64 x1) := by rw [(bcell st15).1 _ _ (by omega)]; exact c14_1_0
  have c15_1_1 : w15.cell? ⟨w.heap.size + 1, 1, none⟩ = some (.slice ad1 n1 cp1) := by rw [(bcell st15).1 _ _ (by omega)]; exact c14_1_1
  have c15_2_0 : w15.cell? ⟨w7.heap.size, 0, none⟩ = some (.int .i64 x0) := by rw [(bcell st15).1 _ _ (by omega)]; exact c14_2_0
  have c15_2_1 : w15.cell? ⟨w7.heap.size, 1, none⟩ = some ((.slice xx0a n0 xx0c)) := by rw [(bcell st15).1 _ _ (by omega)]; exact c14_2_1
  have c15_3_0 : w15.cell? ⟨w8.heap.size, 0, none⟩ = some (.int .i64 x1) := by rw [(bcell st15).1 _ _ (by omega)]; exact c14_3_0
  have c15_3_1 : w15.cell? ⟨w8.heap.size, 1, none⟩ = some ((.slice xx1a n1 xx1c)) := by rw [(bcell st15).1 _ _ (by omega)]; exact c14_3_1
  have B15 : Hid (Below w.heap.size w w15) := B14.out.trans (st15.mono (by omega))
  have R15_x0 : Hid (Row 3 w15 (w6.heap.size) (w7.heap.size) (.slice xx0a n0 xx0c) n0 (zs Z0 n0 3)) := R14_x0.out.below st15 (by omega)
  have R15_x1 : Hid (Row 3 w15 (w7.heap.size + 1) (w8.heap.size) (.slice xx1a n1 xx1c) n1 (zs Z1 n1 3)) := R14_x1.out.below st15 (by omega)
  have R15_x2 : Hid (Row 1 w15 (w8.heap.size + 1) (w9.heap.size) (.slice xx2a n2 xx2c) n2 (zs Z2 n2 1)) := R14_x2.out.below st15 (by omega)
  have R15_y2 : Hid (Row 1 w15 (w14.heap.size) (w15.heap.size) xy2 n2 (zs Z2 n2 1)) := hr
  have d15_0 : w.heap.size < w15.heap.size := by omega
  have e15_0 : w.heap.size ≠ w15.heap.size := by omega
  have d15_1 : w.heap.size + 1 < w15.heap.size := by omega
  have e15_1 : w.heap.size + 1 ≠ w15.heap.size := by omega
  have d15_2 : w7.heap.size < w15.heap.size := by omega
  have e15_2 : w7.heap.size ≠ w15.heap.size := by omega
  have d15_3 : w8.heap.size < w15.heap.size := by omega
  have e15_3 : w8.heap.size ≠ w15.heap.size := by omega
  clear d14_0 e14_0 d14_1 e14_1 d14_2 e14_2 d14_3 e14_3 c14_0_0 c14_0_1 c14_1_0 c14_1_1 c14_2_0 c14_2_1 c14_3_0 c14_3_1 R14_x0 R14_x1 R14_x2 B14 st15 hr hb15
  go_wp2_with fail
  go_at_call 19
  refine (eqIntS_same (zs Z2 n2 1) n2 _ _ _ _ _ _ _ R15_x2.out R15_y2.out (by omega) (by omega)).mono ?_
  rintro e w16 ⟨rfl, hb16⟩
  have sz16 : w15.heap.size ≤ w16.heap.size := hb16.size
  have st16 : Below w15.heap.size w15 w16 := hb16
  have c16_0_0 : w16.cell? ⟨w.heap.size, 0, none⟩ = some (.int .i64 x0) := by rw [(bcell st16).1 _ _ (by omega)]; exact c15_0_0
  have c16_0_1 : w16.cell? ⟨w.heap.size, 1, none⟩ = some (.slice ad0 n0 cp0) := by rw [(bcell st16).1 _ _ (by omega)]; exact c15_0_1
  have c16_1_0 : w16.cell? ⟨w.heap.size + 1, 0, none⟩ = some (.int .i64 x1) := by rw [(bcell st16).1 _ _ (by omega)]; exact c15_1_0
  have c16_1_1 : w16.cell? ⟨w.heap.size + 1, 1, none⟩ = some (.slice ad1 n1 cp1) := by rw [(bcell st16).1 _ _ (by omega)]; exact c15_1_1
  have c16_2_0 : w16.cell? ⟨w7.heap.size, 0, none⟩ = some (.int .i64 x0) := by rw [(bcell st16).1 _ _ (by omega)]; exact c15_2_0
  have c16_2_1 : w16.cell? ⟨w7.heap.size, 1, none⟩ = some ((.slice xx0a n0 xx0c)) := by rw [(bcell st16).1 _ _ (by omega)]; exact c15_2_1
  have c16_3_0 : w16.cell? ⟨w8.heap.size, 0, none⟩ = some (.int .i64 x1) := by rw [(bcell st16).1 _ _ (by omega)]; exact c15_3_0
  have c16_3_1 : w16.cell? ⟨w8.heap.size, 1, none⟩ = some ((.slice xx1a n1 xx1c)) := by rw [(bcell st16).1 _ _ (by omega)]; exact c15_3_1
  have B16 : Hid (Below w.heap.size w w16) := B15.out.trans (st16.mono (by omega))
  have R16_x0 : Hid (Row 3 w16 (w6.heap.size) (w7.heap.size) (.slice xx0a n0 xx0c) n0 (zs Z0 n0 3)) := R15_x0.out.below st16 (by omega)
  have R16_x1 : Hid (Row 3 w16 (w7.heap.size + 1) (w8.heap.size) (.slice xx1a n1 xx1c) n1 (zs Z1 n1 3)) := R15_x1.out.below st16 (by omega)
  have R16_x2 : Hid (Row 1 w16 (w8.heap.size + 1) (w9.heap.size) (.slice xx2a n2 xx2c) n2 (zs Z2 n2 1)) := R15_x2.out.below st16 (by omega)
  have R16_y2 : Hid (Row 1 w16 (w14.heap.size) (w15.heap.size) xy2 n2 (zs Z2 n2 1)) := R15_y2.out.below st16 (by omega)
  have d16_0 : w.heap.size < w16.heap.size := by omega
  have e16_0 : w.heap.size ≠ w16.heap.size := by omega
  have d16_1 : w.heap.size + 1 < w16.heap.size := by omega
  have e16_1 : w.heap.size + 1 ≠ w16.heap.size := by omega
  have d16_2 : w7.heap.size < w16.heap.size := by omega
  have e16_2 : w7.heap.size ≠ w16.heap.size := by omega
  have d16_3 : w8.heap.size < w16.heap.size := by omega
  have e16_3 : w8.heap.size ≠ w16.heap.size := by omega
  clear d15_0 e15_0 d15_1 e15_1 d15_2 e15_2 d15_3 e15_3 c15_0_0 c15_0_1 c15_1_0 c15_1_1 c15_2_0 c15_2_1 c15_3_0 c15_3_1 R15_x0 R15_x1 R15_x2 R15_y2 B15 st16 hb16
  go_wp2_with fail
  go_ret
  exact ⟨rfl, B16.out⟩

set_option maxHeartbeats 2000000 in
theorem lawExactFirstLoop_big0 (x0 : Int) (s0 : Value) (n0 : Nat) (Z0 : Nat → Int) (x1 : Int) (s1 : Value) (n1 : Nat) (Z1 : Nat → Int) (s2 : Value) (n2 : Nat) (Z2 : Nat → Int) (a3 : Int) (w : World) (hA0 : Arg 3 w s0 n0 Z0) (hA1 : Arg 3 w s1 n1 Z1) (hA2 : Arg 1 w s2 n2 Z2) (hn : 1048576 < n2) :
    Calls Try.prog 7 #[.agg #[.int .i64 x0, s0], .agg #[.int .i64 x1, s1], s2, .int .i64 a3] w fun e w' => e = .returned (.bool true) ∧ Below w.heap.size w w' := by
  have hx0 := hA0.2.1
  have hx1 := hA1.2.1
  have hx2 := hA2.2.1
  have hxx2 := hx2
  unfold maxLen at hxx2
  obtain ⟨ad0, cp0, rfl⟩ := hA0.slice
  obtain ⟨ad1, cp1, rfl⟩ := hA1.slice
  obtain ⟨ad2, cp2, rfl⟩ := hA2.slice
  clear hA0 hA1 hA2
  have hp2 : (n2 : Int) > 1048576 := by omega
  go_enter Try.func7, Try.ntmps7
  go_wp2_with fail
  go_ret
  exact ⟨rfl, by go_grown⟩

set_option maxHeartbeats 2000000 in
theorem lawExactFirstLoop_big1 (x0 : Int) (s0 : Value) (n0 : Nat) (Z0 : Nat → Int) (x1 : Int) (s1 : Value) (n1 : Nat) (Z1 : Nat → Int) (s2 : Value) (n2 : Nat) (Z2 : Nat → Int) (a3 : Int) (w : World) (hA0 : Arg 3 w s0 n0 Z0) (hA1 : Arg 3 w s1 n1 Z1) (hA2 : Arg 1 w s2 n2 Z2) (hn : 1048576 < n0) (hn2 : n2 ≤ 1048576) :
    Calls Try.prog 7 #[.agg #[.int .i64 x0, s0], .agg #[.int .i64 x1, s1], s2, .int .i64 a3] w fun e w' => e = .returned (.bool true) ∧ Below w.heap.size w w' := by
  have hx0 := hA0.2.1
  have hx1 := hA1.2.1
  have hx2 := hA2.2.1
  have hxx2 := hx2
  unfold maxLen at hxx2
  obtain ⟨ad0, cp0, rfl⟩ := hA0.slice
  obtain ⟨ad1, cp1, rfl⟩ := hA1.slice
  obtain ⟨ad2, cp2, rfl⟩ := hA2.slice
  clear hA0 hA1 hA2
  have hq2 : decide ((n2 : Int) > 1048576) = false := decide_eq_false (by omega)
  have hp2 : ¬ ((n2 : Int) > 1048576) := by omega
  have H0 := fun w => szGraph_any x0 ad0 n0 cp0 (1048576) w hx0 (by omega) (by omega)
  have hneg0 : ((1048576 : Int) - (n0 : Int) < 0) := by omega
  simp only [if_pos hneg0] at H0
  clear hneg0
  go_enter Try.func7, Try.ntmps7
  go_wp2_with fail
  go_at_call 11
  refine (H0 _).mono ?_
  rintro e w1 ⟨rfl, hb1⟩
  have sz1 : w.heap.size + 2 ≤ w1.heap.size := by have hh := hb1.size; simp at hh; omega
  have st1 : Below w.heap.size w w1 := Below.trans (by go_grown) (hb1.mono (by simp; omega))
  have c1_0_0 : w1.cell? ⟨w.heap.size, 0, none⟩ = some (.int .i64 x0) := by rw [(bcell hb1).1 _ _ (by simp; omega), old_box (by simp)]; simp
  have c1_0_1 : w1.cell? ⟨w.heap.size, 1, none⟩ = some (.slice ad0 n0 cp0) := by rw [(bcell hb1).1 _ _ (by simp; omega), old_box (by simp)]; simp
  have c1_1_0 : w1.cell? ⟨w.heap.size + 1, 0, none⟩ = some (.int .i64 x1) := by rw [(bcell hb1).1 _ _ (by simp)]; simp
  have c1_1_1 : w1.cell? ⟨w.heap.size + 1, 1, none⟩ = some (.slice ad1 n1 cp1) := by rw [(bcell hb1).1 _ _ (by simp)]; simp
  have B1 : Hid (Below w.heap.size w w1) := st1
  have d1_0 : w.heap.size < w1.heap.size := by omega
  have e1_0 : w.heap.size ≠ w1.heap.size := by omega
  have d1_1 : w.heap.size + 1 < w1.heap.size := by omega
  have e1_1 : w.heap.size + 1 ≠ w1.heap.size := by omega
  clear st1 hb1
  go_wp2_with fail
  go_ret
  exact ⟨rfl, B1.out⟩

set_option maxHeartbeats 2000000 in
theorem lawExactFirstLoop_big2 (x0 : Int) (s0 : Value) (n0 : Nat) (Z0 : Nat → Int) (x1 : Int) (s1 : Value) (n1 : Nat) (Z1 : Nat → Int) (s2 : Value) (n2 : Nat) (Z2 : Nat → Int) (a3 : Int) (w : World) (hA0 : Arg 3 w s0 n0 Z0) (hA1 : Arg 3 w s1 n1 Z1) (hA2 : Arg 1 w s2 n2 Z2) (hf : n0 ≤ 1048576) (hn : 1048576 < n0 + n1) (hn2 : n2 ≤ 1048576) :
    Calls Try.prog 7 #[.agg #[.int .i64 x0, s0], .agg #[.int .i64 x1, s1], s2, .int .i64 a3] w fun e w' => e = .returned (.bool true) ∧ Below w.heap.size w w' := by
  have hx0 := hA0.2.1
  have hx1 := hA1.2.1
  have hx2 := hA2.2.1
  have hxx2 := hx2
  unfold maxLen at hxx2
  obtain ⟨ad0, cp0, rfl⟩ := hA0.slice
  obtain ⟨ad1, cp1, rfl⟩ := hA1.slice
  obtain ⟨ad2, cp2, rfl⟩ := hA2.slice
  clear hA0 hA1 hA2
  have hq2 : decide ((n2 : Int) > 1048576) = false := decide_eq_false (by omega)
  have hp2 : ¬ ((n2 : Int) > 1048576) := by omega
  have H0 := fun w => szGraph_any x0 ad0 n0 cp0 (1048576) w hx0 (by omega) (by omega)
  have hneg0 : ¬ ((1048576 : Int) - (n0 : Int) < 0) := by omega
  simp only [if_neg hneg0] at H0
  have H1 := fun w => szGraph_any x1 ad1 n1 cp1 (1048576 - (n0 : Int)) w hx1 (by omega) (by omega)
  have hneg1 : ((1048576 - (n0 : Int) : Int) - (n1 : Int) < 0) := by omega
  simp only [if_pos hneg1] at H1
  clear hneg1
  go_enter Try.func7, Try.ntmps7
  go_wp2_with fail
  go_at_call 11
  refine (H0 _).mono ?_
  rintro e w1 ⟨rfl, hb1⟩
  have sz1 : w.heap.size + 2 ≤ w1.heap.size := by have hh := hb1.size; simp at hh; omega
  have st1 : Below w.heap.size w w1 := Below.trans (by go_grown) (hb1.mono (by simp; omega))
  have c1_0_0 : w1.cell? ⟨w.heap.size, 0, none⟩ = some (.int .i64 x0) := by rw [(bcell hb1).1 _ _ (by simp; omega), old_box (by simp)]; simp
  have c1_0_1 : w1.cell? ⟨w.heap.size, 1, none⟩ = some (.slice ad0 n0 cp0) := by rw [(bcell hb1).1 _ _ (by simp; omega), old_box (by simp)]; simp
  have c1_1_0 : w1.cell? ⟨w.heap.size + 1, 0, none⟩ = some (.int .i64 x1) := by rw [(bcell hb1).1 _ _ (by simp)]; simp
  have c1_1_1 : w1.cell? ⟨w.heap.size + 1, 1, none⟩ = some (.slice ad1 n1 cp1) := by rw [(bcell hb1).1 _ _ (by simp)]; simp
  have B1 : Hid (Below w.heap.size w w1) := st1
  have d1_0 : w.heap.size < w1.heap.size := by omega
  have e1_0 : w.heap.size ≠ w1.heap.size := by omega
  have d1_1 : w.heap.size + 1 < w1.heap.size := by omega
  have e1_1 : w.heap.size + 1 ≠ w1.heap.size := by omega
  clear st1 hb1
  go_wp2_with fail
  go_at_call 11
  refine (H1 _).mono ?_
  rintro e w2 ⟨rfl, hb2⟩
  have sz2 : w1.heap.size ≤ w2.heap.size := hb2.size
  have st2 : Below w1.heap.size w1 w2 := hb2
  have c2_0_0 : w2.cell? ⟨w.heap.size, 0, none⟩ = some (.int .i64 x0) := by rw [(bcell st2).1 _ _ (by omega)]; exact c1_0_0
  have c2_0_1 : w2.cell? ⟨w.heap.size, 1, none⟩ = some (.slice ad0 n0 cp0) := by rw [(bcell st2).1 _ _ (by omega)]; exact c1_0_1
  have c2_1_0 : w2.cell? ⟨w.heap.size + 1, 0, none⟩ = some (.int .i64 x1) := by rw [(bcell st2).1 _ _ (by omega)]; exact c1_1_0
  have c2_1_1 : w2.cell? ⟨w.heap.size + 1, 1, none⟩ = some (.slice ad1 n1 cp1) := by rw [(bcell st2).1 _ _ (by omega)]; exact c1_1_1
  have B2 : Hid (Below w.heap.size w w2) := B1.out.trans (st2.mono (by omega))
  have d2_0 : w.heap.size < w2.heap.size := by omega
  have e2_0 : w.heap.size ≠ w2.heap.size := by omega
  have d2_1 : w.heap.size + 1 < w2.heap.size := by omega
  have e2_1 : w.heap.size + 1 ≠ w2.heap.size := by omega
  clear d1_0 e1_0 d1_1 e1_1 c1_0_0 c1_0_1 c1_1_0 c1_1_1 B1 st2 hb2
  go_wp2_with fail
  go_ret
  exact ⟨rfl, B2.out⟩

end Go.Proofs.Ytjenjdhoblcohaa
