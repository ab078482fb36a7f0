/- The law of CountBad over contracts. -/
import Derived.Test.YtjenjdhoblcohaaL0
import Derived.Test.YtjenjdhoblcohaaGi
import Derived.Test.YtjenjdhoblcohaaGm
namespace Go.Proofs.Ytjenjdhoblcohaa
open Go.RowKit


set_option maxRecDepth 100000 in
set_option maxHeartbeats 8000000 in
theorem lawExactCountBad_fit (x0 : Int) (s0 : Value) (n0 : Nat) (Z0 : Nat → Int) (x1 : Int) (s1 : Value) (n1 : Nat) (Z1 : Nat → Int) (a2 : Int) (w : World) (hA0 : Arg 3 w s0 n0 Z0) (hA1 : Arg 3 w s1 n1 Z1) (hn : n0 + n1 ≤ 1048576) (r0 : Int)
    (hs : ∀ (lo0 hi0 : Nat) (v0 : Value) (lo1 hi1 : Nat) (v1 : Value) (w : World), Row 3 w lo0 hi0 v0 n0 (zs Z0 n0 3) → hi0 ≤ w.heap.size → Row 3 w lo1 hi1 v1 n1 (zs Z1 n1 3) → hi1 ≤ w.heap.size → Calls Try.prog 29 #[.agg #[.int .i64 x0, v0], .agg #[.int .i64 x1, v1], .int .i64 a2] w fun e w' => e = .returned (.int .i64 r0) ∧ Below w.heap.size w w')
    (hi : ∀ (lo0 hi0 : Nat) (v0 : Value) (lo1 hi1 : Nat) (v1 : Value) (w : World), Row 3 w lo0 hi0 v0 n0 (zs Z0 n0 3) → hi0 ≤ w.heap.size → Row 3 w lo1 hi1 v1 n1 (zs Z1 n1 3) → hi1 ≤ w.heap.size → Calls Try.prog 30 #[.agg #[.int .i64 x0, v0], .agg #[.int .i64 x1, v1], .int .i64 a2] w fun e w' => e = .returned (.int .i64 r0) ∧ Below w.heap.size w w') :
    Calls Try.prog 8 #[.agg #[.int .i64 x0, s0], .agg #[.int .i64 x1, s1], .int .i64 a2] w fun e w' => e = .returned (.bool true) ∧ Below w.heap.size w w' := by
  have hx0 := hA0.2.1
  have HA0 := Lib.hid hA0
  obtain ⟨ad0, cp0, rfl⟩ := hA0.slice
  clear hA0
  have hx1 := hA1.2.1
  have HA1 := Lib.hid hA1
  obtain ⟨ad1, cp1, rfl⟩ := hA1.slice
  clear hA1
  have Hs := Lib.hid hs
  have Hi := Lib.hid hi
  clear hs hi
  have H0 := fun w => szGraph_any x0 ad0 n0 cp0 (1048576) w hx0 (by omega) (by omega)
  have hneg0 : ¬ ((1048576 : Int) - (n0 : Int) < 0) := by omega
  simp only [if_neg hneg0] at H0
  have H1 := fun w => szGraph_any x1 ad1 n1 cp1 (1048576 - (n0 : Int)) w hx1 (by omega) (by omega)
  have hneg1 : ¬ ((1048576 - (n0 : Int) : Int) - (n1 : Int) < 0) := by omega
  simp only [if_neg hneg1] at H1
  go_enter Try.func8, Try.ntmps8
  go_wp2_with fail
  go_at_call 11
  refine (H0 _).mono ?_
  rintro e w1 ⟨rfl, hb1⟩
  have sz1 : w.heap.size + 2 ≤ w1.heap.size := by have hh := hb1.size; simp at hh; omega
  have st1 : Below w.heap.size w w1 := Below.trans (by go_grown) (hb1.mono (by simp; omega))
  have c1_0_0 : w1.cell? ⟨w.heap.size, 0, none⟩ = some (.int .i64 x0) := by rw [(bcell hb1).1 _ _ (by simp; omega), old_box (by simp)]; simp
  have c1_0_1 : w1.cell? ⟨w.heap.size, 1, none⟩ = some (.slice ad0 n0 cp0) := by rw [(bcell hb1).1 _ _ (by simp; omega), old_box (by simp)]; simp
  have c1_1_0 : w1.cell? ⟨w.heap.size + 1, 0, none⟩ = some (.int .i64 x1) := by rw [(bcell hb1).1 _ _ (by simp)]; simp
  have c1_1_1 : w1.cell? ⟨w.heap.size + 1, 1, none⟩ = some (.slice ad1 n1 cp1) := by rw [(bcell hb1).1 _ _ (by simp)]; simp
  have B1 : Hid (Below w.heap.size w w1) := st1
  have d1_0 : w.heap.size < w1.heap.size := by omega
  have e1_0 : w.heap.size ≠ w1.heap.size := by omega
  have d1_1 : w.heap.size + 1 < w1.heap.size := by omega
  have e1_1 : w.heap.size + 1 ≠ w1.heap.size := by omega
  clear st1 hb1
  go_wp2_with fail
  go_at_call 11
  refine (H1 _).mono ?_
  rintro e w2 ⟨rfl, hb2⟩
  have sz2 : w1.heap.size ≤ w2.heap.size := hb2.size
  have st2 : Below w1.heap.size w1 w2 := hb2
  have c2_0_0 : w2.cell? ⟨w.heap.size, 0, none⟩ = some (.int .i64 x0) := by rw [(bcell st2).1 _ _ (by omega)]; exact c1_0_0
  have c2_0_1 : w2.cell? ⟨w.heap.size, 1, none⟩ = some (.slice ad0 n0 cp0) := by rw [(bcell st2).1 _ _ (by omega)]; exact c1_0_1
  have c2_1_0 : w2.cell? ⟨w.heap.size + 1, 0, none⟩ = some (.int .i64 x1) := by rw [(bcell st2).1 _ _ (by omega)]; exact c1_1_0
  have c2_1_1 : w2.cell? ⟨w.heap.size + 1, 1, none⟩ = some (.slice ad1 n1 cp1) := by rw [(bcell st2).1 _ _ (by omega)]; exact c1_1_1
  have B2 : Hid (Below w.heap.size w w2) := B1.out.trans (st2.mono (by omega))
  have d2_0 : w.heap.size < w2.heap.size := by omega
  have e2_0 : w.heap.size ≠ w2.heap.size := by omega
  have d2_1 : w.heap.size + 1 < w2.heap.size := by omega
  have e2_1 : w.heap.size + 1 ≠ w2.heap.size := by omega
  clear d1_0 e1_0 d1_1 e1_1 c1_0_0 c1_0_1 c1_1_0 c1_1_1 B1 st2 hb2
  go_wp2_with fail
  have tk0 : True := trivial
  have tk1 : True := trivial
  go_region_held3 (fun w' => w'.cell? ⟨w.heap.size, 0, none⟩ = some (.int .i64 x0) ∧ w'.cell? ⟨w.heap.size, 1, none⟩ = some (.slice ad0 n0 cp0) ∧ w'.cell? ⟨w.heap.size + 1, 0, none⟩ = some (.int .i64 x1) ∧ w'.cell? ⟨w.heap.size + 1, 1, none⟩ = some (.slice ad1 n1 cp1) ∧ w2.heap.size ≤ w'.heap.size ∧ Below w2.heap.size w2 w') (first | assumption | exact rr4_start c2_0_0 c2_0_1 c2_1_0 c2_1_1 | exact rr4_drew (by assumption) | exact rr4_keep (by omega) (by omega) (by omega) (by omega) (by assumption) (by assumption) | exact rr4_box (by omega) (by omega) (by omega) (by omega) (by assumption))
    (first | (go_at_call 13; clear tk0; refine (toGraph_any x0 _ n0 Z0 _ (HA0.out.below (B2.out.trans ((rr4_out (by assumption)).2.mono (by omega)))) (by omega)).mono ?_; rintro e w3 ⟨y0, rfl, ry0, hb⟩; have hz3 := hb.size) | (go_at_call 13; clear tk1; refine (toGraph_any x1 _ n1 Z1 _ (HA1.out.below (B2.out.trans ((rr4_out (by assumption)).2.mono (by omega)))) (by omega)).mono ?_; rintro e w4 ⟨y1, rfl, ry1, hb⟩; have hz4 := hb.size; have ry0 := ry0.below hb (by first | exact Nat.le_refl _ | omega)) | (go_at_call 29; refine (Hs.out _ _ _ _ _ _ _ ry0 (by first | exact Nat.le_refl _ | omega) ry1 (by first | exact Nat.le_refl _ | omega)).mono ?_; rintro e w5 ⟨rfl, hb⟩))
  have hb5 : Below w2.heap.size w2 w5 := (rr4_out (by assumption)).2
  have sz5 : w2.heap.size ≤ w5.heap.size := hb5.size
  have st5 : Below w2.heap.size w2 w5 := hb5
  have c5_0_0 : w5.cell? ⟨w.heap.size, 0, none⟩ = some (.int .i64 x0) := by rw [(bcell st5).1 _ _ (by omega)]; exact c2_0_0
  have c5_0_1 : w5.cell? ⟨w.heap.size, 1, none⟩ = some (.slice ad0 n0 cp0) := by rw [(bcell st5).1 _ _ (by omega)]; exact c2_0_1
  have c5_1_0 : w5.cell? ⟨w.heap.size + 1, 0, none⟩ = some (.int .i64 x1) := by rw [(bcell st5).1 _ _ (by omega)]; exact c2_1_0
  have c5_1_1 : w5.cell? ⟨w.heap.size + 1, 1, none⟩ = some (.slice ad1 n1 cp1) := by rw [(bcell st5).1 _ _ (by omega)]; exact c2_1_1
  have B5 : Hid (Below w.heap.size w w5) := B2.out.trans (st5.mono (by omega))
  have d5_0 : w.heap.size < w5.heap.size := by omega
  have e5_0 : w.heap.size ≠ w5.heap.size := by omega
  have d5_1 : w.heap.size + 1 < w5.heap.size := by omega
  have e5_1 : w.heap.size + 1 ≠ w5.heap.size := by omega
  clear d2_0 e2_0 d2_1 e2_1 c2_0_0 c2_0_1 c2_1_0 c2_1_1 B2 st5 hb5
  go_wp2_with fail
  go_at_call 13
  refine (toGraph_any x0 _ n0 Z0 _ (HA0.out.below B5.out) (by omega)).mono ?_
  rintro e w6 ⟨xx0, rfl, hr, hb6⟩
  have sz6 : w5.heap.size ≤ w6.heap.size := hb6.size
  have st6 : Below w5.heap.size w5 w6 := hb6
  have c6_0_0 : w6.cell? ⟨w.heap.size, 0, none⟩ = some (.int .i64 x0) := by rw [(bcell st6).1 _ _ (by omega)]; exact c5_0_0
  have c6_0_1 : w6.cell? ⟨w.heap.size, 1, none⟩ = some (.slice ad0 n0 cp0) := by rw [(bcell st6).1 _ _ (by omega)]; exact c5_0_1
  have c6_1_0 : w6.cell? ⟨w.heap.size + 1, 0, none⟩ = some (.int .i64 x1) := by rw [(bcell st6).1 _ _ (by omega)]; exact c5_1_0
  have c6_1_1 : w6.cell? ⟨w.heap.size + 1, 1, none⟩ = some (.slice ad1 n1 cp1) := by rw [(bcell st6).1 _ _ (by omega)]; exact c5_1_1
  have B6 : Hid (Below w.heap.size w w6) := B5.out.trans (st6.mono (by omega))
  have R6_x0 : Hid (Row 3 w6 (w5.heap.size) (w6.heap.size) xx0 n0 (zs Z0 n0 3)) := hr
  have d6_0 : w.heap.size < w6.heap.size := by omega
  have e6_0 : w.heap.size ≠ w6.heap.size := by omega
  have d6_1 : w.heap.size + 1 < w6.heap.size := by omega
  have e6_1 : w.heap.size + 1 ≠ w6.heap.size := by omega
  clear d5_0 e5_0 d5_1 e5_1 c5_0_0 c5_0_1 c5_1_0 c5_1_1 B5 st6 hr hb6
  obtain ⟨xx0a, xx0c, rfl⟩ := R6_x0.out.slice
  go_wp2_with fail
  go_at_call 13
  refine (toGraph_any x1 _ n1 Z1 _ (HA1.out.below (Below.trans B6.out (by go_grown))) (by omega)).mono ?_
  rintro e w7 ⟨xx1, rfl, hr, hb7⟩
  have sz7 : w6.heap.size + 1 ≤ w7.heap.size := by have hh := hb7.size; simp at hh; omega
  have st7 : Below w6.heap.size w6 w7 := Below.trans (by go_grown) (hb7.mono (by simp))
  have c7_0_0 : w7.cell? ⟨w.heap.size, 0, none⟩ = some (.int .i64 x0) := by rw [(bcell st7).1 _ _ (by omega)]; exact c6_0_0
  have c7_0_1 : w7.cell? ⟨w.heap.size, 1, none⟩ = some (.slice ad0 n0 cp0) := by rw [(bcell st7).1 _ _ (by omega)]; exact c6_0_1
  have c7_1_0 : w7.cell? ⟨w.heap.size + 1, 0, none⟩ = some (.int .i64 x1) := by rw [(bcell st7).1 _ _ (by omega)]; exact c6_1_0
  have c7_1_1 : w7.cell? ⟨w.heap.size + 1, 1, none⟩ = some (.slice ad1 n1 cp1) := by rw [(bcell st7).1 _ _ (by omega)]; exact c6_1_1
  have c7_2_0 : w7.cell? ⟨w6.heap.size, 0, none⟩ = some (.int .i64 x0) := by rw [(bcell hb7).1 _ _ (by simp)]; simp
  have c7_2_1 : w7.cell? ⟨w6.heap.size, 1, none⟩ = some ((.slice xx0a n0 xx0c)) := by rw [(bcell hb7).1 _ _ (by simp)]; simp
  have B7 : Hid (Below w.heap.size w w7) := B6.out.trans (st7.mono (by omega))
  have R7_x0 : Hid (Row 3 w7 (w5.heap.size) (w6.heap.size) (.slice xx0a n0 xx0c) n0 (zs Z0 n0 3)) := R6_x0.out.below st7 (by omega)
  have R7_x1 : Hid (Row 3 w7 (w6.heap.size + 1) (w7.heap.size) xx1 n1 (zs Z1 n1 3)) := hr.wide (by simp) (Nat.le_refl _)
  have d7_0 : w.heap.size < w7.heap.size := by omega
  have e7_0 : w.heap.size ≠ w7.heap.size := by omega
  have d7_1 : w.heap.size + 1 < w7.heap.size := by omega
  have e7_1 : w.heap.size + 1 ≠ w7.heap.size := by omega
  have d7_2 : w6.heap.size < w7.heap.size := by omega
  have e7_2 : w6.heap.size ≠ w7.heap.size := by omega
  clear d6_0 e6_0 d6_1 e6_1 c6_0_0 c6_0_1 c6_1_0 c6_1_1 R6_x0 B6 st7 hb7
  obtain ⟨xx1a, xx1c, rfl⟩ := R7_x1.out.slice
  go_wp2_with fail
  go_at_call 30
  refine (Hi.out _ _ (.slice xx0a n0 xx0c) _ _ (.slice xx1a n1 xx1c) _ (R7_x0.out.below (B := w7.heap.size) (by go_grown) (by omega)) (by first | omega | (simp; omega) | simp) (R7_x1.out.below (B := w7.heap.size) (by go_grown) (by omega)) (by first | omega | (simp; omega) | simp)).mono ?_
  rintro e w8 ⟨rfl, hb8⟩
  have sz8 : w7.heap.size + 1 ≤ w8.heap.size := by have hh := hb8.size; simp at hh; omega
  have st8 : Below w7.heap.size w7 w8 := Below.trans (by go_grown) (hb8.mono (by simp))
  have c8_0_0 : w8.cell? ⟨w.heap.size, 0, none⟩ = some (.int .i64 x0) := by rw [(bcell st8).1 _ _ (by omega)]; exact c7_0_0
  have c8_0_1 : w8.cell? ⟨w.heap.size, 1, none⟩ = some (.slice ad0 n0 cp0) := by rw [(bcell st8).1 _ _ (by omega)]; exact c7_0_1
  have c8_1_0 : w8.cell? ⟨w.heap.size + 1, 0, none⟩ = some (.int .i64 x1) := by rw [(bcell st8).1 _ _ (by omega)]; exact c7_1_0
  have c8_1_1 : w8.cell? ⟨w.heap.size + 1, 1, none⟩ = some (.slice ad1 n1 cp1) := by rw [(bcell st8).1 _ _ (by omega)]; exact c7_1_1
  have c8_2_0 : w8.cell? ⟨w6.heap.size, 0, none⟩ = some (.int .i64 x0) := by rw [(bcell st8).1 _ _ (by omega)]; exact c7_2_0
  have c8_2_1 : w8.cell? ⟨w6.heap.size, 1, none⟩ = some ((.slice xx0a n0 xx0c)) := by rw [(bcell st8).1 _ _ (by omega)]; exact c7_2_1
  have c8_3_0 : w8.cell? ⟨w7.heap.size, 0, none⟩ = some (.int .i64 x1) := by rw [(bcell hb8).1 _ _ (by simp)]; simp
  have c8_3_1 : w8.cell? ⟨w7.heap.size, 1, none⟩ = some ((.slice xx1a n1 xx1c)) := by rw [(bcell hb8).1 _ _ (by simp)]; simp
  have B8 : Hid (Below w.heap.size w w8) := B7.out.trans (st8.mono (by omega))
  have R8_x0 : Hid (Row 3 w8 (w5.heap.size) (w6.heap.size) (.slice xx0a n0 xx0c) n0 (zs Z0 n0 3)) := R7_x0.out.below st8 (by omega)
  have R8_x1 : Hid (Row 3 w8 (w6.heap.size + 1) (w7.heap.size) (.slice xx1a n1 xx1c) n1 (zs Z1 n1 3)) := R7_x1.out.below st8 (by omega)
  have d8_0 : w.heap.size < w8.heap.size := by omega
  have e8_0 : w.heap.size ≠ w8.heap.size := by omega
  have d8_1 : w.heap.size + 1 < w8.heap.size := by omega
  have e8_1 : w.heap.size + 1 ≠ w8.heap.size := by omega
  have d8_2 : w6.heap.size < w8.heap.size := by omega
  have e8_2 : w6.heap.size ≠ w8.heap.size := by omega
  have d8_3 : w7.heap.size < w8.heap.size := by omega
  have e8_3 : w7.heap.size ≠ w8.heap.size := by omega
  clear d7_0 e7_0 d7_1 e7_1 d7_2 e7_2 c7_0_0 c7_0_1 c7_1_0 c7_1_1 c7_2_0 c7_2_1 R7_x0 R7_x1 B7 st8 hb8
  go_wp2_with fail
  go_region_held3 (fun w' => w'.cell? ⟨w.heap.size, 0, none⟩ = some (.int .i64 x0) ∧ w'.cell? ⟨w.heap.size, 1, none⟩ = some (.slice ad0 n0 cp0) ∧ w'.cell? ⟨w.heap.size + 1, 0, none⟩ = some (.int .i64 x1) ∧ w'.cell? ⟨w.heap.size + 1, 1, none⟩ = some (.slice ad1 n1 cp1) ∧ w'.cell? ⟨w6.heap.size, 0, none⟩ = some (.int .i64 x0) ∧ w'.cell? ⟨w6.heap.size, 1, none⟩ = some ((.slice xx0a n0 xx0c)) ∧ w'.cell? ⟨w7.heap.size, 0, none⟩ = some (.int .i64 x1) ∧ w'.cell? ⟨w7.heap.size, 1, none⟩ = some ((.slice xx1a n1 xx1c)) ∧ w8.heap.size ≤ w'.heap.size ∧ Below w8.heap.size w8 w') (first | assumption | exact rr8_start c8_0_0 c8_0_1 c8_1_0 c8_1_1 c8_2_0 c8_2_1 c8_3_0 c8_3_1 | exact rr8_drew (by assumption) | exact rr8_keep (by omega) (by omega) (by omega) (by omega) (by omega) (by omega) (by omega) (by omega) (by assumption) (by assumption))
    (first | (go_at_call 13; refine (toGraph_any x0 _ n0 Z0 _ (HA0.out.below (B8.out.trans ((rr8_out (by assumption)).2.mono (by omega)))) (by omega)).mono ?_; rintro e w9 ⟨y0, rfl, ry0, hb⟩; have hz9 := hb.size) | (go_at_call 15; refine (eqGraph_same x0 (zs Z0 n0 3) n0 _ _ _ _ _ _ _ (R8_x0.out.below (rr8_out (by assumption)).2 (by omega)) ry0 (by have hq := rr8_out (by assumption); omega) (Nat.le_refl _)).mono ?_; rintro e w10 ⟨rfl, hb⟩))
  have hb10 : Below w8.heap.size w8 w10 := (rr8_out (by assumption)).2
  have sz10 : w8.heap.size ≤ w10.heap.size := hb10.size
  have st10 : Below w8.heap.size w8 w10 := hb10
  have c10_0_0 : w10.cell? ⟨w.heap.size, 0, none⟩ = some (.int .i64 x0) := by rw [(bcell st10).1 _ _ (by omega)]; exact c8_0_0
  have c10_0_1 : w10.cell? ⟨w.heap.size, 1, none⟩ = some (.slice ad0 n0 cp0) := by rw [(bcell st10).1 _ _ (by omega)]; exact c8_0_1
  have c10_1_0 : w10.cell? ⟨w.heap.size + 1, 0, none⟩ = some (.int .i64 x1) := by rw [(bcell st10).1 _ _ (by omega)]; exact c8_1_0
  have c10_1_1 : w10.cell? ⟨w.heap.size + 1, 1, none⟩ = some (.slice ad1 n1 cp1) := by rw [(bcell st10).1 _ _ (by omega)]; exact c8_1_1
  have c10_2_0 : w10.cell? ⟨w6.heap.size, 0, none⟩ = some (.int .i64 x0) := by rw [(bcell st10).1 _ _ (by omega)]; exact c8_2_0
  have c10_2_1 : w10.cell? ⟨w6.heap.size, 1, none⟩ = some ((.slice xx0a n0 xx0c)) := by rw [(bcell st10).1 _ _ (by omega)]; exact c8_2_1
  have c10_3_0 : w10.cell? ⟨w7.heap.size, 0, none⟩ = some (.int .i64 x1) := by rw [(bcell st10).1 _ _ (by omega)]; exact c8_3_0
  have c10_3_1 : w10.cell? ⟨w7.heap.size, 1, none⟩ = some ((.slice xx1a n1 xx1c)) := by rw [(bcell st10).1 _ _ (by omega)]; exact c8_3_1
  have B10 : Hid (Below w.heap.size w w10) := B8.out.trans (st10.mono (by omega))
  have R10_x0 : Hid (Row 3 w10 (w5.heap.size) (w6.heap.size) (.slice xx0a n0 xx0c) n0 (zs Z0 n0 3)) := R8_x0.out.below st10 (by omega)
  have R10_x1 : Hid (Row 3 w10 (w6.heap.size + 1) (w7.heap.size) (.slice xx1a n1 xx1c) n1 (zs Z1 n1 3)) := R8_x1.out.below st10 (by omega)
  have d10_0 : w.heap.size < w10.heap.size := by omega
  have e10_0 : w.heap.size ≠ w10.heap.size := by omega
  have d10_1 : w.heap.size + 1 < w10.heap.size := by omega
  have e10_1 : w.heap.size + 1 ≠ w10.heap.size := by omega
  have d10_2 : w6.heap.size < w10.heap.size := by omega
  have e10_2 : w6.heap.size ≠ w10.heap.size := by omega
  have d10_3 : w7.heap.size < w10.heap.size := by omega
  have e10_3 : w7.heap.size ≠ w10.heap.size := by omega
  clear d8_0 e8_0 d8_1 e8_1 d8_2 e8_2 d8_3 e8_3 c8_0_0 c8_0_1 c8_1_0 c8_1_1 c8_2_0 c8_2_1 c8_3_0 c8_3_1 R8_x0 R8_x1 B8 st10 hb10
  go_wp2_with fail
  go_region_held3 (fun w' => w'.cell? ⟨w.heap.size, 0, none⟩ = some (.int .i64 x0) ∧ w'.cell? ⟨w.heap.size, 1, none⟩ = some (.slice ad0 n0 cp0) ∧ w'.cell? ⟨w.heap.size + 1, 0, none⟩ = some (.int .i64 x1) ∧ w'.cell? ⟨w.heap.size + 1, 1, none⟩ = some (.slice ad1 n1 cp1) ∧ w'.cell? ⟨w6.heap.size, 0, none⟩ = some (.int .i64 x0) ∧ w'.cell? ⟨w6.heap.size, 1, none⟩ = some ((.slice xx0a n0 xx0c)) ∧ w'.cell? ⟨w7.heap.size, 0, none⟩ = some (.int .i64 x1) ∧ w'.cell? ⟨w7.heap.size, 1, none⟩ = some ((.slice xx1a n1 xx1c)) ∧ w10.heap.size ≤ w'.heap.size ∧ Below w10.heap.size w10 w') (first | assumption | exact rr8_start c10_0_0 c10_0_1 c10_1_0 c10_1_1 c10_2_0 c10_2_1 c10_3_0 c10_3_1 | exact rr8_drew (by assumption) | exact rr8_keep (by omega) (by omega) (by omega) (by omega) (by omega) (by omega) (by omega) (by omega) (by assumption) (by assumption))
    (first | (go_at_call 13; refine (toGraph_any x1 _ n1 Z1 _ (HA1.out.below (B10.out.trans ((rr8_out (by assumption)).2.mono (by omega)))) (by omega)).mono ?_; rintro e w11 ⟨y1, rfl, ry1, hb⟩; have hz11 := hb.size) | (go_at_call 15; refine (eqGraph_same x1 (zs Z1 n1 3) n1 _ _ _ _ _ _ _ (R10_x1.out.below (rr8_out (by assumption)).2 (by omega)) ry1 (by have hq := rr8_out (by assumption); omega) (Nat.le_refl _)).mono ?_; rintro e w12 ⟨rfl, hb⟩))
  have hb12 : Below w10.heap.size w10 w12 := (rr8_out (by assumption)).2
  have sz12 : w10.heap.size ≤ w12.heap.size := hb12.size
  have st12 : Below w10.heap.size w10 w12 := hb12
  have c12_0_0 : w12.cell? ⟨w.heap.size, 0, none⟩ = some (.int .i64 x0) := by rw [(bcell st12).1 _ _ (by omega)]; exact c10_0_0
  have c12_0_1 : w12.cell? ⟨w.heap.size, 1, none⟩ = some (.slice ad0 n0 cp0) := by rw [(bcell st12).1 _ _ (by omega)]; exact c10_0_1
  have c12_1_0 : w12.cell? ⟨w.heap.size + 1, 0, none⟩ = some (.int .i64 x1) := by rw [(bcell st12).1 _ _ (by omega)]; exact c10_1_0
  have c12_1_1 : w12.cell? ⟨w.heap.size + 1, 1, none⟩ = some (.slice ad1 n1 cp1) := by rw [(bcell st12).1 _ _ (by omega)]; exact c10_1_1
  have c12_2_0 : w12.cell? ⟨w6.heap.size, 0, none⟩ = some (.int .i64 x0) := by rw [(bcell st12).1 _ _ (by omega)]; exact c10_2_0
  have c12_2_1 : w12.cell? ⟨w6.heap.size, 1, none⟩ = some ((.slice xx0a n0 xx0c)) := by rw [(bcell st12).1 _ _ (by omega)]; exact c10_2_1
  have c12_3_0 : w12.cell? ⟨w7.heap.size, 0, none⟩ = some (.int .i64 x1) := by rw [(bcell st12).1 _ _ (by omega)]; exact c10_3_0
  have c12_3_1 : w12.cell? ⟨w7.heap.size, 1, none⟩ = some ((.slice xx1a n1 xx1c)) := by rw [(bcell st12).1 _ _ (by omega)]; exact c10_3_1
  have B12 : Hid (Below w.heap.size w w12) := B10.out.trans (st12.mono (by omega))
  have R12_x0 : Hid (Row 3 w12 (w5.heap.size) (w6.heap.size) (.slice xx0a n0 xx0c) n0 (zs Z0 n0 3)) := R10_x0.out.below st12 (by omega)
  have R12_x1 : Hid (Row 3 w12 (w6.heap.size + 1) (w7.heap.size) (.slice xx1a n1 xx1c) n1 (zs Z1 n1 3)) := R10_x1.out.below st12 (by omega)
  have d12_0 : w.heap.size < w12.heap.size := by omega
  have e12_0 : w.heap.size ≠ w12.heap.size := by omega
  have d12_1 : w.heap.size + 1 < w12.heap.size := by omega
  have e12_1 : w.heap.size + 1 ≠ w12.heap.size := by omega
  have d12_2 : w6.heap.size < w12.heap.size := by omega
  have e12_2 : w6.heap.size ≠ w12.heap.size := by omega
  have d12_3 : w7.heap.size < w12.heap.size := by omega
  have e12_3 : w7.heap.size ≠ w12.heap.size := by omega
  clear d10_0 e10_0 d10_1 e10_1 d10_2 e10_2 d10_3 e10_3 c10_0_0 c10_0_1 c10_1_0 c10_1_1 c10_2_0 c10_2_1 c10_3_0 c10_3_1 R10_x0 R10_x1 B10 st12 hb12
  go_wp2_with fail
  go_ret
  exact ⟨rfl, B12.out⟩

set_option maxHeartbeats 2000000 in
theorem lawExactCountBad_big0 (x0 : Int) (s0 : Value) (n0 : Nat) (Z0 : Nat → Int) (x1 : Int) (s1 : Value) (n1 : Nat) (Z1 : Nat → Int) (a2 : Int) (w : World) (hA0 : Arg 3 w s0 n0 Z0) (hA1 : Arg 3 w s1 n1 Z1) (hn : 1048576 < n0) :
    Calls Try.prog 8 #[.agg #[.int .i64 x0, s0], .agg #[.int .i64 x1, s1], .int .i64 a2] w fun e w' => e = .returned (.bool true) ∧ Below w.heap.size w w' := by
  have hx0 := hA0.2.1
  have hx1 := hA1.2.1
  obtain ⟨ad0, cp0, rfl⟩ := hA0.slice
  obtain ⟨ad1, cp1, rfl⟩ := hA1.slice
  clear hA0 hA1
  have H0 := fun w => szGraph_any x0 ad0 n0 cp0 (1048576) w hx0 (by omega) (by omega)
  have hneg0 : ((1048576 : Int) - (n0 : Int) < 0) := by omega
  simp only [if_pos hneg0] at H0
  clear hneg0
  go_enter Try.func8, Try.ntmps8
  go_wp2_with fail
  go_at_call 11
  refine (H0 _).mono ?_
  rintro e w1 ⟨rfl, hb1⟩
  have sz1 : w.heap.size + 2 ≤ w1.heap.size := by have hh := hb1.size; simp at hh; omega
  have st1 : Below w.heap.size w w1 := Below.trans (by go_grown) (hb1.mono (by simp; omega))
  have c1_0_0 : w1.cell? ⟨w.heap.size, 0, none⟩ = some (.int .i64 x0) := by rw [(bcell hb1).1 _ _ (by simp; omega), old_box (by simp)]; simp
  have c1_0_1 : w1.cell? ⟨w.heap.size, 1, none⟩ = some (.slice ad0 n0 cp0) := by rw [(bcell hb1).1 _ _ (by simp; omega), old_box (by simp)]; simp
  have c1_1_0 : w1.cell? ⟨w.heap.size + 1, 0, none⟩ = some (.int .i64 x1) := by rw [(bcell hb1).1 _ _ (by simp)]; simp
  have c1_1_1 : w1.cell? ⟨w.heap.size + 1, 1, none⟩ = some (.slice ad1 n1 cp1) := by rw [(bcell hb1).1 _ _ (by simp)]; simp
  have B1 : Hid (Below w.heap.size w w1) := st1
  have d1_0 : w.heap.size < w1.heap.size := by omega
  have e1_0 : w.heap.size ≠ w1.heap.size := by omega
  have d1_1 : w.heap.size + 1 < w1.heap.size := by omega
  have e1_1 : w.heap.size + 1 ≠ w1.heap.size := by omega
  clear st1 hb1
  go_wp2_with fail
  go_ret
  exact ⟨rfl, B1.out⟩

set_option maxHeartbeats 2000000 in
theorem lawExactCountBad_big1 (x0 : Int) (s0 : Value) (n0 : Nat) (Z0 : Nat → Int) (x1 : Int) (s1 : Value) (n1 : Nat) (Z1 : Nat → Int) (a2 : Int) (w : World) (hA0 : Arg 3 w s0 n0 Z0) (hA1 : Arg 3 w s1 n1 Z1) (hf : n0 ≤ 1048576) (hn : 1048576 < n0 + n1) :
    Calls Try.prog 8 #[.agg #[.int .i64 x0, s0], .agg #[.int .i64 x1, s1], .int .i64 a2] w fun e w' => e = .returned (.bool true) ∧ Below w.heap.size w w' := by
  have hx0 := hA0.2.1
  have hx1 := hA1.2.1
  obtain ⟨ad0, cp0, rfl⟩ := hA0.slice
  obtain ⟨ad1, cp1, rfl⟩ := hA1.slice
  clear hA0 hA1
  have H0 := fun w => szGraph_any x0 ad0 n0 cp0 (1048576) w hx0 (by omega) (by omega)
  have hneg0 : ¬ ((1048576 : Int) - (n0 : Int) < 0) := by omega
  simp only [if_neg hneg0] at H0
  have H1 := fun w => szGraph_any x1 ad1 n1 cp1 (1048576 - (n0 : Int)) w hx1 (by omega) (by omega)
  have hneg1 : ((1048576 - (n0 : Int) : Int) - (n1 : Int) < 0) := by omega
  simp only [if_pos hneg1] at H1
  clear hneg1
  go_enter Try.func8, Try.ntmps8
  go_wp2_with fail
  go_at_call 11
  refine (H0 _).mono ?_
  rintro e w1 ⟨rfl, hb1⟩
  have sz1 : w.heap.size + 2 ≤ w1.heap.size := by have hh := hb1.size; simp at hh; omega
  have st1 : Below w.heap.size w w1 := Below.trans (by go_grown) (hb1.mono (by simp; omega))
  have c1_0_0 : w1.cell? ⟨w.heap.size, 0, none⟩ = some (.int .i64 x0) := by rw [(bcell hb1).1 _ _ (by simp; omega), old_box (by simp)]; simp
  have c1_0_1 : w1.cell? ⟨w.heap.size, 1, none⟩ = some (.slice ad0 n0 cp0) := by rw [(bcell hb1).1 _ _ (by simp; omega), old_box (by simp)]; simp
  have c1_1_0 : w1.cell? ⟨w.heap.size + 1, 0, none⟩ = some (.int .i64 x1) := by rw [(bcell hb1).1 _ _ (by simp)]; simp
  have c1_1_1 : w1.cell? ⟨w.heap.size + 1, 1, none⟩ = some (.slice ad1 n1 cp1) := by rw [(bcell hb1).1 _ _ (by simp)]; simp
  have B1 : Hid (Below w.heap.size w w1) := st1
  have d1_0 : w.heap.size < w1.heap.size := by omega
  have e1_0 : w.heap.size ≠ w1.heap.size := by omega
  have d1_1 : w.heap.size + 1 < w1.heap.size := by omega
  have e1_1 : w.heap.size + 1 ≠ w1.heap.size := by omega
  clear st1 hb1
  go_wp2_with fail
  go_at_call 11
  refine (H1 _).mono ?_
  rintro e w2 ⟨rfl, hb2⟩
  have sz2 : w1.heap.size ≤ w2.heap.size := hb2.size
  have st2 : Below w1.heap.size w1 w2 := hb2
  have c2_0_0 : w2.cell? ⟨w.heap.size, 0, none⟩ = some (.int .i64 x0) := by rw [(bcell st2).1 _ _ (by omega)]; exact c1_0_0
  have c2_0_1 : w2.cell? ⟨w.heap.size, 1, none⟩ = some (.slice ad0 n0 cp0) := by rw [(bcell st2).1 _ _ (by omega)]; exact c1_0_1
  have c2_1_0 : w2.cell? ⟨w.heap.size + 1, 0, none⟩ = some (.int .i64 x1) := by rw [(bcell st2).1 _ _ (by omega)]; exact c1_1_0
  have c2_1_1 : w2.cell? ⟨w.heap.size + 1, 1, none⟩ = some (.slice ad1 n1 cp1) := by rw [(bcell st2).1 _ _ (by omega)]; exact c1_1_1
  have B2 : Hid (Below w.heap.size w w2) := B1.out.trans (st2.mono (by omega))
  have d2_0 : w.heap.size < w2.heap.size := by omega
  have e2_0 : w.heap.size ≠ w2.heap.size := by omega
  have d2_1 : w.heap.size + 1 < w2.heap.size := by omega
  have e2_1 : w.heap.size + 1 ≠ w2.heap.size := by omega
  clear d1_0 e1_0 d1_1 e1_1 c1_0_0 c1_0_1 c1_1_0 c1_1_1 B1 st2 hb2
  go_wp2_with fail
  go_ret
  exact ⟨rfl, B2.out⟩

end Go.Proofs.Ytjenjdhoblcohaa
