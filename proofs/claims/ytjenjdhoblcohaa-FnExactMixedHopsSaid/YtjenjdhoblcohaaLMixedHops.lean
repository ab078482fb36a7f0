/- The law of MixedHops over contracts. -/
import Derived.Test.YtjenjdhoblcohaaL0
import Derived.Test.YtjenjdhoblcohaaGm
namespace Go.Proofs.Ytjenjdhoblcohaa
open Go.RowKit


set_option maxRecDepth 100000 in
set_option maxHeartbeats 8000000 in
theorem lawExactMixedHops_fit (x0 : Int) (s0 : Value) (n0 : Nat) (Z0 : Nat → Int) (x1 : Int) (s1 : Value) (n1 : Nat) (Z1 : Nat → Int) (s2 : Value) (n2 : Nat) (Z2 : Nat → Int) (a3 : Int) (w : World) (hA0 : Arg 3 w s0 n0 Z0) (hA1 : Arg 3 w s1 n1 Z1) (hA2 : Arg 1 w s2 n2 Z2) (hn : n0 + n1 ≤ 1048576) (hn2 : n2 ≤ 1048576) (m0 : Nat) (ZR0 : List Int) (hm : m0 ≤ 1100000)
    (hs : ∀ (lo0 hi0 : Nat) (v0 : Value) (lo1 hi1 : Nat) (v1 : Value) (lo2 hi2 : Nat) (v2 : Value) (w : World), Row 3 w lo0 hi0 v0 n0 (zs Z0 n0 3) → hi0 ≤ w.heap.size → Row 3 w lo1 hi1 v1 n1 (zs Z1 n1 3) → hi1 ≤ w.heap.size → Row 1 w lo2 hi2 v2 n2 (zs Z2 n2 1) → hi2 ≤ w.heap.size → Calls Try.prog 16 #[.agg #[.int .i64 x0, v0], .agg #[.int .i64 x1, v1], v2, .int .i64 a3] w fun e w' => ∃ rv, e = .returned (rv) ∧ Row 1 w' w.heap.size w'.heap.size rv m0 ZR0 ∧ Below w.heap.size w w')
    (hi : ∀ (lo0 hi0 : Nat) (v0 : Value) (lo1 hi1 : Nat) (v1 : Value) (lo2 hi2 : Nat) (v2 : Value) (w : World), Row 3 w lo0 hi0 v0 n0 (zs Z0 n0 3) → hi0 ≤ w.heap.size → Row 3 w lo1 hi1 v1 n1 (zs Z1 n1 3) → hi1 ≤ w.heap.size → Row 1 w lo2 hi2 v2 n2 (zs Z2 n2 1) → hi2 ≤ w.heap.size → Calls Try.prog 18 #[.agg #[.int .i64 x0, v0], .agg #[.int .i64 x1, v1], v2, .int .i64 a3] w fun e w' => ∃ rv, e = .returned (rv) ∧ Row 1 w' w.heap.size w'.heap.size rv m0 ZR0 ∧ Below w.heap.size w w') :
    Calls Try.prog 4 #[.agg #[.int .i64 x0, s0], .agg #[.int .i64 x1, s1], s2, .int .i64 a3] w fun e w' => e = .returned (.bool true) ∧ Below w.heap.size w w' := by
  have hx0 := hA0.2.1
  have HA0 := Lib.hid hA0
  obtain ⟨ad0, cp0, rfl⟩ := hA0.slice
  clear hA0
  have hx1 := hA1.2.1
  have HA1 := Lib.hid hA1
  obtain ⟨ad1, cp1, rfl⟩ := hA1.slice
  clear hA1
  have hx2 := hA2.2.1
  have HA2 := Lib.hid hA2
  obtain ⟨ad2, cp2, rfl⟩ := hA2.slice
  clear hA2
  have Hs := Lib.hid hs
  have Hi := Lib.hid hi
  clear hs hi
  obtain ⟨KG, hKG⟩ : ∃ K : Int, K = 1 + ((m0 * 1 : Nat) : Int) := ⟨_, rfl⟩
  have hKG0 : 0 ≤ KG := by omega
  have hKG1 : ¬ (KG < 0) := by omega
  have HKG := Lib.hid hKG
  clear hKG
  obtain ⟨KX0, hKX0⟩ : ∃ K : Int, K = 1 + ((n0 * 3 : Nat) : Int) := ⟨_, rfl⟩
  have hKX00 : 0 ≤ KX0 := by omega
  have hKX01 : ¬ (KX0 < 0) := by omega
  have hKX02 : KX0 ≤ 1000000000 := by omega
  have HKX0 := Lib.hid hKX0
  obtain ⟨KX1, hKX1⟩ : ∃ K : Int, K = KX0 + ((n1 * 3 : Nat) : Int) := ⟨_, rfl⟩
  have hKX10 : 0 ≤ KX1 := by omega
  have hKX11 : ¬ (KX1 < 0) := by omega
  have hKX12 : KX1 ≤ 1000000000 := by omega
  have HKX1 := Lib.hid hKX1
  obtain ⟨KX2, hKX2⟩ : ∃ K : Int, K = KX1 + ((n2 * 1 : Nat) : Int) := ⟨_, rfl⟩
  have hKX20 : 0 ≤ KX2 := by omega
  have hKX21 : ¬ (KX2 < 0) := by omega
  have hKX22 : KX2 ≤ 1000000000 := by omega
  have HKX2 := Lib.hid hKX2
  clear hKX0
  clear hKX1
  clear hKX2
  have H0 := fun w => szGraph_any x0 ad0 n0 cp0 (1048576) w hx0 (by omega) (by omega)
  have hneg0 : ¬ ((1048576 : Int) - (n0 : Int) < 0) := by omega
  simp only [if_neg hneg0] at H0
  have H1 := fun w => szGraph_any x1 ad1 n1 cp1 (1048576 - (n0 : Int)) w hx1 (by omega) (by omega)
  have hneg1 : ¬ ((1048576 - (n0 : Int) : Int) - (n1 : Int) < 0) := by omega
  simp only [if_neg hneg1] at H1
  have hq2 : decide ((n2 : Int) > 1048576) = false := decide_eq_false (by omega)
  have hp2 : ¬ ((n2 : Int) > 1048576) := by omega
  go_enter Try.func4, Try.ntmps4
  go_wp2_with fail
  go_at_call 11
  refine (H0 _).mono ?_
  rintro e w1 ⟨rfl, hb1⟩
  have sz1 : w.heap.size + 2 ≤ w1.heap.size := by have hh := hb1.size; simp at hh; omega
  have st1 : Below w.heap.size w w1 := Below.trans (by go_grown) (hb1.mono (by simp; omega))
  have c1_0_0 : w1.cell? ⟨w.heap.size, 0, none⟩ = some (.int .i64 x0) := by rw [(bcell hb1).1 _ _ (by simp; omega), old_box (by simp)]; simp
  have c1_0_1 : w1.cell? ⟨w.heap.size, 1, none⟩ = some (.slice ad0 n0 cp0) := by rw [(bcell hb1).1 _ _ (by simp; omega), old_box (by simp)]; simp
  have c1_1_0 : w1.cell? ⟨w.heap.size + 1, 0, none⟩ = some (.int .i64 x1) := by rw [(bcell hb1).1 _ _ (by simp)]; simp
  have c1_1_1 : w1.cell? ⟨w.heap.size + 1, 1, none⟩ = some (.slice ad1 n1 cp1) := by rw [(bcell hb1).1 _ _ (by simp)]; simp
  have B1 : Hid (Below w.heap.size w w1) := st1
  have d1_0 : w.heap.size < w1.heap.size := by omega
  have e1_0 : w.heap.size ≠ w1.heap.size := by omega
  have d1_1 : w.heap.size + 1 < w1.heap.size := by omega
  have e1_1 : w.heap.size + 1 ≠ w1.heap.size := by omega
  clear st1 hb1
  go_wp2_with fail
  go_at_call 11
  refine (H1 _).mono ?_
  rintro e w2 ⟨rfl, hb2⟩
  have sz2 : w1.heap.size ≤ w2.heap.size := hb2.size
  have st2 : Below w1.heap.size w1 w2 := hb2
  have c2_0_0 : w2.cell? ⟨w.heap.size, 0, none⟩ = some (.int .i64 x0) := by rw [(bcell st2).1 _ _ (by omega)]; exact c1_0_0
  have c2_0_1 : w2.cell? ⟨w.heap.size, 1, none⟩ = some (.slice ad0 n0 cp0) := by rw [(bcell st2).1 _ _ (by omega)]; exact c1_0_1
  have c2_1_0 : w2.cell? ⟨w.heap.size + 1, 0, none⟩ = some (.int .i64 x1) := by rw [(bcell st2).1 _ _ (by omega)]; exact c1_1_0
  have c2_1_1 : w2.cell? ⟨w.heap.size + 1, 1, none⟩ = some (.slice ad1 n1 cp1) := by rw [(bcell st2).1 _ _ (by omega)]; exact c1_1_1
  have B2 : Hid (Below w.heap.size w w2) := B1.out.trans (st2.mono (by omega))
  have d2_0 : w.heap.size < w2.heap.size := by omega
  have e2_0 : w.heap.size ≠ w2.heap.size := by omega
  have d2_1 : w.heap.size + 1 < w2.heap.size := by omega
  have e2_1 : w.heap.size + 1 ≠ w2.heap.size := by omega
  clear d1_0 e1_0 d1_1 e1_1 c1_0_0 c1_0_1 c1_1_0 c1_1_1 B1 st2 hb2
  go_wp2_with fail
  have tk0 : True := trivial
  have tk1 : True := trivial
  have tk2 : True := trivial
  go_region_held3 (fun w' => w'.cell? ⟨w.heap.size, 0, none⟩ = some (.int .i64 x0) ∧ w'.cell? ⟨w.heap.size, 1, none⟩ = some (.slice ad0 n0 cp0) ∧ w'.cell? ⟨w.heap.size + 1, 0, none⟩ = some (.int .i64 x1) ∧ w'.cell? ⟨w.heap.size + 1, 1, none⟩ = some (.slice ad1 n1 cp1) ∧ w2.heap.size ≤ w'.heap.size ∧ Below w2.heap.size w2 w') (first | assumption | exact rr4_start c2_0_0 c2_0_1 c2_1_0 c2_1_1 | exact rr4_drew (by assumption) | exact rr4_keep (by omega) (by omega) (by omega) (by omega) (by assumption) (by assumption) | exact rr4_box (by omega) (by omega) (by omega) (by omega) (by assumption))
    (first | (go_at_call 13; clear tk0; refine (toGraph_any x0 _ n0 Z0 _ (HA0.out.below (B2.out.trans ((rr4_out (by assumption)).2.mono (by omega)))) (by omega)).mono ?_; rintro e w3 ⟨y0, rfl, ry0, hb⟩; have hz3 := hb.size) | (go_at_call 13; clear tk1; refine (toGraph_any x1 _ n1 Z1 _ (HA1.out.below (B2.out.trans ((rr4_out (by assumption)).2.mono (by omega)))) (by omega)).mono ?_; rintro e w4 ⟨y1, rfl, ry1, hb⟩; have hz4 := hb.size; have ry0 := ry0.below hb (by first | exact Nat.le_refl _ | omega)) | (go_at_call 17; clear tk2; refine (toIntS_any _ n2 Z2 _ (HA2.out.below (B2.out.trans ((rr4_out (by assumption)).2.mono (by omega)))) (by omega)).mono ?_; rintro e w5 ⟨y2, rfl, ry2, hb⟩; have hz5 := hb.size; have ry0 := ry0.below hb (by first | exact Nat.le_refl _ | omega); have ry1 := ry1.below hb (by first | exact Nat.le_refl _ | omega)) | (go_at_call 16; refine (Hs.out _ _ _ _ _ _ _ _ _ _ ry0 (by first | exact Nat.le_refl _ | omega) ry1 (by first | exact Nat.le_refl _ | omega) ry2 (by first | exact Nat.le_refl _ | omega)).mono ?_; rintro e w6 ⟨RWv, rfl, RWr, hb⟩; obtain ⟨RWva, RWvc, rfl⟩ := RWr.slice; have hz6 := hb.size))
  have hb6 : Below w2.heap.size w2 w6 := (rr4_out (by assumption)).2
  have hdr : w2.drew.heap.size = w2.heap.size := rfl
  have RWs : w2.heap.size ≤ w5.heap.size := by omega
  clear hdr
  have sz6 : w2.heap.size ≤ w6.heap.size := hb6.size
  have st6 : Below w2.heap.size w2 w6 := hb6
  have c6_0_0 : w6.cell? ⟨w.heap.size, 0, none⟩ = some (.int .i64 x0) := by rw [(bcell st6).1 _ _ (by omega)]; exact c2_0_0
  have c6_0_1 : w6.cell? ⟨w.heap.size, 1, none⟩ = some (.slice ad0 n0 cp0) := by rw [(bcell st6).1 _ _ (by omega)]; exact c2_0_1
  have c6_1_0 : w6.cell? ⟨w.heap.size + 1, 0, none⟩ = some (.int .i64 x1) := by rw [(bcell st6).1 _ _ (by omega)]; exact c2_1_0
  have c6_1_1 : w6.cell? ⟨w.heap.size + 1, 1, none⟩ = some (.slice ad1 n1 cp1) := by rw [(bcell st6).1 _ _ (by omega)]; exact c2_1_1
  have B6 : Hid (Below w.heap.size w w6) := B2.out.trans (st6.mono (by omega))
  have R6_RW : Hid (Row 1 w6 (w5.heap.size) (w6.heap.size) (.slice RWva m0 RWvc) m0 ZR0) := RWr
  have d6_0 : w.heap.size < w6.heap.size := by omega
  have e6_0 : w.heap.size ≠ w6.heap.size := by omega
  have d6_1 : w.heap.size + 1 < w6.heap.size := by omega
  have e6_1 : w.heap.size + 1 ≠ w6.heap.size := by omega
  clear d2_0 e2_0 d2_1 e2_1 c2_0_0 c2_0_1 c2_1_0 c2_1_1 B2 st6 RWr hb6
  go_wp2_with fail
  go_at_call 13
  refine (toGraph_any x0 _ n0 Z0 _ (HA0.out.below B6.out) (by omega)).mono ?_
  rintro e w7 ⟨xx0, rfl, hr, hb7⟩
  have sz7 : w6.heap.size ≤ w7.heap.size := hb7.size
  have st7 : Below w6.heap.size w6 w7 := hb7
  have c7_0_0 : w7.cell? ⟨w.heap.size, 0, none⟩ = some (.int .i64 x0) := by rw [(bcell st7).1 _ _ (by omega)]; exact c6_0_0
  have c7_0_1 : w7.cell? ⟨w.heap.size, 1, none⟩ = some (.slice ad0 n0 cp0) := by rw [(bcell st7).1 _ _ (by omega)]; exact c6_0_1
  have c7_1_0 : w7.cell? ⟨w.heap.size + 1, 0, none⟩ = some (.int .i64 x1) := by rw [(bcell st7).1 _ _ (by omega)]; exact c6_1_0
  have c7_1_1 : w7.cell? ⟨w.heap.size + 1, 1, none⟩ = some (.slice ad1 n1 cp1) := by rw [(bcell st7).1 _ _ (by omega)]; exact c6_1_1
  have B7 : Hid (Below w.heap.size w w7) := B6.out.trans (st7.mono (by omega))
  have R7_RW : Hid (Row 1 w7 (w5.heap.size) (w6.heap.size) (.slice RWva m0 RWvc) m0 ZR0) := R6_RW.out.below st7 (by omega)
  have R7_x0 : Hid (Row 3 w7 (w6.heap.size) (w7.heap.size) xx0 n0 (zs Z0 n0 3)) := hr
  have d7_0 : w.heap.size < w7.heap.size := by omega
  have e7_0 : w.heap.size ≠ w7.heap.size := by omega
  have d7_1 : w.heap.size + 1 < w7.heap.size := by omega
  have e7_1 : w.heap.size + 1 ≠ w7.heap.size := by omega
  clear d6_0 e6_0 d6_1 e6_1 c6_0_0 c6_0_1 c6_1_0 c6_1_1 R6_RW B6 st7 hr hb7
  obtain ⟨xx0a, xx0c, rfl⟩ := R7_x0.out.slice
  go_wp2_with fail
  go_at_call 13
  refine (toGraph_any x1 _ n1 Z1 _ (HA1.out.below (Below.trans B7.out (by go_grown))) (by omega)).mono ?_
  rintro e w8 ⟨xx1, rfl, hr, hb8⟩
  have sz8 : w7.heap.size + 1 ≤ w8.heap.size := by have hh := hb8.size; simp at hh; omega
  have st8 : Below w7.heap.size w7 w8 := Below.trans (by go_grown) (hb8.mono (by simp))
  have c8_0_0 : w8.cell? ⟨w.heap.size, 0, none⟩ = some (.int .i64 x0) := by rw [(bcell st8).1 _ _ (by omega)]; exact c7_0_0
  have c8_0_1 : w8.cell? ⟨w.heap.size, 1, none⟩ = some (.slice ad0 n0 cp0) := by rw [(bcell st8).1 _ _ (by omega)]; exact c7_0_1
  have c8_1_0 : w8.cell? ⟨w.heap.size + 1, 0, none⟩ = some (.int .i64 x1) := by rw [(bcell st8).1 _ _ (by omega)]; exact c7_1_0
  have c8_1_1 : w8.cell? ⟨w.heap.size + 1, 1, none⟩ = some (.slice ad1 n1 cp1) := by rw [(bcell st8).1 _ _ (by omega)]; exact c7_1_1
  have c8_2_0 : w8.cell? ⟨w7.heap.size, 0, none⟩ = some (.int .i64 x0) := by rw [(bcell hb8).1 _ _ (by simp)]; simp
  have c8_2_1 : w8.cell? ⟨w7.heap.size, 1, none⟩ = some ((.slice xx0a n0 xx0c)) := by rw [(bcell hb8).1 _ _ (by simp)]; simp
  have B8 : Hid (Below w.heap.size w w8) := B7.out.trans (st8.mono (by omega))
  have R8_RW : Hid (Row 1 w8 (w5.heap.size) (w6.heap.size) (.slice RWva m0 RWvc) m0 ZR0) := R7_RW.out.below st8 (by omega)
  have R8_x0 : Hid (Row 3 w8 (w6.heap.size) (w7.heap.size) (.slice xx0a n0 xx0c) n0 (zs Z0 n0 3)) := R7_x0.out.below st8 (by omega)
  have R8_x1 : Hid (Row 3 w8 (w7.heap.size + 1) (w8.heap.size) xx1 n1 (zs Z1 n1 3)) := hr.wide (by simp) (Nat.le_refl _)
  have d8_0 : w.heap.size < w8.heap.size := by omega
  have e8_0 : w.heap.size ≠ w8.heap.size := by omega
  have d8_1 : w.heap.size + 1 < w8.heap.size := by omega
  have e8_1 : w.heap.size + 1 ≠ w8.heap.size := by omega
  have d8_2 : w7.heap.size < w8.heap.size := by omega
  have e8_2 : w7.heap.size ≠ w8.heap.size := by omega
  clear d7_0 e7_0 d7_1 e7_1 c7_0_0 c7_0_1 c7_1_0 c7_1_1 R7_RW R7_x0 B7 st8 hb8
  obtain ⟨xx1a, xx1c, rfl⟩ := R8_x1.out.slice
  go_wp2_with fail
  go_at_call 17
  refine (toIntS_any _ n2 Z2 _ (HA2.out.below (Below.trans B8.out (by go_grown))) (by omega)).mono ?_
  rintro e w9 ⟨xx2, rfl, hr, hb9⟩
  have sz9 : w8.heap.size + 1 ≤ w9.heap.size := by have hh := hb9.size; simp at hh; omega
  have st9 : Below w8.heap.size w8 w9 := Below.trans (by go_grown) (hb9.mono (by simp))
  have c9_0_0 : w9.cell? ⟨w.heap.size, 0, none⟩ = some (.int .i64 x0) := by rw [(bcell st9).1 _ _ (by omega)]; exact c8_0_0
  have c9_0_1 : w9.cell? ⟨w.heap.size, 1, none⟩ = some (.slice ad0 n0 cp0) := by rw [(bcell st9).1 _ _ (by omega)]; exact c8_0_1
  have c9_1_0 : w9.cell? ⟨w.heap.size + 1, 0, none⟩ = some (.int .i64 x1) := by rw [(bcell st9).1 _ _ (by omega)]; exact c8_1_0
  have c9_1_1 : w9.cell? ⟨w.heap.size + 1, 1, none⟩ = some (.slice ad1 n1 cp1) := by rw [(bcell st9).1 _ _ (by omega)]; exact c8_1_1
  have c9_2_0 : w9.cell? ⟨w7.heap.size, 0, none⟩ = some (.int .i64 x0) := by rw [(bcell st9).1 _ _ (by omega)]; exact c8_2_0
  have c9_2_1 : w9.cell? ⟨w7.heap.size, 1, none⟩ = some ((.slice xx0a n0 xx0c)) := by rw [(bcell st9).1 _ _ (by omega)]; exact c8_2_1
  have c9_3_0 : w9.cell? ⟨w8.heap.size, 0, none⟩ = some (.int .i64 x1) := by rw [(bcell hb9).1 _ _ (by simp)]; simp
  have c9_3_1 : w9.cell? ⟨w8.heap.size, 1, none⟩ = some ((.slice xx1a n1 xx1c)) := by rw [(bcell hb9).1 _ _ (by simp)]; simp
  have B9 : Hid (Below w.heap.size w w9) := B8.out.trans (st9.mono (by omega))
  have R9_RW : Hid (Row 1 w9 (w5.heap.size) (w6.heap.size) (.slice RWva m0 RWvc) m0 ZR0) := R8_RW.out.below st9 (by omega)
  have R9_x0 : Hid (Row 3 w9 (w6.heap.size) (w7.heap.size) (.slice xx0a n0 xx0c) n0 (zs Z0 n0 3)) := R8_x0.out.below st9 (by omega)
  have R9_x1 : Hid (Row 3 w9 (w7.heap.size + 1) (w8.heap.size) (.slice xx1a n1 xx1c) n1 (zs Z1 n1 3)) := R8_x1.out.below st9 (by omega)
  have R9_x2 : Hid (Row 1 w9 (w8.heap.size + 1) (w9.heap.size) xx2 n2 (zs Z2 n2 1)) := hr.wide (by simp) (Nat.le_refl _)
  have d9_0 : w.heap.size < w9.heap.size := by omega
  have e9_0 : w.heap.size ≠ w9.heap.size := by omega
  have d9_1 : w.heap.size + 1 < w9.heap.size := by omega
  have e9_1 : w.heap.size + 1 ≠ w9.heap.size := by omega
  have d9_2 : w7.heap.size < w9.heap.size := by omega
  have e9_2 : w7.heap.size ≠ w9.heap.size := by omega
  have d9_3 : w8.heap.size < w9.heap.size := by omega
  have e9_3 : w8.heap.size ≠ w9.heap.size := by omega
  clear d8_0 e8_0 d8_1 e8_1 d8_2 e8_2 c8_0_0 c8_0_1 c8_1_0 c8_1_1 c8_2_0 c8_2_1 R8_RW R8_x0 R8_x1 B8 st9 hb9
  obtain ⟨xx2a, xx2c, rfl⟩ := R9_x2.out.slice
  go_wp2_with fail
  go_at_call 18
  refine (Hi.out _ _ (.slice xx0a n0 xx0c) _ _ (.slice xx1a n1 xx1c) _ _ (.slice xx2a n2 xx2c) _ R9_x0.out (by first | omega | (simp; omega) | simp) R9_x1.out (by first | omega | (simp; omega) | simp) R9_x2.out (by first | omega | (simp; omega) | simp)).mono ?_
  rintro e w10 ⟨RGv, rfl, hr, hb10⟩
  have sz10 : w9.heap.size ≤ w10.heap.size := hb10.size
  have st10 : Below w9.heap.size w9 w10 := hb10
  have c10_0_0 : w10.cell? ⟨w.heap.size, 0, none⟩ = some (.int .i64 x0) := by rw [(bcell st10).1 _ _ (by omega)]; exact c9_0_0
  have c10_0_1 : w10.cell? ⟨w.heap.size, 1, none⟩ = some (.slice ad0 n0 cp0) := by rw [(bcell st10).1 _ _ (by omega)]; exact c9_0_1
  have c10_1_0 : w10.cell? ⟨w.heap.size + 1, 0, none⟩ = some (.int .i64 x1) := by rw [(bcell st10).1 _ _ (by omega)]; exact c9_1_0
  have c10_1_1 : w10.cell? ⟨w.heap.size + 1, 1, none⟩ = some (.slice ad1 n1 cp1) := by rw [(bcell st10).1 _ _ (by omega)]; exact c9_1_1
  have c10_2_0 : w10.cell? ⟨w7.heap.size, 0, none⟩ = some (.int .i64 x0) := by rw [(bcell st10).1 _ _ (by omega)]; exact c9_2_0
  have c10_2_1 : w10.cell? ⟨w7.heap.size, 1, none⟩ = some ((.slice xx0a n0 xx0c)) := by rw [(bcell st10).1 _ _ (by omega)]; exact c9_2_1
  have c10_3_0 : w10.cell? ⟨w8.heap.size, 0, none⟩ = some (.int .i64 x1) := by rw [(bcell st10).1 _ _ (by omega)]; exact c9_3_0
  have c10_3_1 : w10.cell? ⟨w8.heap.size, 1, none⟩ = some ((.slice xx1a n1 xx1c)) := by rw [(bcell st10).1 _ _ (by omega)]; exact c9_3_1
  have B10 : Hid (Below w.heap.size w w10) := B9.out.trans (st10.mono (by omega))
  have R10_RW : Hid (Row 1 w10 (w5.heap.size) (w6.heap.size) (.slice RWva m0 RWvc) m0 ZR0) := R9_RW.out.below st10 (by omega)
  have R10_x0 : Hid (Row 3 w10 (w6.heap.size) (w7.heap.size) (.slice xx0a n0 xx0c) n0 (zs Z0 n0 3)) := R9_x0.out.below st10 (by omega)
  have R10_x1 : Hid (Row 3 w10 (w7.heap.size + 1) (w8.heap.size) (.slice xx1a n1 xx1c) n1 (zs Z1 n1 3)) := R9_x1.out.below st10 (by omega)
  have R10_x2 : Hid (Row 1 w10 (w8.heap.size + 1) (w9.heap.size) (.slice xx2a n2 xx2c) n2 (zs Z2 n2 1)) := R9_x2.out.below st10 (by omega)
  have R10_RG : Hid (Row 1 w10 (w9.heap.size) (w10.heap.size) RGv m0 ZR0) := hr
  have d10_0 : w.heap.size < w10.heap.size := by omega
  have e10_0 : w.heap.size ≠ w10.heap.size := by omega
  have d10_1 : w.heap.size + 1 < w10.heap.size := by omega
  have e10_1 : w.heap.size + 1 ≠ w10.heap.size := by omega
  have d10_2 : w7.heap.size < w10.heap.size := by omega
  have e10_2 : w7.heap.size ≠ w10.heap.size := by omega
  have d10_3 : w8.heap.size < w10.heap.size := by omega
  have e10_3 : w8.heap.size ≠ w10.heap.size := by omega
  clear d9_0 e9_0 d9_1 e9_1 d9_2 e9_2 d9_3 e9_3 c9_0_0 c9_0_1 c9_1_0 c9_1_1 c9_2_0 c9_2_1 c9_3_0 c9_3_1 R9_RW R9_x0 R9_x1 R9_x2 B9 st10 hr hb10
  obtain ⟨RGva, RGvc, rfl⟩ := R10_RG.out.slice
  go_wp2_with fail
  go_at_call 19
  refine (eqIntS_same ZR0 m0 _ _ _ _ _ _ _ R10_RG.out R10_RW.out (by first | omega | (simp; omega) | simp) (by first | omega | (simp; omega) | simp)).mono ?_
  rintro e w11 ⟨rfl, hb11⟩
  have sz11 : w10.heap.size ≤ w11.heap.size := hb11.size
  have st11 : Below w10.heap.size w10 w11 := hb11
  have c11_0_0 : w11.cell? ⟨w.heap.size, 0, none⟩ = some (.int .i64 x0) := by rw [(bcell st11).1 _ _ (by omega)]; exact c10_0_0
  have c11_0_1 : w11.cell? ⟨w.heap.size, 1, none⟩ = some (.slice ad0 n0 cp0) := by rw [(bcell st11).1 _ _ (by omega)]; exact c10_0_1
  have c11_1_0 : w11.cell? ⟨w.heap.size + 1, 0, none⟩ = some (.int .i64 x1) := by rw [(bcell st11).1 _ _ (by omega)]; exact c10_1_0
  have c11_1_1 : w11.cell? ⟨w.heap.size + 1, 1, none⟩ = some (.slice ad1 n1 cp1) := by rw [(bcell st11).1 _ _ (by omega)]; exact c10_1_1
  have c11_2_0 : w11.cell? ⟨w7.heap.size, 0, none⟩ = some (.int .i64 x0) := by rw [(bcell st11).1 _ _ (by omega)]; exact c10_2_0
  have c11_2_1 : w11.cell? ⟨w7.heap.size, 1, none⟩ = some ((.slice xx0a n0 xx0c)) := by rw [(bcell st11).1 _ _ (by omega)]; exact c10_2_1
  have c11_3_0 : w11.cell? ⟨w8.heap.size, 0, none⟩ = some (.int .i64 x1) := by rw [(bcell st11).1 _ _ (by omega)]; exact c10_3_0
  have c11_3_1 : w11.cell? ⟨w8.heap.size, 1, none⟩ = some ((.slice xx1a n1 xx1c)) := by rw [(bcell st11).1 _ _ (by omega)]; exact c10_3_1
  have B11 : Hid (Below w.heap.size w w11) := B10.out.trans (st11.mono (by omega))
  have R11_RW : Hid (Row 1 w11 (w5.heap.size) (w6.heap.size) (.slice RWva m0 RWvc) m0 ZR0) := R10_RW.out.below st11 (by omega)
  have R11_x0 : Hid (Row 3 w11 (w6.heap.size) (w7.heap.size) (.slice xx0a n0 xx0c) n0 (zs Z0 n0 3)) := R10_x0.out.below st11 (by omega)
  have R11_x1 : Hid (Row 3 w11 (w7.heap.size + 1) (w8.heap.size) (.slice xx1a n1 xx1c) n1 (zs Z1 n1 3)) := R10_x1.out.below st11 (by omega)
  have R11_x2 : Hid (Row 1 w11 (w8.heap.size + 1) (w9.heap.size) (.slice xx2a n2 xx2c) n2 (zs Z2 n2 1)) := R10_x2.out.below st11 (by omega)
  have R11_RG : Hid (Row 1 w11 (w9.heap.size) (w10.heap.size) (.slice RGva m0 RGvc) m0 ZR0) := R10_RG.out.below st11 (by omega)
  have d11_0 : w.heap.size < w11.heap.size := by omega
  have e11_0 : w.heap.size ≠ w11.heap.size := by omega
  have d11_1 : w.heap.size + 1 < w11.heap.size := by omega
  have e11_1 : w.heap.size + 1 ≠ w11.heap.size := by omega
  have d11_2 : w7.heap.size < w11.heap.size := by omega
  have e11_2 : w7.heap.size ≠ w11.heap.size := by omega
  have d11_3 : w8.heap.size < w11.heap.size := by omega
  have e11_3 : w8.heap.size ≠ w11.heap.size := by omega
  clear d10_0 e10_0 d10_1 e10_1 d10_2 e10_2 d10_3 e10_3 c10_0_0 c10_0_1 c10_1_0 c10_1_1 c10_2_0 c10_2_1 c10_3_0 c10_3_1 R10_RW R10_x0 R10_x1 R10_x2 R10_RG B10 st11 hb11
  go_wp2_with fail
  go_region_held3 (fun w' => w'.cell? ⟨w.heap.size, 0, none⟩ = some (.int .i64 x0) ∧ w'.cell? ⟨w.heap.size, 1, none⟩ = some (.slice ad0 n0 cp0) ∧ w'.cell? ⟨w.heap.size + 1, 0, none⟩ = some (.int .i64 x1) ∧ w'.cell? ⟨w.heap.size + 1, 1, none⟩ = some (.slice ad1 n1 cp1) ∧ w'.cell? ⟨w7.heap.size, 0, none⟩ = some (.int .i64 x0) ∧ w'.cell? ⟨w7.heap.size, 1, none⟩ = some ((.slice xx0a n0 xx0c)) ∧ w'.cell? ⟨w8.heap.size, 0, none⟩ = some (.int .i64 x1) ∧ w'.cell? ⟨w8.heap.size, 1, none⟩ = some ((.slice xx1a n1 xx1c)) ∧ w11.heap.size ≤ w'.heap.size ∧ Below w11.heap.size w11 w') (first | assumption | exact rr8_start c11_0_0 c11_0_1 c11_1_0 c11_1_1 c11_2_0 c11_2_1 c11_3_0 c11_3_1 | exact rr8_drew (by assumption) | exact rr8_keep (by omega) (by omega) (by omega) (by omega) (by omega) (by omega) (by omega) (by omega) (by assumption) (by assumption))
    (first | (go_at_call 13; refine (toGraph_any x0 _ n0 Z0 _ (HA0.out.below (B11.out.trans ((rr8_out (by assumption)).2.mono (by omega)))) (by omega)).mono ?_; rintro e w12 ⟨y0, rfl, ry0, hb⟩; have hz12 := hb.size) | (go_at_call 15; refine (eqGraph_same x0 (zs Z0 n0 3) n0 _ _ _ _ _ _ _ (R11_x0.out.below (rr8_out (by assumption)).2 (by omega)) ry0 (by have hq := rr8_out (by assumption); omega) (Nat.le_refl _)).mono ?_; rintro e w13 ⟨rfl, hb⟩))
  have hb13 : Below w11.heap.size w11 w13 := (rr8_out (by assumption)).2
  have sz13 : w11.heap.size ≤ w13.heap.size := hb13.size
  have st13 : Below w11.heap.size w11 w13 := hb13
  have c13_0_0 : w13.cell? ⟨w.heap.size, 0, none⟩ = some (.int .i64 x0) := by rw [(bcell st13).1 _ _ (by omega)]; exact c11_0_0
  have c13_0_1 : w13.cell? ⟨w.heap.size, 1, none⟩ = some (.slice ad0 n0 cp0) := by rw [(bcell st13).1 _ _ (by omega)]; exact c11_0_1
  have c13_1_0 : w13.cell? ⟨w.heap.size + 1, 0, none⟩ = some (.int .i64 x1) := by rw [(bcell st13).1 _ _ (by omega)]; exact c11_1_0
  have c13_1_1 : w13.cell? ⟨w.heap.size + 1, 1, none⟩ = some (.slice ad1 n1 cp1) := by rw [(bcell st13).1 _ _ (by omega)]; exact c11_1_1
  have c13_2_0 : w13.cell? ⟨w7.heap.size, 0, none⟩ = some (.int .i64 x0) := by rw [(bcell st13).1 _ _ (by omega)]; exact c11_2_0
  have c13_2_1 : w13.cell? ⟨w7.heap.size, 1, none⟩ = some ((.slice xx0a n0 xx0c)) := by rw [(bcell st13).1 _ _ (by omega)]; exact c11_2_1
  have c13_3_0 : w13.cell? ⟨w8.heap.size, 0, none⟩ = some (.int .i64 x1) := by rw [(bcell st13).1 _ _ (by omega)]; exact c11_3_0
  have c13_3_1 : w13.cell? ⟨w8.heap.size, 1, none⟩ = some ((.slice xx1a n1 xx1c)) := by rw [(bcell st13).1 _ _ (by omega)]; exact c11_3_1
  have B13 : Hid (Below w.heap.size w w13) := B11.out.trans (st13.mono (by omega))
  have R13_RW : Hid (Row 1 w13 (w5.heap.size) (w6.heap.size) (.slice RWva m0 RWvc) m0 ZR0) := R11_RW.out.below st13 (by omega)
  have R13_x0 : Hid (Row 3 w13 (w6.heap.size) (w7.heap.size) (.slice xx0a n0 xx0c) n0 (zs Z0 n0 3)) := R11_x0.out.below st13 (by omega)
  have R13_x1 : Hid (Row 3 w13 (w7.heap.size + 1) (w8.heap.size) (.slice xx1a n1 xx1c) n1 (zs Z1 n1 3)) := R11_x1.out.below st13 (by omega)
  have R13_x2 : Hid (Row 1 w13 (w8.heap.size + 1) (w9.heap.size) (.slice xx2a n2 xx2c) n2 (zs Z2 n2 1)) := R11_x2.out.below st13 (by omega)
  have R13_RG : Hid (Row 1 w13 (w9.heap.size) (w10.heap.size) (.slice RGva m0 RGvc) m0 ZR0) := R11_RG.out.below st13 (by omega)
  have d13_0 : w.heap.size < w13.heap.size := by omega
  have e13_0 : w.heap.size ≠ w13.heap.size := by omega
  have d13_1 : w.heap.size + 1 < w13.heap.size := by omega
  have e13_1 : w.heap.size + 1 ≠ w13.heap.size := by omega
  have d13_2 : w7.heap.size < w13.heap.size := by omega
  have e13_2 : w7.heap.size ≠ w13.heap.size := by omega
  have d13_3 : w8.heap.size < w13.heap.size := by omega
  have e13_3 : w8.heap.size ≠ w13.heap.size := by omega
  clear d11_0 e11_0 d11_1 e11_1 d11_2 e11_2 d11_3 e11_3 c11_0_0 c11_0_1 c11_1_0 c11_1_1 c11_2_0 c11_2_1 c11_3_0 c11_3_1 R11_RW R11_x0 R11_x1 R11_x2 R11_RG B11 st13 hb13
  go_wp2_with fail
  go_region_held3 (fun w' => w'.cell? ⟨w.heap.size, 0, none⟩ = some (.int .i64 x0) ∧ w'.cell? ⟨w.heap.size, 1, none⟩ = some (.slice ad0 n0 cp0) ∧ w'.cell? ⟨w.heap.size + 1, 0, none⟩ = some (.int .i64 x1) ∧ w'.cell? ⟨w.heap.size + 1, 1, none⟩ = some (.slice ad1 n1 cp1) ∧ w'.cell? ⟨w7.heap.size, 0, none⟩ = some (.int .i64 x0) ∧ w'.cell? ⟨w7.heap.size, 1, none⟩ = some ((.slice xx0a n0 xx0c)) ∧ w'.cell? ⟨w8.heap.size, 0, none⟩ = some (.int .i64 x1) ∧ w'.cell? ⟨w8.heap.size, 1, none⟩ = some ((.slice xx1a n1 xx1c)) ∧ w13.heap.size ≤ w'.heap.size ∧ Below w13.heap.size w13 w') (first | assumption | exact rr8_start c13_0_0 c13_0_1 c13_1_0 c13_1_1 c13_2_0 c13_2_1 c13_3_0 c13_3_1 | exact rr8_drew (by assumption) | exact rr8_keep (by omega) (by omega) (by omega) (by omega) (by omega) (by omega) (by omega) (by omega) (by assumption) (by assumption))
    (first | (go_at_call 13; refine (toGraph_any x1 _ n1 Z1 _ (HA1.out.below (B13.out.trans ((rr8_out (by assumption)).2.mono (by omega)))) (by omega)).mono ?_; rintro e w14 ⟨y1, rfl, ry1, hb⟩; have hz14 := hb.size) | (go_at_call 15; refine (eqGraph_same x1 (zs Z1 n1 3) n1 _ _ _ _ _ _ _ (R13_x1.out.below (rr8_out (by assumption)).2 (by omega)) ry1 (by have hq := rr8_out (by assumption); omega) (Nat.le_refl _)).mono ?_; rintro e w15 ⟨rfl, hb⟩))
  have hb15 : Below w13.heap.size w13 w15 := (rr8_out (by assumption)).2
  have sz15 : w13.heap.size ≤ w15.heap.size := hb15.size
  have st15 : Below w13.heap.size w13 w15 := hb15
  have c15_0_0 : w15.cell? ⟨w.heap.size, 0, none⟩ = some (.int .i64 x0) := by rw [(bcell st15).1 _ _ (by omega)]; exact c13_0_0
  have c15_0_1 : w15.cell? ⟨w.heap.size, 1, none⟩ = some (.slice ad0 n0 cp0) := by rw [(bcell st15).1 _ _ (by omega)]; exact c13_0_1
  have c15_1_0 : w15.cell? ⟨w.heap.size + 1, 0, none⟩ = some (.int .i64 x1) := by rw [(bcell st15).1 _ _ (by omega)]; exact c13_1_0
  have c15_1_1 : w15.cell? ⟨w.heap.size + 1, 1, none⟩ = some (.slice ad1 n1 cp1) := by rw [(bcell st15).1 _ _ (by omega)]; exact c13_1_1
  have c15_2_0 : w15.cell? ⟨w7.heap.size, 0, none⟩ = some (.int .i64 x0) := by rw [(bcell st15).1 _ _ (by omega)]; exact c13_2_0
  have c15_2_1 : w15.cell? ⟨w7.heap.size, 1, none⟩ = some ((.slice xx0a n0 xx0c)) := by rw [(bcell st15).1 _ _ (by omega)]; exact c13_2_1
  have c15_3_0 : w15.cell? ⟨w8.heap.size, 0, none⟩ = some (.int .i64 x1) := by rw [(bcell st15).1 _ _ (by omega)]; exact c13_3_0
  have c15_3_1 : w15.cell? ⟨w8.heap.size, 1, none⟩ = some ((.slice xx1a n1 xx1c)) := by rw [(bcell st15).1 _ _ (by omega)]; exact c13_3_1
  have B15 : Hid (Below w.heap.size w w15) := B13.out.trans (st15.mono (by omega))
  have R15_RW : Hid (Row 1 w15 (w5.heap.size) (w6.heap.size) (.slice RWva m0 RWvc) m0 ZR0) := R13_RW.out.below st15 (by omega)
  have R15_x0 : Hid (Row 3 w15 (w6.heap.size) (w7.heap.size) (.slice xx0a n0 xx0c) n0 (zs Z0 n0 3)) := R13_x0.out.below st15 (by omega)
  have R15_x1 : Hid (Row 3 w15 (w7.heap.size + 1) (w8.heap.size) (.slice xx1a n1 xx1c) n1 (zs Z1 n1 3)) := R13_x1.out.below st15 (by omega)
  have R15_x2 : Hid (Row 1 w15 (w8.heap.size + 1) (w9.heap.size) (.slice xx2a n2 xx2c) n2 (zs Z2 n2 1)) := R13_x2.out.below st15 (by omega)
  have R15_RG : Hid (Row 1 w15 (w9.heap.size) (w10.heap.size) (.slice RGva m0 RGvc) m0 ZR0) := R13_RG.out.below st15 (by omega)
  have d15_0 : w.heap.size < w15.heap.size := by omega
  have e15_0 : w.heap.size ≠ w15.heap.size := by omega
  have d15_1 : w.heap.size + 1 < w15.heap.size := by omega
  have e15_1 : w.heap.size + 1 ≠ w15.heap.size := by omega
  have d15_2 : w7.heap.size < w15.heap.size := by omega
  have e15_2 : w7.heap.size ≠ w15.heap.size := by omega
  have d15_3 : w8.heap.size < w15.heap.size := by omega
  have e15_3 : w8.heap.size ≠ w15.heap.size := by omega
  clear d13_0 e13_0 d13_1 e13_1 d13_2 e13_2 d13_3 e13_3 c13_0_0 c13_0_1 c13_1_0 c13_1_1 c13_2_0 c13_2_1 c13_3_0 c13_3_1 R13_RW R13_x0 R13_x1 R13_x2 R13_RG B13 st15 hb15
  go_wp2_with fail
  go_at_call 17
  refine (toIntS_any _ n2 Z2 _ (HA2.out.below B15.out) (by omega)).mono ?_
  rintro e w16 ⟨xy2, rfl, hr, hb16⟩
  have sz16 : w15.heap.size ≤ w16.heap.size := hb16.size
  have st16 : Below w15.heap.size w15 w16 := hb16
  have c16_0_0 : w16.cell? ⟨w.heap.size, 0, none⟩ = some (.int .i64 x0) := by rw [(bcell st16).1 _ _ (by omega)]; exact c15_0_0
  have c16_0_1 : w16.cell? ⟨w.heap.size, 1, none⟩ = some (.slice ad0 n0 cp0) := by rw [(bcell st16).1 _ _ (by omega)]; exact c15_0_1
  have c16_1_0 : w16.cell? ⟨w.heap.size + 1, 0, none⟩ = some (.int .i64 x1) := by rw [(bcell st16).1 _ _ (by omega)]; exact c15_1_0
  have c16_1_1 : w16.cell? ⟨w.heap.size + 1, 1, none⟩ = some (.slice ad1 n1 cp1) := by rw [(bcell st16).1 _ _ (by omega)]; exact c15_1_1
  have c16_2_0 : w16.cell? ⟨w7.heap.size, 0, none⟩ = some (.int .i64 x0) := by rw [(bcell st16).1 _ _ (by omega)]; exact c15_2_0
  have c16_2_1 : w16.cell? ⟨w7.heap.size, 1, none⟩ = some ((.slice xx0a n0 xx0c)) := by rw [(bcell st16).1 _ _ (by omega)]; exact c15_2_1
  have c16_3_0 : w16.cell? ⟨w8.heap.size, 0, none⟩ = some (.int .i64 x1) := by rw [(bcell st16).1 _ _ (by omega)]; exact c15_3_0
  have c16_3_1 : w16.cell? ⟨w8.heap.size, 1, none⟩ = some ((.slice xx1a n1 xx1c)) := by rw [(bcell st16).1 _ _ (by omega)]; exact c15_3_1
  have B16 : Hid (Below w.heap.size w w16) := B15.out.trans (st16.mono (by omega))
  have R16_RW : Hid (Row 1 w16 (w5.heap.size) (w6.heap.size) (.slice RWva m0 RWvc) m0 ZR0) := R15_RW.out.below st16 (by omega)
  have R16_x0 : Hid (Row 3 w16 (w6.heap.size) (w7.heap.size) (.slice xx0a n0 xx0c) n0 (zs Z0 n0 3)) := R15_x0.out.below st16 (by omega)
  have R16_x1 : Hid (Row 3 w16 (w7.heap.size + 1) (w8.heap.size) (.slice xx1a n1 xx1c) n1 (zs Z1 n1 3)) := R15_x1.out.below st16 (by omega)
  have R16_x2 : Hid (Row 1 w16 (w8.heap.size + 1) (w9.heap.size) (.slice xx2a n2 xx2c) n2 (zs Z2 n2 1)) := R15_x2.out.below st16 (by omega)
  have R16_RG : Hid (Row 1 w16 (w9.heap.size) (w10.heap.size) (.slice RGva m0 RGvc) m0 ZR0) := R15_RG.out.below st16 (by omega)
  have R16_y2 : Hid (Row 1 w16 (w15.heap.size) (w16.heap.size) xy2 n2 (zs Z2 n2 1)) := hr
  have d16_0 : w.heap.size < w16.heap.size := by omega
  have e16_0 : w.heap.size ≠ w16.heap.size := by omega
  have d16_1 : w.heap.size + 1 < w16.heap.size := by omega
  have e16_1 : w.heap.size + 1 ≠ w16.heap.size := by omega
  have d16_2 : w7.heap.size < w16.heap.size := by omega
  have e16_2 : w7.heap.size ≠ w16.heap.size := by omega
  have d16_3 : w8.heap.size < w16.heap.size := by omega
  have e16_3 : w8.heap.size ≠ w16.heap.size := by omega
  clear d15_0 e15_0 d15_1 e15_1 d15_2 e15_2 d15_3 e15_3 c15_0_0 c15_0_1 c15_1_0 c15_1_1 c15_2_0 c15_2_1 c15_3_0 c15_3_1 R15_RW R15_x0 R15_x1 R15_x2 R15_RG B15 st16 hr hb16
  go_wp2_with fail
  go_at_call 19
  refine (eqIntS_same (zs Z2 n2 1) n2 _ _ _ _ _ _ _ R16_x2.out R16_y2.out (by omega) (by omega)).mono ?_
  rintro e w17 ⟨rfl, hb17⟩
  have sz17 : w16.heap.size ≤ w17.heap.size := hb17.size
  have st17 : Below w16.heap.size w16 w17 := hb17
  have c17_0_0 : w17.cell? ⟨w.heap.size, 0, none⟩ = some (.int .i64 x0) := by rw [(bcell st17).1 _ _ (by omega)]; exact c16_0_0
  have c17_0_1 : w17.cell? ⟨w.heap.size, 1, none⟩ = some (.slice ad0 n0 cp0) := by rw [(bcell st17).1 _ _ (by omega)]; exact c16_0_1
  have c17_1_0 : w17.cell? ⟨w.heap.size + 1, 0, none⟩ = some (.int .i64 x1) := by rw [(bcell st17).1 _ _ (by omega)]; exact c16_1_0
  have c17_1_1 : w17.cell? ⟨w.heap.size + 1, 1, none⟩ = some (.slice ad1 n1 cp1) := by rw [(bcell st17).1 _ _ (by omega)]; exact c16_1_1
  have c17_2_0 : w17.cell? ⟨w7.heap.size, 0, none⟩ = some (.int .i64 x0) := by rw [(bcell st17).1 _ _ (by omega)]; exact c16_2_0
  have c17_2_1 : w17.cell? ⟨w7.heap.size, 1, none⟩ = some ((.slice xx0a n0 xx0c)) := by rw [(bcell st17).1 _ _ (by omega)]; exact c16_2_1
  have c17_3_0 : w17.cell? ⟨w8.heap.size, 0, none⟩ = some (.int .i64 x1) := by rw [(bcell st17).1 _ _ (by omega)]; exact c16_3_0
  have c17_3_1 : w17.cell? ⟨w8.heap.size, 1, none⟩ = some ((.slice xx1a n1 xx1c)) := by rw [(bcell st17).1 _ _ (by omega)]; exact c16_3_1
  have B17 : Hid (Below w.heap.size w w17) := B16.out.trans (st17.mono (by omega))
  have R17_RW : Hid (Row 1 w17 (w5.heap.size) (w6.heap.size) (.slice RWva m0 RWvc) m0 ZR0) := R16_RW.out.below st17 (by omega)
  have R17_x0 : Hid (Row 3 w17 (w6.heap.size) (w7.heap.size) (.slice xx0a n0 xx0c) n0 (zs Z0 n0 3)) := R16_x0.out.below st17 (by omega)
  have R17_x1 : Hid (Row 3 w17 (w7.heap.size + 1) (w8.heap.size) (.slice xx1a n1 xx1c) n1 (zs Z1 n1 3)) := R16_x1.out.below st17 (by omega)
  have R17_x2 : Hid (Row 1 w17 (w8.heap.size + 1) (w9.heap.size) (.slice xx2a n2 xx2c) n2 (zs Z2 n2 1)) := R16_x2.out.below st17 (by omega)
  have R17_RG : Hid (Row 1 w17 (w9.heap.size) (w10.heap.size) (.slice RGva m0 RGvc) m0 ZR0) := R16_RG.out.below st17 (by omega)
  have R17_y2 : Hid (Row 1 w17 (w15.heap.size) (w16.heap.size) xy2 n2 (zs Z2 n2 1)) := R16_y2.out.below st17 (by omega)
  have d17_0 : w.heap.size < w17.heap.size := by omega
  have e17_0 : w.heap.size ≠ w17.heap.size := by omega
  have d17_1 : w.heap.size + 1 < w17.heap.size := by omega
  have e17_1 : w.heap.size + 1 ≠ w17.heap.size := by omega
  have d17_2 : w7.heap.size < w17.heap.size := by omega
  have e17_2 : w7.heap.size ≠ w17.heap.size := by omega
  have d17_3 : w8.heap.size < w17.heap.size := by omega
  have e17_3 : w8.heap.size ≠ w17.heap.size := by omega
  clear d16_0 e16_0 d16_1 e16_1 d16_2 e16_2 d16_3 e16_3 c16_0_0 c16_0_1 c16_1_0 c16_1_1 c16_2_0 c16_2_1 c16_3_0 c16_3_1 R16_RW R16_x0 R16_x1 R16_x2 R16_RG R16_y2 B16 st17 hb17
  go_wp2_with fail
  go_at_call 20
  refine (markGraph_K x0 KX0 (zs Z0 n0 3) n0 _ _ _ _ HKX0.out R17_x0.out (by omega) (by omega)).mono ?_
  rintro e w18 ⟨rfl, hr, hb18⟩
  have sz18 : w17.heap.size ≤ w18.heap.size := hb18.size
  have c18_0_0 : w18.cell? ⟨w.heap.size, 0, none⟩ = some (.int .i64 x0) := by rw [hb18.cell (by omega) (by omega)]; exact c17_0_0
  have c18_0_1 : w18.cell? ⟨w.heap.size, 1, none⟩ = some (.slice ad0 n0 cp0) := by rw [hb18.cell (by omega) (by omega)]; exact c17_0_1
  have c18_1_0 : w18.cell? ⟨w.heap.size + 1, 0, none⟩ = some (.int .i64 x1) := by rw [hb18.cell (by omega) (by omega)]; exact c17_1_0
  have c18_1_1 : w18.cell? ⟨w.heap.size + 1, 1, none⟩ = some (.slice ad1 n1 cp1) := by rw [hb18.cell (by omega) (by omega)]; exact c17_1_1
  have c18_2_0 : w18.cell? ⟨w7.heap.size, 0, none⟩ = some (.int .i64 x0) := by rw [hb18.cell (by omega) (by omega)]; exact c17_2_0
  have c18_2_1 : w18.cell? ⟨w7.heap.size, 1, none⟩ = some ((.slice xx0a n0 xx0c)) := by rw [hb18.cell (by omega) (by omega)]; exact c17_2_1
  have c18_3_0 : w18.cell? ⟨w8.heap.size, 0, none⟩ = some (.int .i64 x1) := by rw [hb18.cell (by omega) (by omega)]; exact c17_3_0
  have c18_3_1 : w18.cell? ⟨w8.heap.size, 1, none⟩ = some ((.slice xx1a n1 xx1c)) := by rw [hb18.cell (by omega) (by omega)]; exact c17_3_1
  have B18 : Hid (Below w.heap.size w w18) := B17.out.trans (hb18.below (by omega) (by omega))
  have R18_RW : Hid (Row 1 w18 (w5.heap.size) (w6.heap.size) (.slice RWva m0 RWvc) m0 ZR0) := hb18.row R17_RW.out (by omega) (by omega)
  have R18_x1 : Hid (Row 3 w18 (w7.heap.size + 1) (w8.heap.size) (.slice xx1a n1 xx1c) n1 (zs Z1 n1 3)) := hb18.row R17_x1.out (by omega) (by omega)
  have R18_x2 : Hid (Row 1 w18 (w8.heap.size + 1) (w9.heap.size) (.slice xx2a n2 xx2c) n2 (zs Z2 n2 1)) := hb18.row R17_x2.out (by omega) (by omega)
  have R18_RG : Hid (Row 1 w18 (w9.heap.size) (w10.heap.size) (.slice RGva m0 RGvc) m0 ZR0) := hb18.row R17_RG.out (by omega) (by omega)
  have R18_x0 : Hid (Row 3 w18 (w6.heap.size) (w7.heap.size) (.slice xx0a n0 xx0c) n0 (marks 1 (n0 * 3))) := hr
  have d18_0 : w.heap.size < w18.heap.size := by omega
  have e18_0 : w.heap.size ≠ w18.heap.size := by omega
  have d18_1 : w.heap.size + 1 < w18.heap.size := by omega
  have e18_1 : w.heap.size + 1 ≠ w18.heap.size := by omega
  have d18_2 : w7.heap.size < w18.heap.size := by omega
  have e18_2 : w7.heap.size ≠ w18.heap.size := by omega
  have d18_3 : w8.heap.size < w18.heap.size := by omega
  have e18_3 : w8.heap.size ≠ w18.heap.size := by omega
  clear d17_0 e17_0 d17_1 e17_1 d17_2 e17_2 d17_3 e17_3 c17_0_0 c17_0_1 c17_1_0 c17_1_1 c17_2_0 c17_2_1 c17_3_0 c17_3_1 R17_RW R17_x0 R17_x1 R17_x2 R17_RG B17 hr hb18
  go_wp2_with fail
  go_at_call 20
  refine (markGraph_K2 x1 KX0 KX1 (zs Z1 n1 3) n1 _ _ _ _ HKX1.out R18_x1.out (by omega) (by omega) hKX00 hKX02).mono ?_
  rintro e w19 ⟨rfl, hr, hb19⟩
  have sz19 : w18.heap.size ≤ w19.heap.size := hb19.size
  have c19_0_0 : w19.cell? ⟨w.heap.size, 0, none⟩ = some (.int .i64 x0) := by rw [hb19.cell (by omega) (by omega)]; exact c18_0_0
  have c19_0_1 : w19.cell? ⟨w.heap.size, 1, none⟩ = some (.slice ad0 n0 cp0) := by rw [hb19.cell (by omega) (by omega)]; exact c18_0_1
  have c19_1_0 : w19.cell? ⟨w.heap.size + 1, 0, none⟩ = some (.int .i64 x1) := by rw [hb19.cell (by omega) (by omega)]; exact c18_1_0
  have c19_1_1 : w19.cell? ⟨w.heap.size + 1, 1, none⟩ = some (.slice ad1 n1 cp1) := by rw [hb19.cell (by omega) (by omega)]; exact c18_1_1
  have c19_2_0 : w19.cell? ⟨w7.heap.size, 0, none⟩ = some (.int .i64 x0) := by rw [hb19.cell (by omega) (by omega)]; exact c18_2_0
  have c19_2_1 : w19.cell? ⟨w7.heap.size, 1, none⟩ = some ((.slice xx0a n0 xx0c)) := by rw [hb19.cell (by omega) (by omega)]; exact c18_2_1
  have c19_3_0 : w19.cell? ⟨w8.heap.size, 0, none⟩ = some (.int .i64 x1) := by rw [hb19.cell (by omega) (by omega)]; exact c18_3_0
  have c19_3_1 : w19.cell? ⟨w8.heap.size, 1, none⟩ = some ((.slice xx1a n1 xx1c)) := by rw [hb19.cell (by omega) (by omega)]; exact c18_3_1
  have B19 : Hid (Below w.heap.size w w19) := B18.out.trans (hb19.below (by omega) (by omega))
  have R19_RW : Hid (Row 1 w19 (w5.heap.size) (w6.heap.size) (.slice RWva m0 RWvc) m0 ZR0) := hb19.row R18_RW.out (by omega) (by omega)
  have R19_x2 : Hid (Row 1 w19 (w8.heap.size + 1) (w9.heap.size) (.slice xx2a n2 xx2c) n2 (zs Z2 n2 1)) := hb19.row R18_x2.out (by omega) (by omega)
  have R19_RG : Hid (Row 1 w19 (w9.heap.size) (w10.heap.size) (.slice RGva m0 RGvc) m0 ZR0) := hb19.row R18_RG.out (by omega) (by omega)
  have R19_x0 : Hid (Row 3 w19 (w6.heap.size) (w7.heap.size) (.slice xx0a n0 xx0c) n0 (marks 1 (n0 * 3))) := hb19.row R18_x0.out (by omega) (by omega)
  have R19_x1 : Hid (Row 3 w19 (w7.heap.size + 1) (w8.heap.size) (.slice xx1a n1 xx1c) n1 (marks KX0 (n1 * 3))) := hr
  have d19_0 : w.heap.size < w19.heap.size := by omega
  have e19_0 : w.heap.size ≠ w19.heap.size := by omega
  have d19_1 : w.heap.size + 1 < w19.heap.size := by omega
  have e19_1 : w.heap.size + 1 ≠ w19.heap.size := by omega
  have d19_2 : w7.heap.size < w19.heap.size := by omega
  have e19_2 : w7.heap.size ≠ w19.heap.size := by omega
  have d19_3 : w8.heap.size < w19.heap.size := by omega
  have e19_3 : w8.heap.size ≠ w19.heap.size := by omega
  clear d18_0 e18_0 d18_1 e18_1 d18_2 e18_2 d18_3 e18_3 c18_0_0 c18_0_1 c18_1_0 c18_1_1 c18_2_0 c18_2_1 c18_3_0 c18_3_1 R18_RW R18_x1 R18_x2 R18_RG R18_x0 B18 hr hb19
  go_wp2_with fail
  go_at_call 21
  refine (markIntS_K2 KX1 KX2 (zs Z2 n2 1) n2 _ _ _ _ HKX2.out R19_x2.out (by omega) hKX10 hKX12).mono ?_
  rintro e w20 ⟨rfl, hr, hb20⟩
  have sz20 : w19.heap.size ≤ w20.heap.size := hb20.size
  have c20_0_0 : w20.cell? ⟨w.heap.size, 0, none⟩ = some (.int .i64 x0) := by rw [hb20.cell (by omega) (by omega)]; exact c19_0_0
  have c20_0_1 : w20.cell? ⟨w.heap.size, 1, none⟩ = some (.slice ad0 n0 cp0) := by rw [hb20.cell (by omega) (by omega)]; exact c19_0_1
  have c20_1_0 : w20.cell? ⟨w.heap.size + 1, 0, none⟩ = some (.int .i64 x1) := by rw [hb20.cell (by omega) (by omega)]; exact c19_1_0
  have c20_1_1 : w20.cell? ⟨w.heap.size + 1, 1, none⟩ = some (.slice ad1 n1 cp1) := by rw [hb20.cell (by omega) (by omega)]; exact c19_1_1
  have c20_2_0 : w20.cell? ⟨w7.heap.size, 0, none⟩ = some (.int .i64 x0) := by rw [hb20.cell (by omega) (by omega)]; exact c19_2_0
  have c20_2_1 : w20.cell? ⟨w7.heap.size, 1, none⟩ = some ((.slice xx0a n0 xx0c)) := by rw [hb20.cell (by omega) (by omega)]; exact c19_2_1
  have c20_3_0 : w20.cell? ⟨w8.heap.size, 0, none⟩ = some (.int .i64 x1) := by rw [hb20.cell (by omega) (by omega)]; exact c19_3_0
  have c20_3_1 : w20.cell? ⟨w8.heap.size, 1, none⟩ = some ((.slice xx1a n1 xx1c)) := by rw [hb20.cell (by omega) (by omega)]; exact c19_3_1
  have B20 : Hid (Below w.heap.size w w20) := B19.out.trans (hb20.below (by omega) (by omega))
  have R20_RW : Hid (Row 1 w20 (w5.heap.size) (w6.heap.size) (.slice RWva m0 RWvc) m0 ZR0) := hb20.row R19_RW.out (by omega) (by omega)
  have R20_RG : Hid (Row 1 w20 (w9.heap.size) (w10.heap.size) (.slice RGva m0 RGvc) m0 ZR0) := hb20.row R19_RG.out (by omega) (by omega)
  have R20_x0 : Hid (Row 3 w20 (w6.heap.size) (w7.heap.size) (.slice xx0a n0 xx0c) n0 (marks 1 (n0 * 3))) := hb20.row R19_x0.out (by omega) (by omega)
  have R20_x1 : Hid (Row 3 w20 (w7.heap.size + 1) (w8.heap.size) (.slice xx1a n1 xx1c) n1 (marks KX0 (n1 * 3))) := hb20.row R19_x1.out (by omega) (by omega)
  have R20_x2 : Hid (Row 1 w20 (w8.heap.size + 1) (w9.heap.size) (.slice xx2a n2 xx2c) n2 (marks KX1 (n2 * 1))) := hr
  have d20_0 : w.heap.size < w20.heap.size := by omega
  have e20_0 : w.heap.size ≠ w20.heap.size := by omega
  have d20_1 : w.heap.size + 1 < w20.heap.size := by omega
  have e20_1 : w.heap.size + 1 ≠ w20.heap.size := by omega
  have d20_2 : w7.heap.size < w20.heap.size := by omega
  have e20_2 : w7.heap.size ≠ w20.heap.size := by omega
  have d20_3 : w8.heap.size < w20.heap.size := by omega
  have e20_3 : w8.heap.size ≠ w20.heap.size := by omega
  clear d19_0 e19_0 d19_1 e19_1 d19_2 e19_2 d19_3 e19_3 c19_0_0 c19_0_1 c19_1_0 c19_1_1 c19_2_0 c19_2_1 c19_3_0 c19_3_1 R19_RW R19_x2 R19_RG R19_x0 R19_x1 B19 hr hb20
  go_wp2_with fail
  go_at_call 19
  refine (eqIntS_same ZR0 m0 _ _ _ _ _ _ _ R20_RG.out R20_RW.out (by first | omega | (simp; omega) | simp) (by first | omega | (simp; omega) | simp)).mono ?_
  rintro e w21 ⟨rfl, hb21⟩
  have sz21 : w20.heap.size ≤ w21.heap.size := hb21.size
  have st21 : Below w20.heap.size w20 w21 := hb21
  have c21_0_0 : w21.cell? ⟨w.heap.size, 0, none⟩ = some (.int .i64 x0) := by rw [(bcell st21).1 _ _ (by omega)]; exact c20_0_0
  have c21_0_1 : w21.cell? ⟨w.heap.size, 1, none⟩ = some (.slice ad0 n0 cp0) := by rw [(bcell st21).1 _ _ (by omega)]; exact c20_0_1
  have c21_1_0 : w21.cell? ⟨w.heap.size + 1, 0, none⟩ = some (.int .i64 x1) := by rw [(bcell st21).1 _ _ (by omega)]; exact c20_1_0
  have c21_1_1 : w21.cell? ⟨w.heap.size + 1, 1, none⟩ = some (.slice ad1 n1 cp1) := by rw [(bcell st21).1 _ _ (by omega)]; exact c20_1_1
  have c21_2_0 : w21.cell? ⟨w7.heap.size, 0, none⟩ = some (.int .i64 x0) := by rw [(bcell st21).1 _ _ (by omega)]; exact c20_2_0
  have c21_2_1 : w21.cell? ⟨w7.heap.size, 1, none⟩ = some ((.slice xx0a n0 xx0c)) := by rw [(bcell st21).1 _ _ (by omega)]; exact c20_2_1
  have c21_3_0 : w21.cell? ⟨w8.heap.size, 0, none⟩ = some (.int .i64 x1) := by rw [(bcell st21).1 _ _ (by omega)]; exact c20_3_0
  have c21_3_1 : w21.cell? ⟨w8.heap.size, 1, none⟩ = some ((.slice xx1a n1 xx1c)) := by rw [(bcell st21).1 _ _ (by omega)]; exact c20_3_1
  have B21 : Hid (Below w.heap.size w w21) := B20.out.trans (st21.mono (by omega))
  have R21_RW : Hid (Row 1 w21 (w5.heap.size) (w6.heap.size) (.slice RWva m0 RWvc) m0 ZR0) := R20_RW.out.below st21 (by omega)
  have R21_RG : Hid (Row 1 w21 (w9.heap.size) (w10.heap.size) (.slice RGva m0 RGvc) m0 ZR0) := R20_RG.out.below st21 (by omega)
  have R21_x0 : Hid (Row 3 w21 (w6.heap.size) (w7.heap.size) (.slice xx0a n0 xx0c) n0 (marks 1 (n0 * 3))) := R20_x0.out.below st21 (by omega)
  have R21_x1 : Hid (Row 3 w21 (w7.heap.size + 1) (w8.heap.size) (.slice xx1a n1 xx1c) n1 (marks KX0 (n1 * 3))) := R20_x1.out.below st21 (by omega)
  have R21_x2 : Hid (Row 1 w21 (w8.heap.size + 1) (w9.heap.size) (.slice xx2a n2 xx2c) n2 (marks KX1 (n2 * 1))) := R20_x2.out.below st21 (by omega)
  have d21_0 : w.heap.size < w21.heap.size := by omega
  have e21_0 : w.heap.size ≠ w21.heap.size := by omega
  have d21_1 : w.heap.size + 1 < w21.heap.size := by omega
  have e21_1 : w.heap.size + 1 ≠ w21.heap.size := by omega
  have d21_2 : w7.heap.size < w21.heap.size := by omega
  have e21_2 : w7.heap.size ≠ w21.heap.size := by omega
  have d21_3 : w8.heap.size < w21.heap.size := by omega
  have e21_3 : w8.heap.size ≠ w21.heap.size := by omega
  clear d20_0 e20_0 d20_1 e20_1 d20_2 e20_2 d20_3 e20_3 c20_0_0 c20_0_1 c20_1_0 c20_1_1 c20_2_0 c20_2_1 c20_3_0 c20_3_1 R20_RW R20_RG R20_x0 R20_x1 R20_x2 B20 st21 hb21
  go_wp2_with fail
  go_at_call 21
  refine (markIntS_K KG ZR0 m0 _ _ _ _ HKG.out R21_RG.out (by omega)).mono ?_
  rintro e w22 ⟨rfl, hr, hb22⟩
  have sz22 : w21.heap.size ≤ w22.heap.size := hb22.size
  have c22_0_0 : w22.cell? ⟨w.heap.size, 0, none⟩ = some (.int .i64 x0) := by rw [hb22.cell (by omega) (by omega)]; exact c21_0_0
  have c22_0_1 : w22.cell? ⟨w.heap.size, 1, none⟩ = some (.slice ad0 n0 cp0) := by rw [hb22.cell (by omega) (by omega)]; exact c21_0_1
  have c22_1_0 : w22.cell? ⟨w.heap.size + 1, 0, none⟩ = some (.int .i64 x1) := by rw [hb22.cell (by omega) (by omega)]; exact c21_1_0
  have c22_1_1 : w22.cell? ⟨w.heap.size + 1, 1, none⟩ = some (.slice ad1 n1 cp1) := by rw [hb22.cell (by omega) (by omega)]; exact c21_1_1
  have c22_2_0 : w22.cell? ⟨w7.heap.size, 0, none⟩ = some (.int .i64 x0) := by rw [hb22.cell (by omega) (by omega)]; exact c21_2_0
  have c22_2_1 : w22.cell? ⟨w7.heap.size, 1, none⟩ = some ((.slice xx0a n0 xx0c)) := by rw [hb22.cell (by omega) (by omega)]; exact c21_2_1
  have c22_3_0 : w22.cell? ⟨w8.heap.size, 0, none⟩ = some (.int .i64 x1) := by rw [hb22.cell (by omega) (by omega)]; exact c21_3_0
  have c22_3_1 : w22.cell? ⟨w8.heap.size, 1, none⟩ = some ((.slice xx1a n1 xx1c)) := by rw [hb22.cell (by omega) (by omega)]; exact c21_3_1
  have B22 : Hid (Below w.heap.size w w22) := B21.out.trans (hb22.below (by omega) (by omega))
  have R22_RW : Hid (Row 1 w22 (w5.heap.size) (w6.heap.size) (.slice RWva m0 RWvc) m0 ZR0) := hb22.row R21_RW.out (by omega) (by omega)
  have R22_x0 : Hid (Row 3 w22 (w6.heap.size) (w7.heap.size) (.slice xx0a n0 xx0c) n0 (marks 1 (n0 * 3))) := hb22.row R21_x0.out (by omega) (by omega)
  have R22_x1 : Hid (Row 3 w22 (w7.heap.size + 1) (w8.heap.size) (.slice xx1a n1 xx1c) n1 (marks KX0 (n1 * 3))) := hb22.row R21_x1.out (by omega) (by omega)
  have R22_x2 : Hid (Row 1 w22 (w8.heap.size + 1) (w9.heap.size) (.slice xx2a n2 xx2c) n2 (marks KX1 (n2 * 1))) := hb22.row R21_x2.out (by omega) (by omega)
  have R22_RG : Hid (Row 1 w22 (w9.heap.size) (w10.heap.size) (.slice RGva m0 RGvc) m0 (marks 1 (m0 * 1))) := hr
  have d22_0 : w.heap.size < w22.heap.size := by omega
  have e22_0 : w.heap.size ≠ w22.heap.size := by omega
  have d22_1 : w.heap.size + 1 < w22.heap.size := by omega
  have e22_1 : w.heap.size + 1 ≠ w22.heap.size := by omega
  have d22_2 : w7.heap.size < w22.heap.size := by omega
  have e22_2 : w7.heap.size ≠ w22.heap.size := by omega
  have d22_3 : w8.heap.size < w22.heap.size := by omega
  have e22_3 : w8.heap.size ≠ w22.heap.size := by omega
  clear d21_0 e21_0 d21_1 e21_1 d21_2 e21_2 d21_3 e21_3 c21_0_0 c21_0_1 c21_1_0 c21_1_1 c21_2_0 c21_2_1 c21_3_0 c21_3_1 R21_RW R21_RG R21_x0 R21_x1 R21_x2 B21 hr hb22
  go_wp2_with fail
  go_at_call 22
  refine (heldIntS_K KG m0 _ _ _ _ HKG.out R22_RG.out (by omega)).mono ?_
  rintro e w' ⟨rfl, rfl⟩
  go_wp2_with fail
  have tk0 : True := trivial
  have tk1 : True := trivial
  have tk2 : True := trivial
  go_region_held3 (fun w' => w'.cell? ⟨w.heap.size, 0, none⟩ = some (.int .i64 x0) ∧ w'.cell? ⟨w.heap.size, 1, none⟩ = some (.slice ad0 n0 cp0) ∧ w'.cell? ⟨w.heap.size + 1, 0, none⟩ = some (.int .i64 x1) ∧ w'.cell? ⟨w.heap.size + 1, 1, none⟩ = some (.slice ad1 n1 cp1) ∧ w'.cell? ⟨w7.heap.size, 0, none⟩ = some (.int .i64 x0) ∧ w'.cell? ⟨w7.heap.size, 1, none⟩ = some ((.slice xx0a n0 xx0c)) ∧ w'.cell? ⟨w8.heap.size, 0, none⟩ = some (.int .i64 x1) ∧ w'.cell? ⟨w8.heap.size, 1, none⟩ = some ((.slice xx1a n1 xx1c)) ∧ w22.heap.size ≤ w'.heap.size ∧ Below w22.heap.size w22 w') (first | assumption | exact rr8_start c22_0_0 c22_0_1 c22_1_0 c22_1_1 c22_2_0 c22_2_1 c22_3_0 c22_3_1 | exact rr8_drew (by assumption) | exact rr8_keep (by omega) (by omega) (by omega) (by omega) (by omega) (by omega) (by omega) (by omega) (by assumption) (by assumption) | exact rr8_box (by omega) (by omega) (by omega) (by omega) (by omega) (by omega) (by omega) (by omega) (by assumption))
    (first | (go_at_call 13; clear tk0; refine (toGraph_any x0 _ n0 Z0 _ (HA0.out.below (B22.out.trans ((rr8_out (by assumption)).2.mono (by omega)))) (by omega)).mono ?_; rintro e w23 ⟨y0, rfl, ry0, hb⟩; have hz23 := hb.size) | (go_at_call 13; clear tk1; refine (toGraph_any x1 _ n1 Z1 _ (HA1.out.below (B22.out.trans ((rr8_out (by assumption)).2.mono (by omega)))) (by omega)).mono ?_; rintro e w24 ⟨y1, rfl, ry1, hb⟩; have hz24 := hb.size; have ry0 := ry0.below hb (by first | exact Nat.le_refl _ | omega)) | (go_at_call 17; clear tk2; refine (toIntS_any _ n2 Z2 _ (HA2.out.below (B22.out.trans ((rr8_out (by assumption)).2.mono (by omega)))) (by omega)).mono ?_; rintro e w25 ⟨y2, rfl, ry2, hb⟩; have hz25 := hb.size; have ry0 := ry0.below hb (by first | exact Nat.le_refl _ | omega); have ry1 := ry1.below hb (by first | exact Nat.le_refl _ | omega)) | (go_at_call 18; refine (Hi.out _ _ _ _ _ _ _ _ _ _ ry0 (by first | exact Nat.le_refl _ | omega) ry1 (by first | exact Nat.le_refl _ | omega) ry2 (by first | exact Nat.le_refl _ | omega)).mono ?_; rintro e w26 ⟨RHv, rfl, RHr, hb⟩; obtain ⟨RHva, RHvc, rfl⟩ := RHr.slice; have hz26 := hb.size))
  have hb26 : Below w22.heap.size w22 w26 := (rr8_out (by assumption)).2
  have hdr : w22.drew.heap.size = w22.heap.size := rfl
  have RHs : w22.heap.size ≤ w25.heap.size := by omega
  clear hdr
  have sz26 : w22.heap.size ≤ w26.heap.size := hb26.size
  have st26 : Below w22.heap.size w22 w26 := hb26
  have c26_0_0 : w26.cell? ⟨w.heap.size, 0, none⟩ = some (.int .i64 x0) := by rw [(bcell st26).1 _ _ (by omega)]; exact c22_0_0
  have c26_0_1 : w26.cell? ⟨w.heap.size, 1, none⟩ = some (.slice ad0 n0 cp0) := by rw [(bcell st26).1 _ _ (by omega)]; exact c22_0_1
  have c26_1_0 : w26.cell? ⟨w.heap.size + 1, 0, none⟩ = some (.int .i64 x1) := by rw [(bcell st26).1 _ _ (by omega)]; exact c22_1_0
  have c26_1_1 : w26.cell? ⟨w.heap.size + 1, 1, none⟩ = some (.slice ad1 n1 cp1) := by rw [(bcell st26).1 _ _ (by omega)]; exact c22_1_1
  have c26_2_0 : w26.cell? ⟨w7.heap.size, 0, none⟩ = some (.int .i64 x0) := by rw [(bcell st26).1 _ _ (by omega)]; exact c22_2_0
  have c26_2_1 : w26.cell? ⟨w7.heap.size, 1, none⟩ = some ((.slice xx0a n0 xx0c)) := by rw [(bcell st26).1 _ _ (by omega)]; exact c22_2_1
  have c26_3_0 : w26.cell? ⟨w8.heap.size, 0, none⟩ = some (.int .i64 x1) := by rw [(bcell st26).1 _ _ (by omega)]; exact c22_3_0
  have c26_3_1 : w26.cell? ⟨w8.heap.size, 1, none⟩ = some ((.slice xx1a n1 xx1c)) := by rw [(bcell st26).1 _ _ (by omega)]; exact c22_3_1
  have B26 : Hid (Below w.heap.size w w26) := B22.out.trans (st26.mono (by omega))
  have R26_RW : Hid (Row 1 w26 (w5.heap.size) (w6.heap.size) (.slice RWva m0 RWvc) m0 ZR0) := R22_RW.out.below st26 (by omega)
  have R26_x0 : Hid (Row 3 w26 (w6.heap.size) (w7.heap.size) (.slice xx0a n0 xx0c) n0 (marks 1 (n0 * 3))) := R22_x0.out.below st26 (by omega)
  have R26_x1 : Hid (Row 3 w26 (w7.heap.size + 1) (w8.heap.size) (.slice xx1a n1 xx1c) n1 (marks KX0 (n1 * 3))) := R22_x1.out.below st26 (by omega)
  have R26_x2 : Hid (Row 1 w26 (w8.heap.size + 1) (w9.heap.size) (.slice xx2a n2 xx2c) n2 (marks KX1 (n2 * 1))) := R22_x2.out.below st26 (by omega)
  have R26_RG : Hid (Row 1 w26 (w9.heap.size) (w10.heap.size) (.slice RGva m0 RGvc) m0 (marks 1 (m0 * 1))) := R22_RG.out.below st26 (by omega)
  have R26_RH : Hid (Row 1 w26 (w25.heap.size) (w26.heap.size) (.slice RHva m0 RHvc) m0 ZR0) := RHr
  have d26_0 : w.heap.size < w26.heap.size := by omega
  have e26_0 : w.heap.size ≠ w26.heap.size := by omega
  have d26_1 : w.heap.size + 1 < w26.heap.size := by omega
  have e26_1 : w.heap.size + 1 ≠ w26.heap.size := by omega
  have d26_2 : w7.heap.size < w26.heap.size := by omega
  have e26_2 : w7.heap.size ≠ w26.heap.size := by omega
  have d26_3 : w8.heap.size < w26.heap.size := by omega
  have e26_3 : w8.heap.size ≠ w26.heap.size := by omega
  clear d22_0 e22_0 d22_1 e22_1 d22_2 e22_2 d22_3 e22_3 c22_0_0 c22_0_1 c22_1_0 c22_1_1 c22_2_0 c22_2_1 c22_3_0 c22_3_1 R22_RW R22_x0 R22_x1 R22_x2 R22_RG B22 st26 RHr hb26
  go_wp2_with fail
  go_at_call 19
  refine (eqIntS_same ZR0 m0 _ _ _ _ _ _ _ R26_RH.out R26_RW.out (by first | omega | (simp; omega) | simp) (by first | omega | (simp; omega) | simp)).mono ?_
  rintro e w27 ⟨rfl, hb27⟩
  have sz27 : w26.heap.size ≤ w27.heap.size := hb27.size
  have st27 : Below w26.heap.size w26 w27 := hb27
  have c27_0_0 : w27.cell? ⟨w.heap.size, 0, none⟩ = some (.int .i64 x0) := by rw [(bcell st27).1 _ _ (by omega)]; exact c26_0_0
  have c27_0_1 : w27.cell? ⟨w.heap.size, 1, none⟩ = some (.slice ad0 n0 cp0) := by rw [(bcell st27).1 _ _ (by omega)]; exact c26_0_1
  have c27_1_0 : w27.cell? ⟨w.heap.size + 1, 0, none⟩ = some (.int .i64 x1) := by rw [(bcell st27).1 _ _ (by omega)]; exact c26_1_0
  have c27_1_1 : w27.cell? ⟨w.heap.size + 1, 1, none⟩ = some (.slice ad1 n1 cp1) := by rw [(bcell st27).1 _ _ (by omega)]; exact c26_1_1
  have c27_2_0 : w27.cell? ⟨w7.heap.size, 0, none⟩ = some (.int .i64 x0) := by rw [(bcell st27).1 _ _ (by omega)]; exact c26_2_0
  have c27_2_1 : w27.cell? ⟨w7.heap.size, 1, none⟩ = some ((.slice xx0a n0 xx0c)) := by rw [(bcell st27).1 _ _ (by omega)]; exact c26_2_1
  have c27_3_0 : w27.cell? ⟨w8.heap.size, 0, none⟩ = some (.int .i64 x1) := by rw [(bcell st27).1 _ _ (by omega)]; exact c26_3_0
  have c27_3_1 : w27.cell? ⟨w8.heap.size, 1, none⟩ = some ((.slice xx1a n1 xx1c)) := by rw [(bcell st27).1 _ _ (by omega)]; exact c26_3_1
  have B27 : Hid (Below w.heap.size w w27) := B26.out.trans (st27.mono (by omega))
  have R27_RW : Hid (Row 1 w27 (w5.heap.size) (w6.heap.size) (.slice RWva m0 RWvc) m0 ZR0) := R26_RW.out.below st27 (by omega)
  have R27_x0 : Hid (Row 3 w27 (w6.heap.size) (w7.heap.size) (.slice xx0a n0 xx0c) n0 (marks 1 (n0 * 3))) := R26_x0.out.below st27 (by omega)
  have R27_x1 : Hid (Row 3 w27 (w7.heap.size + 1) (w8.heap.size) (.slice xx1a n1 xx1c) n1 (marks KX0 (n1 * 3))) := R26_x1.out.below st27 (by omega)
  have R27_x2 : Hid (Row 1 w27 (w8.heap.size + 1) (w9.heap.size) (.slice xx2a n2 xx2c) n2 (marks KX1 (n2 * 1))) := R26_x2.out.below st27 (by omega)
  have R27_RG : Hid (Row 1 w27 (w9.heap.size) (w10.heap.size) (.slice RGva m0 RGvc) m0 (marks 1 (m0 * 1))) := R26_RG.out.below st27 (by omega)
  have R27_RH : Hid (Row 1 w27 (w25.heap.size) (w26.heap.size) (.slice RHva m0 RHvc) m0 ZR0) := R26_RH.out.below st27 (by omega)
  have d27_0 : w.heap.size < w27.heap.size := by omega
  have e27_0 : w.heap.size ≠ w27.heap.size := by omega
  have d27_1 : w.heap.size + 1 < w27.heap.size := by omega
  have e27_1 : w.heap.size + 1 ≠ w27.heap.size := by omega
  have d27_2 : w7.heap.size < w27.heap.size := by omega
  have e27_2 : w7.heap.size ≠ w27.heap.size := by omega
  have d27_3 : w8.heap.size < w27.heap.size := by omega
  have e27_3 : w8.heap.size ≠ w27.heap.size := by omega
  clear d26_0 e26_0 d26_1 e26_1 d26_2 e26_2 d26_3 e26_3 c26_0_0 c26_0_1 c26_1_0 c26_1_1 c26_2_0 c26_2_1 c26_3_0 c26_3_1 R26_RW R26_x0 R26_x1 R26_x2 R26_RG R26_RH B26 st27 hb27
  go_wp2_with fail
  go_at_call 22
  refine (heldIntS_K KG m0 _ _ _ _ HKG.out R27_RG.out (by omega)).mono ?_
  rintro e w' ⟨rfl, rfl⟩
  go_wp2_with fail
  go_ret
  exact ⟨rfl, B27.out⟩

set_option maxHeartbeats 2000000 in
theorem lawExactMixedHops_big0 (x0 : Int) (s0 : Value) (n0 : Nat) (Z0 : Nat → Int) (x1 : Int) (s1 : Value) (n1 : Nat) (Z1 : Nat → Int) (s2 : Value) (n2 : Nat) (Z2 : Nat → Int) (a3 : Int) (w : World) (hA0 : Arg 3 w s0 n0 Z0) (hA1 : Arg 3 w s1 n1 Z1) (hA2 : Arg 1 w s2 n2 Z2) (hn : 1048576 < n2) :
    Calls Try.prog 4 #[.agg #[.int .i64 x0, s0], .agg #[.int .i64 x1, s1], s2, .int .i64 a3] w fun e w' => e = .returned (.bool true) ∧ Below w.heap.size w w' := by
  have hx0 := hA0.2.1
  have hx1 := hA1.2.1
  have hx2 := hA2.2.1
  have hxx2 := hx2
  unfold maxLen at hxx2
  obtain ⟨ad0, cp0, rfl⟩ := hA0.slice
  obtain ⟨ad1, cp1, rfl⟩ := hA1.slice
  obtain ⟨ad2, cp2, rfl⟩ := hA2.slice
  clear hA0 hA1 hA2
  have hp2 : (n2 : Int) > 1048576 := by omega
  go_enter Try.func4, Try.ntmps4
  go_wp2_with fail
  go_ret
  exact ⟨rfl, by go_grown⟩

set_option maxHeartbeats 2000000 in
theorem lawExactMixedHops_big1 (x0 : Int) (s0 : Value) (n0 : Nat) (Z0 : Nat → Int) (x1 : Int) (s1 : Value) (n1 : Nat) (Z1 : Nat → Int) (s2 : Value) (n2 : Nat) (Z2 : Nat → Int) (a3 : Int) (w : World) (hA0 : Arg 3 w s0 n0 Z0) (hA1 : Arg 3 w s1 n1 Z1) (hA2 : Arg 1 w s2 n2 Z2) (hn : 1048576 < n0) (hn2 : n2 ≤ 1048576) :
    Calls Try.prog 4 #[.agg #[.int .i64 x0, s0], .agg #[.int .i64 x1, s1], s2, .int .i64 a3] w fun e w' => e = .returned (.bool true) ∧ Below w.heap.size w w' := by
  have hx0 := hA0.2.1
  have hx1 := hA1.2.1
  have hx2 := hA2.2.1
  have hxx2 := hx2
  unfold maxLen at hxx2
  obtain ⟨ad0, cp0, rfl⟩ := hA0.slice
  obtain ⟨ad1, cp1, rfl⟩ := hA1.slice
  obtain ⟨ad2, cp2, rfl⟩ := hA2.slice
  clear hA0 hA1 hA2
  have hq2 : decide ((n2 : Int) > 1048576) = false := decide_eq_false (by omega)
  have hp2 : ¬ ((n2 : Int) > 1048576) := by omega
  have H0 := fun w => szGraph_any x0 ad0 n0 cp0 (1048576) w hx0 (by omega) (by omega)
  have hneg0 : ((1048576 : Int) - (n0 : Int) < 0) := by omega
  simp only [if_pos hneg0] at H0
  clear hneg0
  go_enter Try.func4, Try.ntmps4
  go_wp2_with fail
  go_at_call 11
  refine (H0 _).mono ?_
  rintro e w1 ⟨rfl, hb1⟩
  have sz1 : w.heap.size + 2 ≤ w1.heap.size := by have hh := hb1.size; simp at hh; omega
  have st1 : Below w.heap.size w w1 := Below.trans (by go_grown) (hb1.mono (by simp; omega))
  have c1_0_0 : w1.cell? ⟨w.heap.size, 0, none⟩ = some (.int .i64 x0) := by rw [(bcell hb1).1 _ _ (by simp; omega), old_box (by simp)]; simp
  have c1_0_1 : w1.cell? ⟨w.heap.size, 1, none⟩ = some (.slice ad0 n0 cp0) := by rw [(bcell hb1).1 _ _ (by simp; omega), old_box (by simp)]; simp
  have c1_1_0 : w1.cell? ⟨w.heap.size + 1, 0, none⟩ = some (.int .i64 x1) := by rw [(bcell hb1).1 _ _ (by simp)]; simp
  have c1_1_1 : w1.cell? ⟨w.heap.size + 1, 1, none⟩ = some (.slice ad1 n1 cp1) := by rw [(bcell hb1).1 _ _ (by simp)]; simp
  have B1 : Hid (Below w.heap.size w w1) := st1
  have d1_0 : w.heap.size < w1.heap.size := by omega
  have e1_0 : w.heap.size ≠ w1.heap.size := by omega
  have d1_1 : w.heap.size + 1 < w1.heap.size := by omega
  have e1_1 : w.heap.size + 1 ≠ w1.heap.size := by omega
  clear st1 hb1
  go_wp2_with fail
  go_ret
  exact ⟨rfl, B1.out⟩

set_option maxHeartbeats 2000000 in
theorem lawExactMixedHops_big2 (x0 : Int) (s0 : Value) (n0 : Nat) (Z0 : Nat → Int) (x1 : Int) (s1 : Value) (n1 : Nat) (Z1 : Nat → Int) (s2 : Value) (n2 : Nat) (Z2 : Nat → Int) (a3 : Int) (w : World) (hA0 : Arg 3 w s0 n0 Z0) (hA1 : Arg 3 w s1 n1 Z1) (hA2 : Arg 1 w s2 n2 Z2) (hf : n0 ≤ 1048576) (hn : 1048576 < n0 + n1) (hn2 : n2 ≤ 1048576) :
    Calls Try.prog 4 #[.agg #[.int .i64 x0, s0], .agg #[.int .i64 x1, s1], s2, .int .i64 a3] w fun e w' => e = .returned (.bool true) ∧ Below w.heap.size w w' := by
  have hx0 := hA0.2.1
  have hx1 := hA1.2.1
  have hx2 := hA2.2.1
  have hxx2 := hx2
  unfold maxLen at hxx2
  obtain ⟨ad0, cp0, rfl⟩ := hA0.slice
  obtain ⟨ad1, cp1, rfl⟩ := hA1.slice
  obtain ⟨ad2, cp2, rfl⟩ := hA2.slice
  clear hA0 hA1 hA2
  have hq2 : decide ((n2 : Int) > 1048576) = false := decide_eq_false (by omega)
  have hp2 : ¬ ((n2 : Int) > 1048576) := by omega
  have H0 := fun w => szGraph_any x0 ad0 n0 cp0 (1048576) w hx0 (by omega) (by omega)
  have hneg0 : ¬ ((1048576 : Int) - (n0 : Int) < 0) := by omega
  simp only [if_neg hneg0] at H0
  have H1 := fun w => szGraph_any x1 ad1 n1 cp1 (1048576 - (n0 : Int)) w hx1 (by omega) (by omega)
  have hneg1 : ((1048576 - (n0 : Int) : Int) - (n1 : Int) < 0) := by omega
  simp only [if_pos hneg1] at H1
  clear hneg1
  go_enter Try.func4, Try.ntmps4
  go_wp2_with fail
  go_at_call 11
  refine (H0 _).mono ?_
  rintro e w1 ⟨rfl, hb1⟩
  have sz1 : w.heap.size + 2 ≤ w1.heap.size := by have hh := hb1.size; simp at hh; omega
  have st1 : Below w.heap.size w w1 := Below.trans (by go_grown) (hb1.mono (by simp; omega))
  have c1_0_0 : w1.cell? ⟨w.heap.size, 0, none⟩ = some (.int .i64 x0) := by rw [(bcell hb1).1 _ _ (by simp; omega), old_box (by simp)]; simp
  have c1_0_1 : w1.cell? ⟨w.heap.size, 1, none⟩ = some (.slice ad0 n0 cp0) := by rw [(bcell hb1).1 _ _ (by simp; omega), old_box (by simp)]; simp
  have c1_1_0 : w1.cell? ⟨w.heap.size + 1, 0, none⟩ = some (.int .i64 x1) := by rw [(bcell hb1).1 _ _ (by simp)]; simp
  have c1_1_1 : w1.cell? ⟨w.heap.size + 1, 1, none⟩ = some (.slice ad1 n1 cp1) := by rw [(bcell hb1).1 _ _ (by simp)]; simp
  have B1 : Hid (Below w.heap.size w w1) := st1
  have d1_0 : w.heap.size < w1.heap.size := by omega
  have e1_0 : w.heap.size ≠ w1.heap.size := by omega
  have d1_1 : w.heap.size + 1 < w1.heap.size := by omega
  have e1_1 : w.heap.size + 1 ≠ w1.heap.size := by omega
  clear st1 hb1
  go_wp2_with fail
  go_at_call 11
  refine (H1 _).mono ?_
  rintro e w2 ⟨rfl, hb2⟩
  have sz2 : w1.heap.size ≤ w2.heap.size := hb2.size
  have st2 : Below w1.heap.size w1 w2 := hb2
  have c2_0_0 : w2.cell? ⟨w.heap.size, 0, none⟩ = some (.int .i64 x0) := by rw [(bcell st2).1 _ _ (by omega)]; exact c1_0_0
  have c2_0_1 : w2.cell? ⟨w.heap.size, 1, none⟩ = some (.slice ad0 n0 cp0) := by rw [(bcell st2).1 _ _ (by omega)]; exact c1_0_1
  have c2_1_0 : w2.cell? ⟨w.heap.size + 1, 0, none⟩ = some (.int .i64 x1) := by rw [(bcell st2).1 _ _ (by omega)]; exact c1_1_0
  have c2_1_1 : w2.cell? ⟨w.heap.size + 1, 1, none⟩ = some (.slice ad1 n1 cp1) := by rw [(bcell st2).1 _ _ (by omega)]; exact c1_1_1
  have B2 : Hid (Below w.heap.size w w2) := B1.out.trans (st2.mono (by omega))
  have d2_0 : w.heap.size < w2.heap.size := by omega
  have e2_0 : w.heap.size ≠ w2.heap.size := by omega
  have d2_1 : w.heap.size + 1 < w2.heap.size := by omega
  have e2_1 : w.heap.size + 1 ≠ w2.heap.size := by omega
  clear d1_0 e1_0 d1_1 e1_1 c1_0_0 c1_0_1 c1_1_0 c1_1_1 B1 st2 hb2
  go_wp2_with fail
  go_ret
  exact ⟨rfl, B2.out⟩

end Go.Proofs.Ytjenjdhoblcohaa
