/- The law of Changed over contracts. -/
import Derived.Test.YtkkfgnnhdcmmjaaL0
import Derived.Test.YtkkfgnnhdcmmjaaGi
namespace Go.Proofs.Ytkkfgnnhdcmmjaa
open Go.RowKit


theorem markGraph_K2 (x KP K : Int) (Z : List Int) (n lo hi : Nat) (v : Value) (w : World) (hK : K = KP + ((n * 3 : Nat) : Int)) (hr : Row 3 w lo hi v n Z) (hh : hi ≤ w.heap.size) (hl : n ≤ 1100000) (h0 : 0 ≤ KP) (h1 : KP ≤ 1000000000) :
    Calls Try.prog 21 #[.agg #[.int .i64 x, v], .int .i64 KP] w fun e w' => e = .returned (.int .i64 K) ∧ Row 3 w' lo hi v n (marks KP (n * 3)) ∧ Turned lo hi w w' := by
  subst hK
  exact markGraph_any x Z n lo hi v KP w hr hh hl h0 h1

set_option maxRecDepth 100000 in
set_option maxHeartbeats 8000000 in
theorem lawExactChanged_fit (x0 : Int) (s0 : Value) (n0 : Nat) (Z0 : Nat → Int) (x1 : Int) (s1 : Value) (n1 : Nat) (Z1 : Nat → Int) (a2 : Int) (w : World) (hA0 : Arg 3 w s0 n0 Z0) (hA1 : Arg 3 w s1 n1 Z1) (hn : n0 + n1 ≤ 1048576) (m0 : Nat) (ZR0 : List Int) (hm : m0 ≤ 1100000)
    (hs : ∀ (lo0 hi0 : Nat) (v0 : Value) (lo1 hi1 : Nat) (v1 : Value) (w : World), Row 3 w lo0 hi0 v0 n0 (zs Z0 n0 3) → hi0 ≤ w.heap.size → Row 3 w lo1 hi1 v1 n1 (zs Z1 n1 3) → hi1 ≤ w.heap.size → Calls Try.prog 45 #[.agg #[.int .i64 x0, v0], .agg #[.int .i64 x1, v1], .int .i64 a2] w fun e w' => ∃ rv, e = .returned (rv) ∧ Row 1 w' w.heap.size w'.heap.size rv m0 ZR0 ∧ Below w.heap.size w w')
    (hi : ∀ (lo0 hi0 : Nat) (v0 : Value) (lo1 hi1 : Nat) (v1 : Value) (w : World), Row 3 w lo0 hi0 v0 n0 (zs Z0 n0 3) → hi0 ≤ w.heap.size → Row 3 w lo1 hi1 v1 n1 (zs Z1 n1 3) → hi1 ≤ w.heap.size → Calls Try.prog 46 #[.agg #[.int .i64 x0, v0], .agg #[.int .i64 x1, v1], .int .i64 a2] w fun e w' => ∃ rv, e = .returned (rv) ∧ Row 1 w' w.heap.size w'.heap.size rv m0 ZR0 ∧ Below w.heap.size w w') :
    Calls Try.prog 13 #[.agg #[.int .i64 x0, s0], .agg #[.int .i64 x1, s1], .int .i64 a2] w fun e w' => e = .returned (.bool true) ∧ Below w.heap.size w w' := by
  have hx0 := hA0.2.1
  have HA0 := Lib.hid hA0
  obtain ⟨ad0, cp0, rfl⟩ := hA0.slice
  clear hA0
  have hx1 := hA1.2.1
  have HA1 := Lib.hid hA1
  obtain ⟨ad1, cp1, rfl⟩ := hA1.slice
  clear hA1
  have Hs := Lib.hid hs
  have Hi := Lib.hid hi
  clear hs hi
  obtain ⟨KG, hKG⟩ : ∃ K : Int, K = 1 + ((m0 * 1 : Nat) : Int) := ⟨_, rfl⟩
  have hKG0 : 0 ≤ KG := by omega
  have hKG1 : ¬ (KG < 0) := by omega
  have HKG := Lib.hid hKG
  clear hKG
  obtain ⟨KX0, hKX0⟩ : ∃ K : Int, K = 1 + ((n0 * 3 : Nat) : Int) := ⟨_, rfl⟩
  have hKX00 : 0 ≤ KX0 := by omega
  have hKX01 : ¬ (KX0 < 0) := by omega
  have hKX02 : KX0 ≤ 1000000000 := by omega
  have HKX0 := Lib.hid hKX0
  obtain ⟨KX1, hKX1⟩ : ∃ K : Int, K = KX0 + ((n1 * 3 : Nat) : Int) := ⟨_, rfl⟩
  have hKX10 : 0 ≤ KX1 := by omega
  have hKX11 : ¬ (KX1 < 0) := by omega
  have hKX12 : KX1 ≤ 1000000000 := by omega
  have HKX1 := Lib.hid hKX1
  clear hKX0
  clear hKX1
  have H0 := fun w => szGraph_any x0 ad0 n0 cp0 (1048576) w hx0 (by omega) (by omega)
  have hneg0 : ¬ ((1048576 : Int) - (n0 : Int) < 0) := by omega
  simp only [if_neg hneg0] at H0
  have H1 := fun w => szGraph_any x1 ad1 n1 cp1 (1048576 - (n0 : Int)) w hx1 (by omega) (by omega)
  have hneg1 : ¬ ((1048576 - (n0 : Int) : Int) - (n1 : Int) < 0) := by omega
  simp only [if_neg hneg1] at H1
  go_enter Try.func13, Try.ntmps13
  go_wp2_with fail
  go_at_call 15
  refine (H0 _).mono ?_
  rintro e w1 ⟨rfl, hb1⟩
  have sz1 : w.heap.size + 2 ≤ w1.heap.size := by have hh := hb1.size; simp at hh; omega
  have st1 : Below w.heap.size w w1 := Below.trans (by go_grown) (hb1.mono (by simp; omega))
  have c1_0_0 : w1.cell? ⟨w.heap.size, 0, none⟩ = some (.int .i64 x0) := by rw [(bcell hb1).1 _ _ (by simp; omega), old_box (by simp)]; simp
  have c1_0_1 : w1.cell? ⟨w.heap.size, 1, none⟩ = some (.slice ad0 n0 cp0) := by rw [(bcell hb1).1 _ _ (by simp; omega), old_box (by simp)]; simp
  have c1_1_0 : w1.cell? ⟨w.heap.size + 1, 0, none⟩ = some (.int .i64 x1) := by rw [(bcell hb1).1 _ _ (by simp)]; simp
  have c1_1_1 : w1.cell? ⟨w.heap.size + 1, 1, none⟩ = some (.slice ad1 n1 cp1) := by rw [(bcell hb1).1 _ _ (by simp)]; simp
  have B1 : Hid (Below w.heap.size w w1) := st1
  have d1_0 : w.heap.size < w1.heap.size := by omega
  have e1_0 : w.heap.size ≠ w1.heap.size := by omega
  have d1_1 : w.heap.size + 1 < w1.heap.size := by omega
  have e1_1 : w.heap.size + 1 ≠ w1.heap.size := by omega
  clear st1 hb1
  go_wp2_with fail
  go_at_call 15
  refine (H1 _).mono ?_
  rintro e w2 ⟨rfl, hb2⟩
  have sz2 : w1.heap.size ≤ w2.heap.size := hb2.size
  have st2 : Below w1.heap.size w1 w2 := hb2
  have c2_0_0 : w2.cell? ⟨w.heap.size, 0, none⟩ = some (.int .i64 x0) := by rw [(bcell st2).1 _ _ (by omega)]; exact c1_0_0
  have c2_0_1 : w2.cell? ⟨w.heap.size, 1, none⟩ = some (.slice ad0 n0 cp0) := by rw [(bcell st2).1 _ _ (by omega)]; exact c1_0_1
  have c2_1_0 : w2.cell? ⟨w.heap.size + 1, 0, none⟩ = some (.int .i64 x1) := by rw [(bcell st2).1 _ _ (by omega)]; exact c1_1_0
  have c2_1_1 : w2.cell? ⟨w.heap.size + 1, 1, none⟩ = some (.slice ad1 n1 cp1) := by rw [(bcell st2).1 _ _ (by omega)]; exact c1_1_1
  have B2 : Hid (Below w.heap.size w w2) := B1.out.trans (st2.mono (by omega))
  have d2_0 : w.heap.size < w2.heap.size := by omega
  have e2_0 : w.heap.size ≠ w2.heap.size := by omega
  have d2_1 : w.heap.size + 1 < w2.heap.size := by omega
  have e2_1 : w.heap.size + 1 ≠ w2.heap.size := by omega
  clear d1_0 e1_0 d1_1 e1_1 c1_0_0 c1_0_1 c1_1_0 c1_1_1 B1 st2 hb2
  go_wp2_with fail
  have tk0 : True := trivial
  have tk1 : True := trivial
  go_region_held3 (fun w' => w'.cell? ⟨w.heap.size, 0, none⟩ = some (.int .i64 x0) ∧ w'.cell? ⟨w.heap.size, 1, none⟩ = some (.slice ad0 n0 cp0) ∧ w'.cell? ⟨w.heap.size + 1, 0, none⟩ = some (.int .i64 x1) ∧ w'.cell? ⟨w.heap.size + 1, 1, none⟩ = some (.slice ad1 n1 cp1) ∧ w2.heap.size ≤ w'.heap.size ∧ Below w2.heap.size w2 w') (first | assumption | exact rr4_start c2_0_0 c2_0_1 c2_1_0 c2_1_1 | exact rr4_drew (by assumption) | exact rr4_keep (by omega) (by omega) (by omega) (by omega) (by assumption) (by assumption) | exact rr4_box (by omega) (by omega) (by omega) (by omega) (by assumption))
    (first | (go_at_call 17; clear tk0; refine (toGraph_any x0 _ n0 Z0 _ (HA0.out.below (B2.out.trans ((rr4_out (by assumption)).2.mono (by omega)))) (by omega)).mono ?_; rintro e w3 ⟨y0, rfl, ry0, hb⟩; have hz3 := hb.size) | (go_at_call 17; clear tk1; refine (toGraph_any x1 _ n1 Z1 _ (HA1.out.below (B2.out.trans ((rr4_out (by assumption)).2.mono (by omega)))) (by omega)).mono ?_; rintro e w4 ⟨y1, rfl, ry1, hb⟩; have hz4 := hb.size; have ry0 := ry0.below hb (by first | exact Nat.le_refl _ | omega)) | (go_at_call 45; refine (Hs.out _ _ _ _ _ _ _ ry0 (by first | exact Nat.le_refl _ | omega) ry1 (by first | exact Nat.le_refl _ | omega)).mono ?_; rintro e w5 ⟨RWv, rfl, RWr, hb⟩; obtain ⟨RWva, RWvc, rfl⟩ := RWr.slice; have hz5 := hb.size))
  have hb5 : Below w2.heap.size w2 w5 := (rr4_out (by assumption)).2
  have hdr : w2.drew.heap.size = w2.heap.size := rfl
  have RWs : w2.heap.size ≤ w4.heap.size := by omega
  clear hdr
  have sz5 : w2.heap.size ≤ w5.heap.size := hb5.size
  have st5 : Below w2.heap.size w2 w5 := hb5
  have c5_0_0 : w5.cell? ⟨w.heap.size, 0, none⟩ = some (.int .i64 x0) := by rw [(bcell st5).1 _ _ (by omega)]; exact c2_0_0
  have c5_0_1 : w5.cell? ⟨w.heap.size, 1, none⟩ = some (.slice ad0 n0 cp0) := by rw [(bcell st5).1 _ _ (by omega)]; exact c2_0_1
  have c5_1_0 : w5.cell? ⟨w.heap.size + 1, 0, none⟩ = some (.int .i64 x1) := by rw [(bcell st5).1 _ _ (by omega)]; exact c2_1_0
  have c5_1_1 : w5.cell? ⟨w.heap.size + 1, 1, none⟩ = some (.slice ad1 n1 cp1) := by rw [(bcell st5).1 _ _ (by omega)]; exact c2_1_1
  have B5 : Hid (Below w.heap.size w w5) := B2.out.trans (st5.mono (by omega))
  have R5_RW : Hid (Row 1 w5 (w4.heap.size) (w5.heap.size) (.slice RWva m0 RWvc) m0 ZR0) := RWr
  have d5_0 : w.heap.size < w5.heap.size := by omega
  have e5_0 : w.heap.size ≠ w5.heap.size := by omega
  have d5_1 : w.heap.size + 1 < w5.heap.size := by omega
  have e5_1 : w.heap.size + 1 ≠ w5.heap.size := by omega
  clear d2_0 e2_0 d2_1 e2_1 c2_0_0 c2_0_1 c2_1_0 c2_1_1 B2 st5 RWr hb5
  go_wp2_with fail
  go_at_call 17
  refine (toGraph_any x0 _ n0 Z0 _ (HA0.out.below B5.out) (by omega)).mono ?_
  rintro e w6 ⟨xx0, rfl, hr, hb6⟩
  have sz6 : w5.heap.size ≤ w6.heap.size := hb6.size
  have st6 : Below w5.heap.size w5 w6 := hb6
  have c6_0_0 : w6.cell? ⟨w.heap.size, 0, none⟩ = some (.int .i64 x0) := by rw [(bcell st6).1 _ _ (by omega)]; exact c5_0_0
  have c6_0_1 : w6.cell? ⟨w.heap.size, 1, none⟩ = some (.slice ad0 n0 cp0) := by rw [(bcell st6).1 _ _ (by omega)]; exact c5_0_1
  have c6_1_0 : w6.cell? ⟨w.heap.size + 1, 0, none⟩ = some (.int .i64 x1) := by rw [(bcell st6).1 _ _ (by omega)]; exact c5_1_0
  have c6_1_1 : w6.cell? ⟨w.heap.size + 1, 1, none⟩ = some (.slice ad1 n1 cp1) := by rw [(bcell st6).1 _ _ (by omega)]; exact c5_1_1
  have B6 : Hid (Below w.heap.size w w6) := B5.out.trans (st6.mono (by omega))
  have R6_RW : Hid (Row 1 w6 (w4.heap.size) (w5.heap.size) (.slice RWva m0 RWvc) m0 ZR0) := R5_RW.out.below st6 (by omega)
  have R6_x0 : Hid (Row 3 w6 (w5.heap.size) (w6.heap.size) xx0 n0 (zs Z0 n0 3)) := hr
  have d6_0 : w.heap.size < w6.heap.size := by omega
  have e6_0 : w.heap.size ≠ w6.heap.size := by omega
  have d6_1 : w.heap.size + 1 < w6.heap.size := by omega
  have e6_1 : w.heap.size + 1 ≠ w6.heap.size := by omega
  clear d5_0 e5_0 d5_1 e5_1 c5_0_0 c5_0_1 c5_1_0 c5_1_1 R5_RW B5 st6 hr hb6
  obtain ⟨xx0a, xx0c, rfl⟩ := R6_x0.out.slice
  go_wp2_with fail
  go_at_call 17
  refine (toGraph_any x1 _ n1 Z1 _ (HA1.out.below (Below.trans B6.out (by go_grown))) (by omega)).mono ?_
  rintro e w7 ⟨xx1, rfl, hr, hb7⟩
  have sz7 : w6.heap.size + 1 ≤ w7.heap.size := by have hh := hb7.size; simp at hh; omega
  have st7 : Below w6.heap.size w6 w7 := Below.trans (by go_grown) (hb7.mono (by simp))
  have c7_0_0 : w7.cell? ⟨w.heap.size, 0, none⟩ = some (.int .i64 x0) := by rw [(bcell st7).1 _ _ (by omega)]; exact c6_0_0
  have c7_0_1 : w7.cell? ⟨w.heap.size, 1, none⟩ = some (.slice ad0 n0 cp0) := by rw [(bcell st7).1 _ _ (by omega)]; exact c6_0_1
  have c7_1_0 : w7.cell? ⟨w.heap.size + 1, 0, none⟩ = some (.int .i64 x1) := by rw [(bcell st7).1 _ _ (by omega)]; exact c6_1_0
  have c7_1_1 : w7.cell? ⟨w.heap.size + 1, 1, none⟩ = some (.slice ad1 n1 cp1) := by rw [(bcell st7).1 _ _ (by omega)]; exact c6_1_1
  have c7_2_0 : w7.cell? ⟨w6.heap.size, 0, none⟩ = some (.int .i64 x0) := by rw [(bcell hb7).1 _ _ (by simp)]; simp
  have c7_2_1 : w7.cell? ⟨w6.heap.size, 1, none⟩ = some ((.slice xx0a n0 xx0c)) := by rw [(bcell hb7).1 _ _ (by simp)]; simp
  have B7 : Hid (Below w.heap.size w w7) := B6.out.trans (st7.mono (by omega))
  have R7_RW : Hid (Row 1 w7 (w4.heap.size) (w5.heap.size) (.slice RWva m0 RWvc) m0 ZR0) := R6_RW.out.below st7 (by omega)
  have R7_x0 : Hid (Row 3 w7 (w5.heap.size) (w6.heap.size) (.slice xx0a n0 xx0c) n0 (zs Z0 n0 3)) := R6_x0.out.below st7 (by omega)
  have R7_x1 : Hid (Row 3 w7 (w6.heap.size + 1) (w7.heap.size) xx1 n1 (zs Z1 n1 3)) := hr.wide (by simp) (Nat.le_refl _)
  have d7_0 : w.heap.size < w7.heap.size := by omega
  have e7_0 : w.heap.size ≠ w7.heap.size := by omega
  have d7_1 : w.heap.size + 1 < w7.heap.size := by omega
  have e7_1 : w.heap.size + 1 ≠ w7.heap.size := by omega
  have d7_2 : w6.heap.size < w7.heap.size := by omega
  have e7_2 : w6.heap.size ≠ w7.heap.size := by omega
  clear d6_0 e6_0 d6_1 e6_1 c6_0_0 c6_0_1 c6_1_0 c6_1_1 R6_RW R6_x0 B6 st7 hb7
  obtain ⟨xx1a, xx1c, rfl⟩ := R7_x1.out.slice
  go_wp2_with fail
  go_at_call 46
  refine (Hi.out _ _ (.slice xx0a n0 xx0c) _ _ (.slice xx1a n1 xx1c) _ (R7_x0.out.below (B := w7.heap.size) (by go_grown) (by omega)) (by first | omega | (simp; omega) | simp) (R7_x1.out.below (B := w7.heap.size) (by go_grown) (by omega)) (by first | omega | (simp; omega) | simp)).mono ?_
  rintro e w8 ⟨RGv, rfl, hr, hb8⟩
  have sz8 : w7.heap.size + 1 ≤ w8.heap.size := by have hh := hb8.size; simp at hh; omega
  have st8 : Below w7.heap.size w7 w8 := Below.trans (by go_grown) (hb8.mono (by simp))
  have c8_0_0 : w8.cell? ⟨w.heap.size, 0, none⟩ = some (.int .i64 x0) := by rw [(bcell st8).1 _ _ (by omega)]; exact c7_0_0
  have c8_0_1 : w8.cell? ⟨w.heap.size, 1, none⟩ = some (.slice ad0 n0 cp0) := by rw [(bcell st8).1 _ _ (by omega)]; exact c7_0_1
  have c8_1_0 : w8.cell? ⟨w.heap.size + 1, 0, none⟩ = some (.int .i64 x1) := by rw [(bcell st8).1 _ _ (by omega)]; exact c7_1_0
  have c8_1_1 : w8.cell? ⟨w.heap.size + 1, 1, none⟩ = some (.slice ad1 n1 cp1) := by rw [(bcell st8).1 _ _ (by omega)]; exact c7_1_1
  have c8_2_0 : w8.cell? ⟨w6.heap.size, 0, none⟩ = some (.int .i64 x0) := by rw [(bcell st8).1 _ _ (by omega)]; exact c7_2_0
  have c8_2_1 : w8.cell? ⟨w6.heap.size, 1, none⟩ = some ((.slice xx0a n0 xx0c)) := by rw [(bcell st8).1 _ _ (by omega)]; exact c7_2_1
  have c8_3_0 : w8.cell? ⟨w7.heap.size, 0, none⟩ = some (.int .i64 x1) := by rw [(bcell hb8).1 _ _ (by simp)]; simp
  have c8_3_1 : w8.cell? ⟨w7.heap.size, 1, none⟩ = some ((.slice xx1a n1 xx1c)) := by rw [(bcell hb8).1 _ _ (by simp)]; simp
  have B8 : Hid (Below w.heap.size w w8) := B7.out.trans (st8.mono (by omega))
  have R8_RW : Hid (Row 1 w8 (w4.heap.size) (w5.heap.size) (.slice RWva m0 RWvc) m0 ZR0) := R7_RW.out.below st8 (by omega)
  have R8_x0 : Hid (Row 3 w8 (w5.heap.size) (w6.heap.size) (.slice xx0a n0 xx0c) n0 (zs Z0 n0 3)) := R7_x0.out.below st8 (by omega)
  have R8_x1 : Hid (Row 3 w8 (w6.heap.size + 1) (w7.heap.size) (.slice xx1a n1 xx1c) n1 (zs Z1 n1 3)) := R7_x1.out.below st8 (by omega)
  have R8_RG : Hid (Row 1 w8 (w7.heap.size + 1) (w8.heap.size) RGv m0 ZR0) := hr.wide (by simp) (Nat.le_refl _)
  have d8_0 : w.heap.size < w8.heap.size := by omega
  have e8_0 : w.heap.size ≠ w8.heap.size := by omega
  have d8_1 : w.heap.size + 1 < w8.heap.size := by omega
  have e8_1 : w.heap.size + 1 ≠ w8.heap.size := by omega
  have d8_2 : w6.heap.size < w8.heap.size := by omega
  have e8_2 : w6.heap.size ≠ w8.heap.size := by omega
  have d8_3 : w7.heap.size < w8.heap.size := by omega
  have e8_3 : w7.heap.size ≠ w8.heap.size := by omega
  clear d7_0 e7_0 d7_1 e7_1 d7_2 e7_2 c7_0_0 c7_0_1 c7_1_0 c7_1_1 c7_2_0 c7_2_1 R7_RW R7_x0 R7_x1 B7 st8 hb8
  obtain ⟨RGva, RGvc, rfl⟩ := R8_RG.out.slice
  go_wp2_with fail
  go_at_call 19
  refine (eqIntS_same ZR0 m0 _ _ _ _ _ _ _ R8_RG.out R8_RW.out (by first | omega | (simp; omega) | simp) (by first | omega | (simp; omega) | simp)).mono ?_
  rintro e w9 ⟨rfl, hb9⟩
  have sz9 : w8.heap.size ≤ w9.heap.size := hb9.size
  have st9 : Below w8.heap.size w8 w9 := hb9
  have c9_0_0 : w9.cell? ⟨w.heap.size, 0, none⟩ = some (.int .i64 x0) := by rw [(bcell st9).1 _ _ (by omega)]; exact c8_0_0
  have c9_0_1 : w9.cell? ⟨w.heap.size, 1, none⟩ = some (.slice ad0 n0 cp0) := by rw [(bcell st9).1 _ _ (by omega)]; exact c8_0_1
  have c9_1_0 : w9.cell? ⟨w.heap.size + 1, 0, none⟩ = some (.int .i64 x1) := by rw [(bcell st9).1 _ _ (by omega)]; exact c8_1_0
  have c9_1_1 : w9.cell? ⟨w.heap.size + 1, 1, none⟩ = some (.slice ad1 n1 cp1) := by rw [(bcell st9).1 _ _ (by omega)]; exact c8_1_1
  have c9_2_0 : w9.cell? ⟨w6.heap.size, 0, none⟩ = some (.int .i64 x0) := by rw [(bcell st9).1 _ _ (by omega)]; exact c8_2_0
  have c9_2_1 : w9.cell? ⟨w6.heap.size, 1, none⟩ = some ((.slice xx0a n0 xx0c)) := by rw [(bcell st9).1 _ _ (by omega)]; exact c8_2_1
  have c9_3_0 : w9.cell? ⟨w7.heap.size, 0, none⟩ = some (.int .i64 x1) := by rw [(bcell st9).1 _ _ (by omega)]; exact c8_3_0
  have c9_3_1 : w9.cell? ⟨w7.heap.size, 1, none⟩ = some ((.slice xx1a n1 xx1c)) := by rw [(bcell st9).1 _ _ (by omega)]; exact c8_3_1
  have B9 : Hid (Below w.heap.size w w9) := B8.out.trans (st9.mono (by omega))
  have R9_RW : Hid (Row 1 w9 (w4.heap.size) (w5.heap.size) (.slice RWva m0 RWvc) m0 ZR0) := R8_RW.out.below st9 (by omega)
  have R9_x0 : Hid (Row 3 w9 (w5.heap.size) (w6.heap.size) (.slice xx0a n0 xx0c) n0 (zs Z0 n0 3)) := R8_x0.out.below st9 (by omega)
  have R9_x1 : Hid (Row 3 w9 (w6.heap.size + 1) (w7.heap.size) (.slice xx1a n1 xx1c) n1 (zs Z1 n1 3)) := R8_x1.out.below st9 (by omega)
  have R9_RG : Hid (Row 1 w9 (w7.heap.size + 1) (w8.heap.size) (.slice RGva m0 RGvc) m0 ZR0) := R8_RG.out.below st9 (by omega)
  have d9_0 : w.heap.size < w9.heap.size := by omega
  have e9_0 : w.heap.size ≠ w9.heap.size := by omega
  have d9_1 : w.heap.size + 1 < w9.heap.size := by omega
  have e9_1 : w.heap.size + 1 ≠ w9.heap.size := by omega
  have d9_2 : w6.heap.size < w9.heap.size := by omega
  have e9_2 : w6.heap.size ≠ w9.heap.size := by omega
  have d9_3 : w7.heap.size < w9.heap.size := by omega
  have e9_3 : w7.heap.size ≠ w9.heap.size := by omega
  clear d8_0 e8_0 d8_1 e8_1 d8_2 e8_2 d8_3 e8_3 c8_0_0 c8_0_1 c8_1_0 c8_1_1 c8_2_0 c8_2_1 c8_3_0 c8_3_1 R8_RW R8_x0 R8_x1 R8_RG B8 st9 hb9
  go_wp2_with fail
  go_region_held3 (fun w' => w'.cell? ⟨w.heap.size, 0, none⟩ = some (.int .i64 x0) ∧ w'.cell? ⟨w.heap.size, 1, none⟩ = some (.slice ad0 n0 cp0) ∧ w'.cell? ⟨w.heap.size + 1, 0, none⟩ = some (.int .i64 x1) ∧ w'.cell? ⟨w.heap.size + 1, 1, none⟩ = some (.slice ad1 n1 cp1) ∧ w'.cell? ⟨w6.heap.size, 0, none⟩ = some (.int .i64 x0) ∧ w'.cell? ⟨w6.heap.size, 1, none⟩ = some ((.slice xx0a n0 xx0c)) ∧ w'.cell? ⟨w7.heap.size, 0, none⟩ = some (.int .i64 x1) ∧ w'.cell? ⟨w7.heap.size, 1, none⟩ = some ((.slice xx1a n1 xx1c)) ∧ w9.heap.size ≤ w'.heap.size ∧ Below w9.heap.size w9 w') (first | assumption | exact rr8_start c9_0_0 c9_0_1 c9_1_0 c9_1_1 c9_2_0 c9_2_1 c9_3_0 c9_3_1 | exact rr8_drew (by assumption) | exact rr8_keep (by omega) (by omega) (by omega) (by omega) (by omega) (by omega) (by omega) (by omega) (by assumption) (by assumption))
    (first | (go_at_call 17; refine (toGraph_any x0 _ n0 Z0 _ (HA0.out.below (B9.out.trans ((rr8_out (by assumption)).2.mono (by omega)))) (by omega)).mono ?_; rintro e w10 ⟨y0, rfl, ry0, hb⟩; have hz10 := hb.size) | (go_at_call 20; refine (eqGraph_same x0 (zs Z0 n0 3) n0 _ _ _ _ _ _ _ (R9_x0.out.below (rr8_out (by assumption)).2 (by omega)) ry0 (by have hq := rr8_out (by assumption); omega) (Nat.le_refl _)).mono ?_; rintro e w11 ⟨rfl, hb⟩))
  have hb11 : Below w9.heap.size w9 w11 := (rr8_out (by assumption)).2
  have sz11 : w9.heap.size ≤ w11.heap.size := hb11.size
  have st11 : Below w9.heap.size w9 w11 := hb11
  have c11_0_0 : w11.cell? ⟨w.heap.size, 0, none⟩ = some (.int .i64 x0) := by rw [(bcell st11).1 _ _ (by omega)]; exact c9_0_0
  have c11_0_1 : w11.cell? ⟨w.heap.size, 1, none⟩ = some (.slice ad0 n0 cp0) := by rw [(bcell st11).1 _ _ (by omega)]; exact c9_0_1
  have c11_1_0 : w11.cell? ⟨w.heap.size + 1, 0, none⟩ = some (.int .i64 x1) := by rw [(bcell st11).1 _ _ (by omega)]; exact c9_1_0
  have c11_1_1 : w11.cell? ⟨w.heap.size + 1, 1, none⟩ = some (.slice ad1 n1 cp1) := by rw [(bcell st11).1 _ _ (by omega)]; exact c9_1_1
  have c11_2_0 : w11.cell? ⟨w6.heap.size, 0, none⟩ = some (.int .i64 x0) := by rw [(bcell st11).1 _ _ (by omega)]; exact c9_2_0
  have c11_2_1 : w11.cell? ⟨w6.heap.size, 1, none⟩ = some ((.slice xx0a n0 xx0c)) := by rw [(bcell st11).1 _ _ (by omega)]; exact c9_2_1
  have c11_3_0 : w11.cell? ⟨w7.heap.size, 0, none⟩ = some (.int .i64 x1) := by rw [(bcell st11).1 _ _ (by omega)]; exact c9_3_0
  have c11_3_1 : w11.cell? ⟨w7.heap.size, 1, none⟩ = some ((.slice xx1a n1 xx1c)) := by rw [(bcell st11).1 _ _ (by omega)]; exact c9_3_1
  have B11 : Hid (Below w.heap.size w w11) := B9.out.trans (st11.mono (by omega))
  have R11_RW : Hid (Row 1 w11 (w4.heap.size) (w5.heap.size) (.slice RWva m0 RWvc) m0 ZR0) := R9_RW.out.below st11 (by omega)
  have R11_x0 : Hid (Row 3 w11 (w5.heap.size) (w6.heap.size) (.slice xx0a n0 xx0c) n0 (zs Z0 n0 3)) := R9_x0.out.below st11 (by omega)
  have R11_x1 : Hid (Row 3 w11 (w6.heap.size + 1) (w7.heap.size) (.slice xx1a n1 xx1c) n1 (zs Z1 n1 3)) := R9_x1.out.below st11 (by omega)
  have R11_RG : Hid (Row 1 w11 (w7.heap.size + 1) (w8.heap.size) (.slice RGva m0 RGvc) m0 ZR0) := R9_RG.out.below st11 (by omega)
  have d11_0 : w.heap.size < w11.heap.size := by omega
  have e11_0 : w.heap.size ≠ w11.heap.size := by omega
  have d11_1 : w.heap.size + 1 < w11.heap.size := by omega
  have e11_1 : w.heap.size + 1 ≠ w11.heap.size := by omega
  have d11_2 : w6.heap.size < w11.heap.size := by omega
  have e11_2 : w6.heap.size ≠ w11.heap.size := by omega
  have d11_3 : w7.heap.size < w11.heap.size := by omega
  have e11_3 : w7.heap.size ≠ w11.heap.size := by omega
  clear d9_0 e9_0 d9_1 e9_1 d9_2 e9_2 d9_3 e9_3 c9_0_0 c9_0_1 c9_1_0 c9_1_1 c9_2_0 c9_2_1 c9_3_0 c9_3_1 R9_RW R9_x0 R9_x1 R9_RG B9 st11 hb11
  go_wp2_with fail
  go_region_held3 (fun w' => w'.cell? ⟨w.heap.size, 0, none⟩ = some (.int .i64 x0) ∧ w'.cell? ⟨w.heap.size, 1, none⟩ = some (.slice ad0 n0 cp0) ∧ w'.cell? ⟨w.heap.size + 1, 0, none⟩ = some (.int .i64 x1) ∧ w'.cell? ⟨w.heap.size + 1, 1, none⟩ = some (.slice ad1 n1 cp1) ∧ w'.cell? ⟨w6.heap.size, 0, none⟩ = some (.int .i64 x0) ∧ w'.cell? ⟨w6.heap.size, 1, none⟩ = some ((.slice xx0a n0 xx0c)) ∧ w'.cell? ⟨w7.heap.size, 0, none⟩ = some (.int .i64 x1) ∧ w'.cell? ⟨w7.heap.size, 1, none⟩ = some ((.slice xx1a n1 xx1c)) ∧ w11.heap.size ≤ w'.heap.size ∧ Below w11.heap.size w11 w') (first | assumption | exact rr8_start c11_0_0 c11_0_1 c11_1_0 c11_1_1 c11_2_0 c11_2_1 c11_3_0 c11_3_1 | exact rr8_drew (by assumption) | exact rr8_keep (by omega) (by omega) (by omega) (by omega) (by omega) (by omega) (by omega) (by omega) (by assumption) (by assumption))
    (first | (go_at_call 17; refine (toGraph_any x1 _ n1 Z1 _ (HA1.out.below (B11.out.trans ((rr8_out (by assumption)).2.mono (by omega)))) (by omega)).mono ?_; rintro e w12 ⟨y1, rfl, ry1, hb⟩; have hz12 := hb.size) | (go_at_call 20; refine (eqGraph_same x1 (zs Z1 n1 3) n1 _ _ _ _ _ _ _ (R11_x1.out.below (rr8_out (by assumption)).2 (by omega)) ry1 (by have hq := rr8_out (by assumption); omega) (Nat.le_refl _)).mono ?_; rintro e w13 ⟨rfl, hb⟩))
  have hb13 : Below w11.heap.size w11 w13 := (rr8_out (by assumption)).2
  have sz13 : w11.heap.size ≤ w13.heap.size := hb13.size
  have st13 : Below w11.heap.size w11 w13 := hb13
  have c13_0_0 : w13.cell? ⟨w.heap.size, 0, none⟩ = some (.int .i64 x0) := by rw [(bcell st13).1 _ _ (by omega)]; exact c11_0_0
  have c13_0_1 : w13.cell? ⟨w.heap.size, 1, none⟩ = some (.slice ad0 n0 cp0) := by rw [(bcell st13).1 _ _ (by omega)]; exact c11_0_1
  have c13_1_0 : w13.cell? ⟨w.heap.size + 1, 0, none⟩ = some (.int .i64 x1) := by rw [(bcell st13).1 _ _ (by omega)]; exact c11_1_0
  have c13_1_1 : w13.cell? ⟨w.heap.size + 1, 1, none⟩ = some (.slice ad1 n1 cp1) := by rw [(bcell st13).1 _ _ (by omega)]; exact c11_1_1
  have c13_2_0 : w13.cell? ⟨w6.heap.size, 0, none⟩ = some (.int .i64 x0) := by rw [(bcell st13).1 _ _ (by omega)]; exact c11_2_0
  have c13_2_1 : w13.cell? ⟨w6.heap.size, 1, none⟩ = some ((.slice xx0a n0 xx0c)) := by rw [(bcell st13).1 _ _ (by omega)]; exact c11_2_1
  have c13_3_0 : w13.cell? ⟨w7.heap.size, 0, none⟩ = some (.int .i64 x1) := by rw [(bcell st13).1 _ _ (by omega)]; exact c11_3_0
  have c13_3_1 : w13.cell? ⟨w7.heap.size, 1, none⟩ = some ((.slice xx1a n1 xx1c)) := by rw [(bcell st13).1 _ _ (by omega)]; exact c11_3_1
  have B13 : Hid (Below w.heap.size w w13) := B11.out.trans (st13.mono (by omega))
  have R13_RW : Hid (Row 1 w13 (w4.heap.size) (w5.heap.size) (.slice RWva m0 RWvc) m0 ZR0) := R11_RW.out.below st13 (by omega)
  have R13_x0 : Hid (Row 3 w13 (w5.heap.size) (w6.heap.size) (.slice xx0a n0 xx0c) n0 (zs Z0 n0 3)) := R11_x0.out.below st13 (by omega)
  have R13_x1 : Hid (Row 3 w13 (w6.heap.size + 1) (w7.heap.size) (.slice xx1a n1 xx1c) n1 (zs Z1 n1 3)) := R11_x1.out.below st13 (by omega)
  have R13_RG : Hid (Row 1 w13 (w7.heap.size + 1) (w8.heap.size) (.slice RGva m0 RGvc) m0 ZR0) := R11_RG.out.below st13 (by omega)
  have d13_0 : w.heap.size < w13.heap.size := by omega
  have e13_0 : w.heap.size ≠ w13.heap.size := by omega
  have d13_1 : w.heap.size + 1 < w13.heap.size := by omega
  have e13_1 : w.heap.size + 1 ≠ w13.heap.size := by omega
  have d13_2 : w6.heap.size < w13.heap.size := by omega
  have e13_2 : w6.heap.size ≠ w13.heap.size := by omega
  have d13_3 : w7.heap.size < w13.heap.size := by omega
  have e13_3 : w7.heap.size ≠ w13.heap.size := by omega
  clear d11_0 e11_0 d11_1 e11_1 d11_2 e11_2 d11_3 e11_3 c11_0_0 c11_0_1 c11_1_0 c11_1_1 c11_2_0 c11_2_1 c11_3_0 c11_3_1 R11_RW R11_x0 R11_x1 R11_RG B11 st13 hb13
  go_wp2_with fail
  go_at_call 21
  refine (markGraph_K x0 KX0 (zs Z0 n0 3) n0 _ _ _ _ HKX0.out R13_x0.out (by omega) (by omega)).mono ?_
  rintro e w14 ⟨rfl, hr, hb14⟩
  have sz14 : w13.heap.size ≤ w14.heap.size := hb14.size
  have c14_0_0 : w14.cell? ⟨w.heap.size, 0, none⟩ = some (.int .i64 x0) := by rw [hb14.cell (by omega) (by omega)]; exact c13_0_0
  have c14_0_1 : w14.cell? ⟨w.heap.size, 1, none⟩ = some (.slice ad0 n0 cp0) := by rw [hb14.cell (by omega) (by omega)]; exact c13_0_1
  have c14_1_0 : w14.cell? ⟨w.heap.size + 1, 0, none⟩ = some (.int .i64 x1) := by rw [hb14.cell (by omega) (by omega)]; exact c13_1_0
  have c14_1_1 : w14.cell? ⟨w.heap.size + 1, 1, none⟩ = some (.slice ad1 n1 cp1) := by rw [hb14.cell (by omega) (by omega)]; exact c13_1_1
  have c14_2_0 : w14.cell? ⟨w6.heap.size, 0, none⟩ = some (.int .i64 x0) := by rw [hb14.cell (by omega) (by omega)]; exact c13_2_0
  have c14_2_1 : w14.cell? ⟨w6.heap.size, 1, none⟩ = some ((.slice xx0a n0 xx0c)) := by rw [hb14.cell (by omega) (by omega)]; exact c13_2_1
  have c14_3_0 : w14.cell? ⟨w7.heap.size, 0, none⟩ = some (.int .i64 x1) := by rw [hb14.cell (by omega) (by omega)]; exact c13_3_0
  have c14_3_1 : w14.cell? ⟨w7.heap.size, 1, none⟩ = some ((.slice xx1a n1 xx1c)) := by rw [hb14.cell (by omega) (by omega)]; exact c13_3_1
  have B14 : Hid (Below w.heap.size w w14) := B13.out.trans (hb14.below (by omega) (by omega))
  have R14_RW : Hid (Row 1 w14 (w4.heap.size) (w5.heap.size) (.slice RWva m0 RWvc) m0 ZR0) := hb14.row R13_RW.out (by omega) (by omega)
  have R14_x1 : Hid (Row 3 w14 (w6.heap.size + 1) (w7.heap.size) (.slice xx1a n1 xx1c) n1 (zs Z1 n1 3)) := hb14.row R13_x1.out (by omega) (by omega)
  have R14_RG : Hid (Row 1 w14 (w7.heap.size + 1) (w8.heap.size) (.slice RGva m0 RGvc) m0 ZR0) := hb14.row R13_RG.out (by omega) (by omega)
  have R14_x0 : Hid (Row 3 w14 (w5.heap.size) (w6.heap.size) (.slice xx0a n0 xx0c) n0 (marks 1 (n0 * 3))) := hr
  have d14_0 : w.heap.size < w14.heap.size := by omega
  have e14_0 : w.heap.size ≠ w14.heap.size := by omega
  have d14_1 : w.heap.size + 1 < w14.heap.size := by omega
  have e14_1 : w.heap.size + 1 ≠ w14.heap.size := by omega
  have d14_2 : w6.heap.size < w14.heap.size := by omega
  have e14_2 : w6.heap.size ≠ w14.heap.size := by omega
  have d14_3 : w7.heap.size < w14.heap.size := by omega
  have e14_3 : w7.heap.size ≠ w14.heap.size := by omega
  clear d13_0 e13_0 d13_1 e13_1 d13_2 e13_2 d13_3 e13_3 c13_0_0 c13_0_1 c13_1_0 c13_1_1 c13_2_0 c13_2_1 c13_3_0 c13_3_1 R13_RW R13_x0 R13_x1 R13_RG B13 hr hb14
  go_wp2_with fail
  go_at_call 21
  refine (markGraph_K2 x1 KX0 KX1 (zs Z1 n1 3) n1 _ _ _ _ HKX1.out R14_x1.out (by omega) (by omega) hKX00 hKX02).mono ?_
  rintro e w15 ⟨rfl, hr, hb15⟩
  have sz15 : w14.heap.size ≤ w15.heap.size := hb15.size
  have c15_0_0 : w15.cell? ⟨w.heap.size, 0, none⟩ = some (.int .i64 x0) := by rw [hb15.cell (by omega) (by omega)]; exact c14_0_0
  have c15_0_1 : w15.cell? ⟨w.heap.size, 1, none⟩ = some (.slice ad0 n0 cp0) := by rw [hb15.cell (by omega) (by omega)]; exact c14_0_1
  have c15_1_0 : w15.cell? ⟨w.heap.size + 1, 0, none⟩ = some (.int .i64 x1) := by rw [hb15.cell (by omega) (by omega)]; exact c14_1_0
  have c15_1_1 : w15.cell? ⟨w.heap.size + 1, 1, none⟩ = some (.slice ad1 n1 cp1) := by rw [hb15.cell (by omega) (by omega)]; exact c14_1_1
  have c15_2_0 : w15.cell? ⟨w6.heap.size, 0, none⟩ = some (.int .i64 x0) := by rw [hb15.cell (by omega) (by omega)]; exact c14_2_0
  have c15_2_1 : w15.cell? ⟨w6.heap.size, 1, none⟩ = some ((.slice xx0a n0 xx0c)) := by rw [hb15.cell (by omega) (by omega)]; exact c14_2_1
  have c15_3_0 : w15.cell? ⟨w7.heap.size, 0, none⟩ = some (.int .i64 x1) := by rw [hb15.cell (by omega) (by omega)]; exact c14_3_0
  have c15_3_1 : w15.cell? ⟨w7.heap.size, 1, none⟩ = some ((.slice xx1a n1 xx1c)) := by rw [hb15.cell (by omega) (by omega)]; exact c14_3_1
  have B15 : Hid (Below w.heap.size w w15) := B14.out.trans (hb15.below (by omega) (by omega))
  have R15_RW : Hid (Row 1 w15 (w4.heap.size) (w5.heap.size) (.slice RWva m0 RWvc) m0 ZR0) := hb15.row R14_RW.out (by omega) (by omega)
  have R15_RG : Hid (Row 1 w15 (w7.heap.size + 1) (w8.heap.size) (.slice RGva m0 RGvc) m0 ZR0) := hb15.row R14_RG.out (by omega) (by omega)
  have R15_x0 : Hid (Row 3 w15 (w5.heap.size) (w6.heap.size) (.slice xx0a n0 xx0c) n0 (marks 1 (n0 * 3))) := hb15.row R14_x0.out (by omega) (by omega)
  have R15_x1 : Hid (Row 3 w15 (w6.heap.size + 1) (w7.heap.size) (.slice xx1a n1 xx1c) n1 (marks KX0 (n1 * 3))) := hr
  have d15_0 : w.heap.size < w15.heap.size := by omega
  have e15_0 : w.heap.size ≠ w15.heap.size := by omega
  have d15_1 : w.heap.size + 1 < w15.heap.size := by omega
  have e15_1 : w.heap.size + 1 ≠ w15.heap.size := by omega
  have d15_2 : w6.heap.size < w15.heap.size := by omega
  have e15_2 : w6.heap.size ≠ w15.heap.size := by omega
  have d15_3 : w7.heap.size < w15.heap.size := by omega
  have e15_3 : w7.heap.size ≠ w15.heap.size := by omega
  clear d14_0 e14_0 d14_1 e14_1 d14_2 e14_2 d14_3 e14_3 c14_0_0 c14_0_1 c14_1_0 c14_1_1 c14_2_0 c14_2_1 c14_3_0 c14_3_1 R14_RW R14_x1 R14_RG R14_x0 B14 hr hb15
  go_wp2_with fail
  go_at_call 19
  refine (eqIntS_same ZR0 m0 _ _ _ _ _ _ _ R15_RG.out R15_RW.out (by first | omega | (simp; omega) | simp) (by first | omega | (simp; omega) | simp)).mono ?_
  rintro e w16 ⟨rfl, hb16⟩
  have sz16 : w15.heap.size ≤ w16.heap.size := hb16.size
  have st16 : Below w15.heap.size w15 w16 := hb16
  have c16_0_0 : w16.cell? ⟨w.heap.size, 0, none⟩ = some (.int .i64 x0) := by rw [(bcell st16).1 _ _ (by omega)]; exact c15_0_0
  have c16_0_1 : w16.cell? ⟨w.heap.size, 1, none⟩ = some (.slice ad0 n0 cp0) := by rw [(bcell st16).1 _ _ (by omega)]; exact c15_0_1
  have c16_1_0 : w16.cell? ⟨w.heap.size + 1, 0, none⟩ = some (.int .i64 x1) := by rw [(bcell st16).1 _ _ (by omega)]; exact c15_1_0
  have c16_1_1 : w16.cell? ⟨w.heap.size + 1, 1, none⟩ = some (.slice ad1 n1 cp1) := by rw [(bcell st16).1 _ _ (by omega)]; exact c15_1_1
  have c16_2_0 : w16.cell? ⟨w6.heap.size, 0, none⟩ = some (.int .i64 x0) := by rw [(bcell st16).1 _ _ (by omega)]; exact c15_2_0
  have c16_2_1 : w16.cell? ⟨w6.heap.size, 1, none⟩ = some ((.slice xx0a n0 xx0c)) := by rw [(bcell st16).1 _ _ (by omega)]; exact c15_2_1
  have c16_3_0 : w16.cell? ⟨w7.heap.size, 0, none⟩ = some (.int .i64 x1) := by rw [(bcell st16).1 _ _ (by omega)]; exact c15_3_0
  have c16_3_1 : w16.cell? ⟨w7.heap.size, 1, none⟩ = some ((.slice xx1a n1 xx1c)) := by rw [(bcell st16).1 _ _ (by omega)]; exact c15_3_1
  have B16 : Hid (Below w.heap.size w w16) := B15.out.trans (st16.mono (by omega))
  have R16_RW : Hid (Row 1 w16 (w4.heap.size) (w5.heap.size) (.slice RWva m0 RWvc) m0 ZR0) := R15_RW.out.below st16 (by omega)
  have R16_RG : Hid (Row 1 w16 (w7.heap.size + 1) (w8.heap.size) (.slice RGva m0 RGvc) m0 ZR0) := R15_RG.out.below st16 (by omega)
  have R16_x0 : Hid (Row 3 w16 (w5.heap.size) (w6.heap.size) (.slice xx0a n0 xx0c) n0 (marks 1 (n0 * 3))) := R15_x0.out.below st16 (by omega)
  have R16_x1 : Hid (Row 3 w16 (w6.heap.size + 1) (w7.heap.size) (.slice xx1a n1 xx1c) n1 (marks KX0 (n1 * 3))) := R15_x1.out.below st16 (by omega)
  have d16_0 : w.heap.size < w16.heap.size := by omega
  have e16_0 : w.heap.size ≠ w16.heap.size := by omega
  have d16_1 : w.heap.size + 1 < w16.heap.size := by omega
  have e16_1 : w.heap.size + 1 ≠ w16.heap.size := by omega
  have d16_2 : w6.heap.size < w16.heap.size := by omega
  have e16_2 : w6.heap.size ≠ w16.heap.size := by omega
  have d16_3 : w7.heap.size < w16.heap.size := by omega
  have e16_3 : w7.heap.size ≠ w16.heap.size := by omega
  clear d15_0 e15_0 d15_1 e15_1 d15_2 e15_2 d15_3 e15_3 c15_0_0 c15_0_1 c15_1_0 c15_1_1 c15_2_0 c15_2_1 c15_3_0 c15_3_1 R15_RW R15_RG R15_x0 R15_x1 B15 st16 hb16
  go_wp2_with fail
  go_at_call 22
  refine (markIntS_K KG ZR0 m0 _ _ _ _ HKG.out R16_RG.out (by omega)).mono ?_
  rintro e w17 ⟨rfl, hr, hb17⟩
  have sz17 : w16.heap.size ≤ w17.heap.size := hb17.size
  have c17_0_0 : w17.cell? ⟨w.heap.size, 0, none⟩ = some (.int .i64 x0) := by rw [hb17.cell (by omega) (by omega)]; exact c16_0_0
  have c17_0_1 : w17.cell? ⟨w.heap.size, 1, none⟩ = some (.slice ad0 n0 cp0) := by rw [hb17.cell (by omega) (by omega)]; exact c16_0_1
  have c17_1_0 : w17.cell? ⟨w.heap.size + 1, 0, none⟩ = some (.int .i64 x1) := by rw [hb17.cell (by omega) (by omega)]; exact c16_1_0
  have c17_1_1 : w17.cell? ⟨w.heap.size + 1, 1, none⟩ = some (.slice ad1 n1 cp1) := by rw [hb17.cell (by omega) (by omega)]; exact c16_1_1
  have c17_2_0 : w17.cell? ⟨w6.heap.size, 0, none⟩ = some (.int .i64 x0) := by rw [hb17.cell (by omega) (by omega)]; exact c16_2_0
  have c17_2_1 : w17.cell? ⟨w6.heap.size, 1, none⟩ = some ((.slice xx0a n0 xx0c)) := by rw [hb17.cell (by omega) (by omega)]; exact c16_2_1
  have c17_3_0 : w17.cell? ⟨w7.heap.size, 0, none⟩ = some (.int .i64 x1) := by rw [hb17.cell (by omega) (by omega)]; exact c16_3_0
  have c17_3_1 : w17.cell? ⟨w7.heap.size, 1, none⟩ = some ((.slice xx1a n1 xx1c)) := by rw [hb17.cell (by omega) (by omega)]; exact c16_3_1
  have B17 : Hid (Below w.heap.size w w17) := B16.out.trans (hb17.below (by omega) (by omega))
  have R17_RW : Hid (Row 1 w17 (w4.heap.size) (w5.heap.size) (.slice RWva m0 RWvc) m0 ZR0) := hb17.row R16_RW.out (by omega) (by omega)
  have R17_x0 : Hid (Row 3 w17 (w5.heap.size) (w6.heap.size) (.slice xx0a n0 xx0c) n0 (marks 1 (n0 * 3))) := hb17.row R16_x0.out (by omega) (by omega)
  have R17_x1 : Hid (Row 3 w17 (w6.heap.size + 1) (w7.heap.size) (.slice xx1a n1 xx1c) n1 (marks KX0 (n1 * 3))) := hb17.row R16_x1.out (by omega) (by omega)
  have R17_RG : Hid (Row 1 w17 (w7.heap.size + 1) (w8.heap.size) (.slice RGva m0 RGvc) m0 (marks 1 (m0 * 1))) := hr
  have d17_0 : w.heap.size < w17.heap.size := by omega
  have e17_0 : w.heap.size ≠ w17.heap.size := by omega
  have d17_1 : w.heap.size + 1 < w17.heap.size := by omega
  have e17_1 : w.heap.size + 1 ≠ w17.heap.size := by omega
  have d17_2 : w6.heap.size < w17.heap.size := by omega
  have e17_2 : w6.heap.size ≠ w17.heap.size := by omega
  have d17_3 : w7.heap.size < w17.heap.size := by omega
  have e17_3 : w7.heap.size ≠ w17.heap.size := by omega
  clear d16_0 e16_0 d16_1 e16_1 d16_2 e16_2 d16_3 e16_3 c16_0_0 c16_0_1 c16_1_0 c16_1_1 c16_2_0 c16_2_1 c16_3_0 c16_3_1 R16_RW R16_RG R16_x0 R16_x1 B16 hr hb17
  go_wp2_with fail
  go_at_call 23
  refine (heldIntS_K KG m0 _ _ _ _ HKG.out R17_RG.out (by omega)).mono ?_
  rintro e w' ⟨rfl, rfl⟩
  go_wp2_with fail
  have tk0 : True := trivial
  have tk1 : True := trivial
  go_region_held3 (fun w' => w'.cell? ⟨w.heap.size, 0, none⟩ = some (.int .i64 x0) ∧ w'.cell? ⟨w.heap.size, 1, none⟩ = some (.slice ad0 n0 cp0) ∧ w'.cell? ⟨w.heap.size + 1, 0, none⟩ = some (.int .i64 x1) ∧ w'.cell? ⟨w.heap.size + 1, 1, none⟩ = some (.slice ad1 n1 cp1) ∧ w'.cell? ⟨w6.heap.size, 0, none⟩ = some (.int .i64 x0) ∧ w'.cell? ⟨w6.heap.size, 1, none⟩ = some ((.slice xx0a n0 xx0c)) ∧ w'.cell? ⟨w7.heap.size, 0, none⟩ = some (.int .i64 x1) ∧ w'.cell? ⟨w7.heap.size, 1, none⟩ = some ((.slice xx1a n1 xx1c)) ∧ w17.heap.size ≤ w'.heap.size ∧ Below w17.heap.size w17 w') (first | assumption | exact rr8_start c17_0_0 c17_0_1 c17_1_0 c17_1_1 c17_2_0 c17_2_1 c17_3_0 c17_3_1 | exact rr8_drew (by assumption) | exact rr8_keep (by omega) (by omega) (by omega) (by omega) (by omega) (by omega) (by omega) (by omega) (by assumption) (by assumption) | exact rr8_box (by omega) (by omega) (by omega) (by omega) (by omega) (by omega) (by omega) (by omega) (by assumption))
    (first | (go_at_call 17; clear tk0; refine (toGraph_any x0 _ n0 Z0 _ (HA0.out.below (B17.out.trans ((rr8_out (by assumption)).2.mono (by omega)))) (by omega)).mono ?_; rintro e w18 ⟨y0, rfl, ry0, hb⟩; have hz18 := hb.size) | (go_at_call 17; clear tk1; refine (toGraph_any x1 _ n1 Z1 _ (HA1.out.below (B17.out.trans ((rr8_out (by assumption)).2.mono (by omega)))) (by omega)).mono ?_; rintro e w19 ⟨y1, rfl, ry1, hb⟩; have hz19 := hb.size; have ry0 := ry0.below hb (by first | exact Nat.le_refl _ | omega)) | (go_at_call 46; refine (Hi.out _ _ _ _ _ _ _ ry0 (by first | exact Nat.le_refl _ | omega) ry1 (by first | exact Nat.le_refl _ | omega)).mono ?_; rintro e w20 ⟨RHv, rfl, RHr, hb⟩; obtain ⟨RHva, RHvc, rfl⟩ := RHr.slice; have hz20 := hb.size))
  have hb20 : Below w17.heap.size w17 w20 := (rr8_out (by assumption)).2
  have hdr : w17.drew.heap.size = w17.heap.size := rfl
  have RHs : w17.heap.size ≤ w19.heap.size := by omega
  clear hdr
  have sz20 : w17.heap.size ≤ w20.heap.size := hb20.size
  have st20 : Below w17.heap.size w17 w20 := hb20
  have c20_0_0 : w20.cell? ⟨w.heap.size, 0, none⟩ = some (.int .i64 x0) := by rw [(bcell st20).1 _ _ (by omega)]; exact c17_0_0
  have c20_0_1 : w20.cell? ⟨w.heap.size, 1, none⟩ = some (.slice ad0 n0 cp0) := by rw [(bcell st20).1 _ _ (by omega)]; exact c17_0_1
  have c20_1_0 : w20.cell? ⟨w.heap.size + 1, 0, none⟩ = some (.int .i64 x1) := by rw [(bcell st20).1 _ _ (by omega)]; exact c17_1_0
  have c20_1_1 : w20.cell? ⟨w.heap.size + 1, 1, none⟩ = some (.slice ad1 n1 cp1) := by rw [(bcell st20).1 _ _ (by omega)]; exact c17_1_1
  have c20_2_0 : w20.cell? ⟨w6.heap.size, 0, none⟩ = some (.int .i64 x0) := by rw [(bcell st20).1 _ _ (by omega)]; exact c17_2_0
  have c20_2_1 : w20.cell? ⟨w6.heap.size, 1, none⟩ = some ((.slice xx0a n0 xx0c)) := by rw [(bcell st20).1 _ _ (by omega)]; exact c17_2_1
  have c20_3_0 : w20.cell? ⟨w7.heap.size, 0, none⟩ = some (.int .i64 x1) := by rw [(bcell st20).1 _ _ (by omega)]; exact c17_3_0
  have c20_3_1 : w20.cell? ⟨w7.heap.size, 1, none⟩ = some ((.slice xx1a n1 xx1c)) := by rw [(bcell st20).1 _ _ (by omega)]; exact c17_3_1
  have B20 : Hid (Below w.heap.size w w20) := B17.out.trans (st20.mono (by omega))
  have R20_RW : Hid (Row 1 w20 (w4.heap.size) (w5.heap.size) (.slice RWva m0 RWvc) m0 ZR0) := R17_RW.out.below st20 (by omega)
  have R20_x0 : Hid (Row 3 w20 (w5.heap.size) (w6.heap.size) (.slice xx0a n0 xx0c) n0 (marks 1 (n0 * 3))) := R17_x0.out.below st20 (by omega)
  have R20_x1 : Hid (Row 3 w20 (w6.heap.size + 1) (w7.heap.size) (.slice xx1a n1 xx1c) n1 (marks KX0 (n1 * 3))) := R17_x1.out.below st20 (by omega)
  have R20_RG : Hid (Row 1 w20 (w7.heap.size + 1) (w8.heap.size) (.slice RGva m0 RGvc) m0 (marks 1 (m0 * 1))) := R17_RG.out.below st20 (by omega)
  have R20_RH : Hid (Row 1 w20 (w19.heap.size) (w20.heap.size) (.slice RHva m0 RHvc) m0 ZR0) := RHr
  have d20_0 : w.heap.size < w20.heap.size := by omega
  have e20_0 : w.heap.size ≠ w20.heap.size := by omega
  have d20_1 : w.heap.size + 1 < w20.heap.size := by omega
  have e20_1 : w.heap.size + 1 ≠ w20.heap.size := by omega
  have d20_2 : w6.heap.size < w20.heap.size := by omega
  have e20_2 : w6.heap.size ≠ w20.heap.size := by omega
  have d20_3 : w7.heap.size < w20.heap.size := by omega
  have e20_3 : w7.heap.size ≠ w20.heap.size := by omega
  clear d17_0 e17_0 d17_1 e17_1 d17_2 e17_2 d17_3 e17_3 c17_0_0 c17_0_1 c17_1_0 c17_1_1 c17_2_0 c17_2_1 c17_3_0 c17_3_1 R17_RW R17_x0 R17_x1 R17_RG B17 st20 RHr hb20
  go_wp2_with fail
  go_at_call 19
  refine (eqIntS_same ZR0 m0 _ _ _ _ _ _ _ R20_RH.out R20_RW.out (by first | omega | (simp; omega) | simp) (by first | omega | (simp; omega) | simp)).mono ?_
  rintro e w21 ⟨rfl, hb21⟩
  have sz21 : w20.heap.size ≤ w21.heap.size := hb21.size
  have st21 : Below w20.heap.size w20 w21 := hb21
  have c21_0_0 : w21.cell? ⟨w.heap.size, 0, none⟩ = some (.int .i64 x0) := by rw [(bcell st21).1 _ _ (by omega)]; exact c20_0_0
  have c21_0_1 : w21.cell? ⟨w.heap.size, 1, none⟩ = some (.slice ad0 n0 cp0) := by rw [(bcell st21).1 _ _ (by omega)]; exact c20_0_1
  have c21_1_0 : w21.cell? ⟨w.heap.size + 1, 0, none⟩ = some (.int .i64 x1) := by rw [(bcell st21).1 _ _ (by omega)]; exact c20_1_0
  have c21_1_1 : w21.cell? ⟨w.heap.size + 1, 1, none⟩ = some (.slice ad1 n1 cp1) := by rw [(bcell st21).1 _ _ (by omega)]; exact c20_1_1
  have c21_2_0 : w21.cell? ⟨w6.heap.size, 0, none⟩ = some (.int .i64 x0) := by rw [(bcell st21).1 _ _ (by omega)]; exact c20_2_0
  have c21_2_1 : w21.cell? ⟨w6.heap.size, 1, none⟩ = some ((.slice xx0a n0 xx0c)) := by rw [(bcell st21).1 _ _ (by omega)]; exact c20_2_1
  have c21_3_0 : w21.cell? ⟨w7.heap.size, 0, none⟩ = some (.int .i64 x1) := by rw [(bcell st21).1 _ _ (by omega)]; exact c20_3_0
  have c21_3_1 : w21.cell? ⟨w7.heap.size, 1, none⟩ = some ((.slice xx1a n1 xx1c)) := by rw [(bcell st21).1 _ _ (by omega)]; exact c20_3_1
  have B21 : Hid (Below w.heap.size w w21) := B20.out.trans (st21.mono (by omega))
  have R21_RW : Hid (Row 1 w21 (w4.heap.size) (w5.heap.size) (.slice RWva m0 RWvc) m0 ZR0) := R20_RW.out.below st21 (by omega)
  have R21_x0 : Hid (Row 3 w21 (w5.heap.size) (w6.heap.size) (.slice xx0a n0 xx0c) n0 (marks 1 (n0 * 3))) := R20_x0.out.below st21 (by omega)
  have R21_x1 : Hid (Row 3 w21 (w6.heap.size + 1) (w7.heap.size) (.slice xx1a n1 xx1c) n1 (marks KX0 (n1 * 3))) := R20_x1.out.below st21 (by omega)
  have R21_RG : Hid (Row 1 w21 (w7.heap.size + 1) (w8.heap.size) (.slice RGva m0 RGvc) m0 (marks 1 (m0 * 1))) := R20_RG.out.below st21 (by omega)
  have R21_RH : Hid (Row 1 w21 (w19.heap.size) (w20.heap.size) (.slice RHva m0 RHvc) m0 ZR0) := R20_RH.out.below st21 (by omega)
  have d21_0 : w.heap.size < w21.heap.size := by omega
  have e21_0 : w.heap.size ≠ w21.heap.size := by omega
  have d21_1 : w.heap.size + 1 < w21.heap.size := by omega
  have e21_1 : w.heap.size + 1 ≠ w21.heap.size := by omega
  have d21_2 : w6.heap.size < w21.heap.size := by omega
  have e21_2 : w6.heap.size ≠ w21.heap.size := by omega
  have d21_3 : w7.heap.size < w21.heap.size := by omega
  have e21_3 : w7.heap.size ≠ w21.heap.size := by omega
  clear d20_0 e20_0 d20_1 e20_1 d20_2 e20_2 d20_3 e20_3 c20_0_0 c20_0_1 c20_1_0 c20_1_1 c20_2_0 c20_2_1 c20_3_0 c20_3_1 R20_RW R20_x0 R20_x1 R20_RG R20_RH B20 st21 hb21
  go_wp2_with fail
  go_at_call 23
  refine (heldIntS_K KG m0 _ _ _ _ HKG.out R21_RG.out (by omega)).mono ?_
  rintro e w' ⟨rfl, rfl⟩
  go_wp2_with fail
  go_ret
  exact ⟨rfl, B21.out⟩

set_option maxHeartbeats 2000000 in
theorem lawExactChanged_big0 (x0 : Int) (s0 : Value) (n0 : Nat) (Z0 : Nat → Int) (x1 : Int) (s1 : Value) (n1 : Nat) (Z1 : Nat → Int) (a2 : Int) (w : World) (hA0 : Arg 3 w s0 n0 Z0) (hA1 : Arg 3 w s1 n1 Z1) (hn : 1048576 < n0) :
    Calls Try.prog 13 #[.agg #[.int .i64 x0, s0], .agg #[.int .i64 x1, s1], .int .i64 a2] w fun e w' => e = .returned (.bool true) ∧ Below w.heap.size w w' := by
  have hx0 := hA0.2.1
  obtain ⟨ad0, cp0, rfl⟩ := hA0.slice
  obtain ⟨ad1, cp1, rfl⟩ := hA1.slice
  clear hA0 hA1
  have H0 := fun w => szGraph_any x0 ad0 n0 cp0 (1048576) w hx0 (by omega) (by omega)
  have hneg0 : ((1048576 : Int) - (n0 : Int) < 0) := by omega
  simp only [if_pos hneg0] at H0
  clear hneg0
  go_enter Try.func13, Try.ntmps13
  go_wp2_with fail
  go_at_call 15
  refine (H0 _).mono ?_
  rintro e w1 ⟨rfl, hb1⟩
  have sz1 : w.heap.size + 2 ≤ w1.heap.size := by have hh := hb1.size; simp at hh; omega
  have st1 : Below w.heap.size w w1 := Below.trans (by go_grown) (hb1.mono (by simp; omega))
  have c1_0_0 : w1.cell? ⟨w.heap.size, 0, none⟩ = some (.int .i64 x0) := by rw [(bcell hb1).1 _ _ (by simp; omega), old_box (by simp)]; simp
  have c1_0_1 : w1.cell? ⟨w.heap.size, 1, none⟩ = some (.slice ad0 n0 cp0) := by rw [(bcell hb1).1 _ _ (by simp; omega), old_box (by simp)]; simp
  have c1_1_0 : w1.cell? ⟨w.heap.size + 1, 0, none⟩ = some (.int .i64 x1) := by rw [(bcell hb1).1 _ _ (by simp)]; simp
  have c1_1_1 : w1.cell? ⟨w.heap.size + 1, 1, none⟩ = some (.slice ad1 n1 cp1) := by rw [(bcell hb1).1 _ _ (by simp)]; simp
  have B1 : Hid (Below w.heap.size w w1) := st1
  have d1_0 : w.heap.size < w1.heap.size := by omega
  have e1_0 : w.heap.size ≠ w1.heap.size := by omega
  have d1_1 : w.heap.size + 1 < w1.heap.size := by omega
  have e1_1 : w.heap.size + 1 ≠ w1.heap.size := by omega
  clear st1 hb1
  go_wp2_with fail
  go_ret
  exact ⟨rfl, B1.out⟩

set_option maxHeartbeats 2000000 in
theorem lawExactChanged_big1 (x0 : Int) (s0 : Value) (n0 : Nat) (Z0 : Nat → Int) (x1 : Int) (s1 : Value) (n1 : Nat) (Z1 : Nat → Int) (a2 : Int) (w : World) (hA0 : Arg 3 w s0 n0 Z0) (hA1 : Arg 3 w s1 n1 Z1) (hf : n0 ≤ 1048576) (hn : 1048576 < n0 + n1) :
    Calls Try.prog 13 #[.agg #[.int .i64 x0, s0], .agg #[.int .i64 x1, s1], .int .i64 a2] w fun e w' => e = .returned (.bool true) ∧ Below w.heap.size w w' := by
  have hx0 := hA0.2.1
  have hx1 := hA1.2.1
  obtain ⟨ad0, cp0, rfl⟩ := hA0.slice
  obtain ⟨ad1, cp1, rfl⟩ := hA1.slice
  clear hA0 hA1
  have H0 := fun w => szGraph_any x0 ad0 n0 cp0 (1048576) w hx0 (by omega) (by omega)
  have hneg0 : ¬ ((1048576 : Int) - (n0 : Int) < 0) := by omega
  simp only [if_neg hneg0] at H0
  have H1 := fun w => szGraph_any x1 ad1 n1 cp1 (1048576 - (n0 : Int)) w hx1 (by omega) (by omega)
  have hneg1 : ((1048576 - (n0 : Int) : Int) - (n1 : Int) < 0) := by omega
  simp only [if_pos hneg1] at H1
  clear hneg1
  go_enter Try.func13, Try.ntmps13
  go_wp2_with fail
  go_at_call 15
  refine (H0 _).mono ?_
  rintro e w1 ⟨rfl, hb1⟩
  have sz1 : w.heap.size + 2 ≤ w1.heap.size := by have hh := hb1.size; simp at hh; omega
  have st1 : Below w.heap.size w w1 := Below.trans (by go_grown) (hb1.mono (by simp; omega))
  have c1_0_0 : w1.cell? ⟨w.heap.size, 0, none⟩ = some (.int .i64 x0) := by rw [(bcell hb1).1 _ _ (by simp; omega), old_box (by simp)]; simp
  have c1_0_1 : w1.cell? ⟨w.heap.size, 1, none⟩ = some (.slice ad0 n0 cp0) := by rw [(bcell hb1).1 _ _ (by simp; omega), old_box (by simp)]; simp
  have c1_1_0 : w1.cell? ⟨w.heap.size + 1, 0, none⟩ = some (.int .i64 x1) := by rw [(bcell hb1).1 _ _ (by simp)]; simp
  have c1_1_1 : w1.cell? ⟨w.heap.size + 1, 1, none⟩ = some (.slice ad1 n1 cp1) := by rw [(bcell hb1).1 _ _ (by simp)]; simp
  have B1 : Hid (Below w.heap.size w w1) := st1
  have d1_0 : w.heap.size < w1.heap.size := by omega
  have e1_0 : w.heap.size ≠ w1.heap.size := by omega
  have d1_1 : w.heap.size + 1 < w1.heap.size := by omega
  have e1_1 : w.heap.size + 1 ≠ w1.heap.size := by omega
  clear st1 hb1
  go_wp2_with fail
  go_at_call 15
  refine (H1 _).mono ?_
  rintro e w2 ⟨rfl, hb2⟩
  have sz2 : w1.heap.size ≤ w2.heap.size := hb2.size
  have st2 : Below w1.heap.size w1 w2 := hb2
  have c2_0_0 : w2.cell? ⟨w.heap.size, 0, none⟩ = some (.int .i64 x0) := by rw [(bcell st2).1 _ _ (by omega)]; exact c1_0_0
  have c2_0_1 : w2.cell? ⟨w.heap.size, 1, none⟩ = some (.slice ad0 n0 cp0) := by rw [(bcell st2).1 _ _ (by omega)]; exact c1_0_1
  have c2_1_0 : w2.cell? ⟨w.heap.size + 1, 0, none⟩ = some (.int .i64 x1) := by rw [(bcell st2).1 _ _ (by omega)]; exact c1_1_0
  have c2_1_1 : w2.cell? ⟨w.heap.size + 1, 1, none⟩ = some (.slice ad1 n1 cp1) := by rw [(bcell st2).1 _ _ (by omega)]; exact c1_1_1
  have B2 : Hid (Below w.heap.size w w2) := B1.out.trans (st2.mono (by omega))
  have d2_0 : w.heap.size < w2.heap.size := by omega
  have e2_0 : w.heap.size ≠ w2.heap.size := by omega
  have d2_1 : w.heap.size + 1 < w2.heap.size := by omega
  have e2_1 : w.heap.size + 1 ≠ w2.heap.size := by omega
  clear d1_0 e1_0 d1_1 e1_1 c1_0_0 c1_0_1 c1_1_0 c1_1_1 B1 st2 hb2
  go_wp2_with fail
  go_ret
  exact ⟨rfl, B2.out⟩

end Go.Proofs.Ytkkfgnnhdcmmjaa
