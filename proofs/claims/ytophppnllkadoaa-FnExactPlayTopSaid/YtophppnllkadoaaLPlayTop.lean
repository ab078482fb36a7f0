/- The law of PlayTop over contracts. -/
import Derived.Test.YtophppnllkadoaaL0
namespace Go.Proofs.Ytophppnllkadoaa
open Go.RowKit


set_option maxRecDepth 100000 in
set_option maxHeartbeats 8000000 in
theorem lawExactPlayTop_fit (s0 : Value) (n0 : Nat) (Z0 : Nat → Int) (w : World) (hA0 : Arg 2 w s0 n0 Z0) (hn : n0 ≤ 1048576) (m0 : Nat) (ZR0 : List Int) (b1 : Bool) (hm : m0 ≤ 1100000)
    (hs : ∀ (lo0 hi0 : Nat) (v0 : Value) (w : World), Row 2 w lo0 hi0 v0 n0 (zs Z0 n0 2) → hi0 ≤ w.heap.size → Calls Try.prog 22 #[v0] w fun e w' => ∃ rv, e = .returned (.tuple #[.agg #[rv], .bool b1]) ∧ Row 3 w' w.heap.size w'.heap.size rv m0 ZR0 ∧ Below w.heap.size w w')
    (hi : ∀ (lo0 hi0 : Nat) (v0 : Value) (w : World), Row 2 w lo0 hi0 v0 n0 (zs Z0 n0 2) → hi0 ≤ w.heap.size → Calls Try.prog 23 #[v0] w fun e w' => ∃ rv, e = .returned (.tuple #[.agg #[rv], .bool b1]) ∧ Row 3 w' w.heap.size w'.heap.size rv m0 ZR0 ∧ Below w.heap.size w w') :
    Calls Try.prog 13 #[s0] w fun e w' => e = .returned (.bool true) ∧ Below w.heap.size w w' := by
  have hx0 := hA0.2.1
  have HA0 := Lib.hid hA0
  obtain ⟨ad0, cp0, rfl⟩ := hA0.slice
  clear hA0
  have Hs := Lib.hid hs
  have Hi := Lib.hid hi
  clear hs hi
  obtain ⟨KG, hKG⟩ : ∃ K : Int, K = 1 + ((m0 * 3 : Nat) : Int) := ⟨_, rfl⟩
  have hKG0 : 0 ≤ KG := by omega
  have hKG1 : ¬ (KG < 0) := by omega
  have HKG := Lib.hid hKG
  clear hKG
  obtain ⟨KX0, hKX0⟩ : ∃ K : Int, K = 1 + ((n0 * 2 : Nat) : Int) := ⟨_, rfl⟩
  have hKX00 : 0 ≤ KX0 := by omega
  have hKX01 : ¬ (KX0 < 0) := by omega
  have hKX02 : KX0 ≤ 1000000000 := by omega
  have HKX0 := Lib.hid hKX0
  clear hKX0
  have hneg0 : ¬ ((1048576 : Int) - (n0 : Int) < 0) := by omega
  go_enter Try.func13, Try.ntmps13
  go_wp2_with fail
  go_at_call 48
  refine (szAddS_fit ad0 n0 cp0 (1048576) _ hx0 (by omega) (by omega)).mono ?_
  rintro e w' ⟨rfl, rfl⟩
  go_wp2_with fail
  go_at_call 49
  refine (toAddS_any _ n0 Z0 _ (HA0.out.below (Below.refl _ _)) (by omega)).mono ?_
  rintro e w1 ⟨xs0, rfl, hr, hb1⟩
  have sz1 : w.heap.size ≤ w1.heap.size := hb1.size
  have st1 : Below w.heap.size w w1 := hb1
  have B1 : Hid (Below w.heap.size w w1) := st1
  have R1_s0 : Hid (Row 2 w1 (w.heap.size) (w1.heap.size) xs0 n0 (zs Z0 n0 2)) := hr
  clear st1 hr hb1
  go_wp2_with fail
  go_at_call 22
  refine (Hs.out _ _ xs0 _ R1_s0.out (by first | omega | (simp; omega) | simp)).mono ?_
  rintro e w2 ⟨RWv, rfl, hr, hb2⟩
  have sz2 : w1.heap.size ≤ w2.heap.size := hb2.size
  have st2 : Below w1.heap.size w1 w2 := hb2
  have B2 : Hid (Below w.heap.size w w2) := B1.out.trans (st2.mono (by omega))
  have R2_s0 : Hid (Row 2 w2 (w.heap.size) (w1.heap.size) xs0 n0 (zs Z0 n0 2)) := R1_s0.out.below st2 (by omega)
  have R2_RW : Hid (Row 3 w2 (w1.heap.size) (w2.heap.size) RWv m0 ZR0) := hr
  clear R1_s0 B1 st2 hr hb2
  obtain ⟨RWva, RWvc, rfl⟩ := R2_RW.out.slice
  go_wp2_with fail
  go_at_call 49
  refine (toAddS_any _ n0 Z0 _ (HA0.out.below (Below.trans B2.out (by go_grown))) (by omega)).mono ?_
  rintro e w3 ⟨xx0, rfl, hr, hb3⟩
  have sz3 : w2.heap.size + 1 ≤ w3.heap.size := by have hh := hb3.size; simp at hh; omega
  have st3 : Below w2.heap.size w2 w3 := Below.trans (by go_grown) (hb3.mono (by simp))
  have c3_0_0 : w3.cell? ⟨w2.heap.size, 0, none⟩ = some ((.slice RWva m0 RWvc)) := by rw [(bcell hb3).1 _ _ (by simp)]; simp
  have B3 : Hid (Below w.heap.size w w3) := B2.out.trans (st3.mono (by omega))
  have R3_RW : Hid (Row 3 w3 (w1.heap.size) (w2.heap.size) (.slice RWva m0 RWvc) m0 ZR0) := R2_RW.out.below st3 (by omega)
  have R3_x0 : Hid (Row 2 w3 (w2.heap.size + 1) (w3.heap.size) xx0 n0 (zs Z0 n0 2)) := hr.wide (by simp) (Nat.le_refl _)
  have d3_0 : w2.heap.size < w3.heap.size := by omega
  have e3_0 : w2.heap.size ≠ w3.heap.size := by omega
  clear R2_RW B2 st3 hb3
  obtain ⟨xx0a, xx0c, rfl⟩ := R3_x0.out.slice
  go_wp2_with fail
  go_at_call 23
  refine (Hi.out _ _ (.slice xx0a n0 xx0c) _ R3_x0.out (by first | omega | (simp; omega) | simp)).mono ?_
  rintro e w4 ⟨RGv, rfl, hr, hb4⟩
  have sz4 : w3.heap.size ≤ w4.heap.size := hb4.size
  have st4 : Below w3.heap.size w3 w4 := hb4
  have c4_0_0 : w4.cell? ⟨w2.heap.size, 0, none⟩ = some ((.slice RWva m0 RWvc)) := by rw [(bcell st4).1 _ _ (by omega)]; exact c3_0_0
  have B4 : Hid (Below w.heap.size w w4) := B3.out.trans (st4.mono (by omega))
  have R4_RW : Hid (Row 3 w4 (w1.heap.size) (w2.heap.size) (.slice RWva m0 RWvc) m0 ZR0) := R3_RW.out.below st4 (by omega)
  have R4_x0 : Hid (Row 2 w4 (w2.heap.size + 1) (w3.heap.size) (.slice xx0a n0 xx0c) n0 (zs Z0 n0 2)) := R3_x0.out.below st4 (by omega)
  have R4_RG : Hid (Row 3 w4 (w3.heap.size) (w4.heap.size) RGv m0 ZR0) := hr
  have d4_0 : w2.heap.size < w4.heap.size := by omega
  have e4_0 : w2.heap.size ≠ w4.heap.size := by omega
  clear d3_0 e3_0 c3_0_0 R3_RW R3_x0 B3 st4 hr hb4
  obtain ⟨RGva, RGvc, rfl⟩ := R4_RG.out.slice
  go_wp2_with fail
  go_at_call 43
  refine (eqTop_same  ZR0 m0 _ _ _ _ _ _ _ (R4_RG.out.below (B := w4.heap.size) (by go_grown) (by omega)) (R4_RW.out.below (B := w4.heap.size) (by go_grown) (by omega)) (by first | omega | (simp; omega) | simp) (by first | omega | (simp; omega) | simp)).mono ?_
  rintro e w5 ⟨rfl, hb5⟩
  have sz5 : w4.heap.size + 1 ≤ w5.heap.size := by have hh := hb5.size; simp at hh; omega
  have st5 : Below w4.heap.size w4 w5 := Below.trans (by go_grown) (hb5.mono (by simp))
  have c5_0_0 : w5.cell? ⟨w2.heap.size, 0, none⟩ = some ((.slice RWva m0 RWvc)) := by rw [(bcell st5).1 _ _ (by omega)]; exact c4_0_0
  have c5_1_0 : w5.cell? ⟨w4.heap.size, 0, none⟩ = some ((.slice RGva m0 RGvc)) := by rw [(bcell hb5).1 _ _ (by simp)]; simp
  have B5 : Hid (Below w.heap.size w w5) := B4.out.trans (st5.mono (by omega))
  have R5_RW : Hid (Row 3 w5 (w1.heap.size) (w2.heap.size) (.slice RWva m0 RWvc) m0 ZR0) := R4_RW.out.below st5 (by omega)
  have R5_x0 : Hid (Row 2 w5 (w2.heap.size + 1) (w3.heap.size) (.slice xx0a n0 xx0c) n0 (zs Z0 n0 2)) := R4_x0.out.below st5 (by omega)
  have R5_RG : Hid (Row 3 w5 (w3.heap.size) (w4.heap.size) (.slice RGva m0 RGvc) m0 ZR0) := R4_RG.out.below st5 (by omega)
  have d5_0 : w2.heap.size < w5.heap.size := by omega
  have e5_0 : w2.heap.size ≠ w5.heap.size := by omega
  have d5_1 : w4.heap.size < w5.heap.size := by omega
  have e5_1 : w4.heap.size ≠ w5.heap.size := by omega
  clear d4_0 e4_0 c4_0_0 R4_RW R4_x0 R4_RG B4 st5 hb5
  go_wp2_with fail
  go_at_call 49
  refine (toAddS_any _ n0 Z0 _ (HA0.out.below B5.out) (by omega)).mono ?_
  rintro e w6 ⟨xy0, rfl, hr, hb6⟩
  have sz6 : w5.heap.size ≤ w6.heap.size := hb6.size
  have st6 : Below w5.heap.size w5 w6 := hb6
  have c6_0_0 : w6.cell? ⟨w2.heap.size, 0, none⟩ = some ((.slice RWva m0 RWvc)) := by rw [(bcell st6).1 _ _ (by omega)]; exact c5_0_0
  have c6_1_0 : w6.cell? ⟨w4.heap.size, 0, none⟩ = some ((.slice RGva m0 RGvc)) := by rw [(bcell st6).1 _ _ (by omega)]; exact c5_1_0
  have B6 : Hid (Below w.heap.size w w6) := B5.out.trans (st6.mono (by omega))
  have R6_RW : Hid (Row 3 w6 (w1.heap.size) (w2.heap.size) (.slice RWva m0 RWvc) m0 ZR0) := R5_RW.out.below st6 (by omega)
  have R6_x0 : Hid (Row 2 w6 (w2.heap.size + 1) (w3.heap.size) (.slice xx0a n0 xx0c) n0 (zs Z0 n0 2)) := R5_x0.out.below st6 (by omega)
  have R6_RG : Hid (Row 3 w6 (w3.heap.size) (w4.heap.size) (.slice RGva m0 RGvc) m0 ZR0) := R5_RG.out.below st6 (by omega)
  have R6_y0 : Hid (Row 2 w6 (w5.heap.size) (w6.heap.size) xy0 n0 (zs Z0 n0 2)) := hr
  have d6_0 : w2.heap.size < w6.heap.size := by omega
  have e6_0 : w2.heap.size ≠ w6.heap.size := by omega
  have d6_1 : w4.heap.size < w6.heap.size := by omega
  have e6_1 : w4.heap.size ≠ w6.heap.size := by omega
  clear d5_0 e5_0 d5_1 e5_1 c5_0_0 c5_1_0 R5_RW R5_x0 R5_RG B5 st6 hr hb6
  go_wp2_with fail
  go_at_call 50
  refine (eqAddS_same (zs Z0 n0 2) n0 _ _ _ _ _ _ _ R6_x0.out R6_y0.out (by omega) (by omega)).mono ?_
  rintro e w7 ⟨rfl, hb7⟩
  have sz7 : w6.heap.size ≤ w7.heap.size := hb7.size
  have st7 : Below w6.heap.size w6 w7 := hb7
  have c7_0_0 : w7.cell? ⟨w2.heap.size, 0, none⟩ = some ((.slice RWva m0 RWvc)) := by rw [(bcell st7).1 _ _ (by omega)]; exact c6_0_0
  have c7_1_0 : w7.cell? ⟨w4.heap.size, 0, none⟩ = some ((.slice RGva m0 RGvc)) := by rw [(bcell st7).1 _ _ (by omega)]; exact c6_1_0
  have B7 : Hid (Below w.heap.size w w7) := B6.out.trans (st7.mono (by omega))
  have R7_RW : Hid (Row 3 w7 (w1.heap.size) (w2.heap.size) (.slice RWva m0 RWvc) m0 ZR0) := R6_RW.out.below st7 (by omega)
  have R7_x0 : Hid (Row 2 w7 (w2.heap.size + 1) (w3.heap.size) (.slice xx0a n0 xx0c) n0 (zs Z0 n0 2)) := R6_x0.out.below st7 (by omega)
  have R7_RG : Hid (Row 3 w7 (w3.heap.size) (w4.heap.size) (.slice RGva m0 RGvc) m0 ZR0) := R6_RG.out.below st7 (by omega)
  have R7_y0 : Hid (Row 2 w7 (w5.heap.size) (w6.heap.size) xy0 n0 (zs Z0 n0 2)) := R6_y0.out.below st7 (by omega)
  have d7_0 : w2.heap.size < w7.heap.size := by omega
  have e7_0 : w2.heap.size ≠ w7.heap.size := by omega
  have d7_1 : w4.heap.size < w7.heap.size := by omega
  have e7_1 : w4.heap.size ≠ w7.heap.size := by omega
  clear d6_0 e6_0 d6_1 e6_1 c6_0_0 c6_1_0 R6_RW R6_x0 R6_RG R6_y0 B6 st7 hb7
  go_wp2_with fail
  go_at_call 51
  refine (markAddS_K KX0 (zs Z0 n0 2) n0 _ _ _ _ HKX0.out R7_x0.out (by omega)).mono ?_
  rintro e w8 ⟨rfl, hr, hb8⟩
  have sz8 : w7.heap.size ≤ w8.heap.size := hb8.size
  have c8_0_0 : w8.cell? ⟨w2.heap.size, 0, none⟩ = some ((.slice RWva m0 RWvc)) := by rw [hb8.cell (by omega) (by omega)]; exact c7_0_0
  have c8_1_0 : w8.cell? ⟨w4.heap.size, 0, none⟩ = some ((.slice RGva m0 RGvc)) := by rw [hb8.cell (by omega) (by omega)]; exact c7_1_0
  have B8 : Hid (Below w.heap.size w w8) := B7.out.trans (hb8.below (by omega) (by omega))
  have R8_RW : Hid (Row 3 w8 (w1.heap.size) (w2.heap.size) (.slice RWva m0 RWvc) m0 ZR0) := hb8.row R7_RW.out (by omega) (by omega)
  have R8_RG : Hid (Row 3 w8 (w3.heap.size) (w4.heap.size) (.slice RGva m0 RGvc) m0 ZR0) := hb8.row R7_RG.out (by omega) (by omega)
  have R8_x0 : Hid (Row 2 w8 (w2.heap.size + 1) (w3.heap.size) (.slice xx0a n0 xx0c) n0 (marks 1 (n0 * 2))) := hr
  have d8_0 : w2.heap.size < w8.heap.size := by omega
  have e8_0 : w2.heap.size ≠ w8.heap.size := by omega
  have d8_1 : w4.heap.size < w8.heap.size := by omega
  have e8_1 : w4.heap.size ≠ w8.heap.size := by omega
  clear d7_0 e7_0 d7_1 e7_1 c7_0_0 c7_1_0 R7_RW R7_x0 R7_RG B7 hr hb8
  go_wp2_with fail
  go_at_call 43
  refine (eqTop_same  ZR0 m0 _ _ _ _ _ _ _ R8_RG.out R8_RW.out (by first | omega | (simp; omega) | simp) (by first | omega | (simp; omega) | simp)).mono ?_
  rintro e w9 ⟨rfl, hb9⟩
  have sz9 : w8.heap.size ≤ w9.heap.size := hb9.size
  have st9 : Below w8.heap.size w8 w9 := hb9
  have c9_0_0 : w9.cell? ⟨w2.heap.size, 0, none⟩ = some ((.slice RWva m0 RWvc)) := by rw [(bcell st9).1 _ _ (by omega)]; exact c8_0_0
  have c9_1_0 : w9.cell? ⟨w4.heap.size, 0, none⟩ = some ((.slice RGva m0 RGvc)) := by rw [(bcell st9).1 _ _ (by omega)]; exact c8_1_0
  have B9 : Hid (Below w.heap.size w w9) := B8.out.trans (st9.mono (by omega))
  have R9_RW : Hid (Row 3 w9 (w1.heap.size) (w2.heap.size) (.slice RWva m0 RWvc) m0 ZR0) := R8_RW.out.below st9 (by omega)
  have R9_RG : Hid (Row 3 w9 (w3.heap.size) (w4.heap.size) (.slice RGva m0 RGvc) m0 ZR0) := R8_RG.out.below st9 (by omega)
  have R9_x0 : Hid (Row 2 w9 (w2.heap.size + 1) (w3.heap.size) (.slice xx0a n0 xx0c) n0 (marks 1 (n0 * 2))) := R8_x0.out.below st9 (by omega)
  have d9_0 : w2.heap.size < w9.heap.size := by omega
  have e9_0 : w2.heap.size ≠ w9.heap.size := by omega
  have d9_1 : w4.heap.size < w9.heap.size := by omega
  have e9_1 : w4.heap.size ≠ w9.heap.size := by omega
  clear d8_0 e8_0 d8_1 e8_1 c8_0_0 c8_1_0 R8_RW R8_RG R8_x0 B8 st9 hb9
  go_wp2_with fail
  go_at_call 46
  refine (markTop_K KG ZR0 m0 _ _ _ _ HKG.out R9_RG.out (by omega) (by omega)).mono ?_
  rintro e w10 ⟨rfl, hr, hb10⟩
  have sz10 : w9.heap.size ≤ w10.heap.size := hb10.size
  have c10_0_0 : w10.cell? ⟨w2.heap.size, 0, none⟩ = some ((.slice RWva m0 RWvc)) := by rw [hb10.cell (by omega) (by omega)]; exact c9_0_0
  have c10_1_0 : w10.cell? ⟨w4.heap.size, 0, none⟩ = some ((.slice RGva m0 RGvc)) := by rw [hb10.cell (by omega) (by omega)]; exact c9_1_0
  have B10 : Hid (Below w.heap.size w w10) := B9.out.trans (hb10.below (by omega) (by omega))
  have R10_RW : Hid (Row 3 w10 (w1.heap.size) (w2.heap.size) (.slice RWva m0 RWvc) m0 ZR0) := hb10.row R9_RW.out (by omega) (by omega)
  have R10_x0 : Hid (Row 2 w10 (w2.heap.size + 1) (w3.heap.size) (.slice xx0a n0 xx0c) n0 (marks 1 (n0 * 2))) := hb10.row R9_x0.out (by omega) (by omega)
  have R10_RG : Hid (Row 3 w10 (w3.heap.size) (w4.heap.size) (.slice RGva m0 RGvc) m0 (marks 1 (m0 * 3))) := hr
  have d10_0 : w2.heap.size < w10.heap.size := by omega
  have e10_0 : w2.heap.size ≠ w10.heap.size := by omega
  have d10_1 : w4.heap.size < w10.heap.size := by omega
  have e10_1 : w4.heap.size ≠ w10.heap.size := by omega
  clear d9_0 e9_0 d9_1 e9_1 c9_0_0 c9_1_0 R9_RW R9_RG R9_x0 B9 hr hb10
  go_wp2_with fail
  go_at_call 47
  refine (heldTop_K KG m0 _ _ _ _ HKG.out R10_RG.out (by omega) (by omega)).mono ?_
  rintro e w11 ⟨rfl, hb11⟩
  have sz11 : w10.heap.size ≤ w11.heap.size := hb11.size
  have st11 : Below w10.heap.size w10 w11 := hb11
  have c11_0_0 : w11.cell? ⟨w2.heap.size, 0, none⟩ = some ((.slice RWva m0 RWvc)) := by rw [(bcell st11).1 _ _ (by omega)]; exact c10_0_0
  have c11_1_0 : w11.cell? ⟨w4.heap.size, 0, none⟩ = some ((.slice RGva m0 RGvc)) := by rw [(bcell st11).1 _ _ (by omega)]; exact c10_1_0
  have B11 : Hid (Below w.heap.size w w11) := B10.out.trans (st11.mono (by omega))
  have R11_RW : Hid (Row 3 w11 (w1.heap.size) (w2.heap.size) (.slice RWva m0 RWvc) m0 ZR0) := R10_RW.out.below st11 (by omega)
  have R11_x0 : Hid (Row 2 w11 (w2.heap.size + 1) (w3.heap.size) (.slice xx0a n0 xx0c) n0 (marks 1 (n0 * 2))) := R10_x0.out.below st11 (by omega)
  have R11_RG : Hid (Row 3 w11 (w3.heap.size) (w4.heap.size) (.slice RGva m0 RGvc) m0 (marks 1 (m0 * 3))) := R10_RG.out.below st11 (by omega)
  have d11_0 : w2.heap.size < w11.heap.size := by omega
  have e11_0 : w2.heap.size ≠ w11.heap.size := by omega
  have d11_1 : w4.heap.size < w11.heap.size := by omega
  have e11_1 : w4.heap.size ≠ w11.heap.size := by omega
  clear d10_0 e10_0 d10_1 e10_1 c10_0_0 c10_1_0 R10_RW R10_x0 R10_RG B10 st11 hb11
  go_wp2_with fail
  go_at_call 49
  refine (toAddS_any _ n0 Z0 _ (HA0.out.below B11.out) (by omega)).mono ?_
  rintro e w12 ⟨xh0, rfl, hr, hb12⟩
  have sz12 : w11.heap.size ≤ w12.heap.size := hb12.size
  have st12 : Below w11.heap.size w11 w12 := hb12
  have c12_0_0 : w12.cell? ⟨w2.heap.size, 0, none⟩ = some ((.slice RWva m0 RWvc)) := by rw [(bcell st12).1 _ _ (by omega)]; exact c11_0_0
  have c12_1_0 : w12.cell? ⟨w4.heap.size, 0, none⟩ = some ((.slice RGva m0 RGvc)) := by rw [(bcell st12).1 _ _ (by omega)]; exact c11_1_0
  have B12 : Hid (Below w.heap.size w w12) := B11.out.trans (st12.mono (by omega))
  have R12_RW : Hid (Row 3 w12 (w1.heap.size) (w2.heap.size) (.slice RWva m0 RWvc) m0 ZR0) := R11_RW.out.below st12 (by omega)
  have R12_x0 : Hid (Row 2 w12 (w2.heap.size + 1) (w3.heap.size) (.slice xx0a n0 xx0c) n0 (marks 1 (n0 * 2))) := R11_x0.out.below st12 (by omega)
  have R12_RG : Hid (Row 3 w12 (w3.heap.size) (w4.heap.size) (.slice RGva m0 RGvc) m0 (marks 1 (m0 * 3))) := R11_RG.out.below st12 (by omega)
  have R12_h0 : Hid (Row 2 w12 (w11.heap.size) (w12.heap.size) xh0 n0 (zs Z0 n0 2)) := hr
  have d12_0 : w2.heap.size < w12.heap.size := by omega
  have e12_0 : w2.heap.size ≠ w12.heap.size := by omega
  have d12_1 : w4.heap.size < w12.heap.size := by omega
  have e12_1 : w4.heap.size ≠ w12.heap.size := by omega
  clear d11_0 e11_0 d11_1 e11_1 c11_0_0 c11_1_0 R11_RW R11_x0 R11_RG B11 st12 hr hb12
  go_wp2_with fail
  go_at_call 23
  refine (Hi.out _ _ xh0 _ R12_h0.out (by first | omega | (simp; omega) | simp)).mono ?_
  rintro e w13 ⟨RHv, rfl, hr, hb13⟩
  have sz13 : w12.heap.size ≤ w13.heap.size := hb13.size
  have st13 : Below w12.heap.size w12 w13 := hb13
  have c13_0_0 : w13.cell? ⟨w2.heap.size, 0, none⟩ = some ((.slice RWva m0 RWvc)) := by rw [(bcell st13).1 _ _ (by omega)]; exact c12_0_0
  have c13_1_0 : w13.cell? ⟨w4.heap.size, 0, none⟩ = some ((.slice RGva m0 RGvc)) := by rw [(bcell st13).1 _ _ (by omega)]; exact c12_1_0
  have B13 : Hid (Below w.heap.size w w13) := B12.out.trans (st13.mono (by omega))
  have R13_RW : Hid (Row 3 w13 (w1.heap.size) (w2.heap.size) (.slice RWva m0 RWvc) m0 ZR0) := R12_RW.out.below st13 (by omega)
  have R13_x0 : Hid (Row 2 w13 (w2.heap.size + 1) (w3.heap.size) (.slice xx0a n0 xx0c) n0 (marks 1 (n0 * 2))) := R12_x0.out.below st13 (by omega)
  have R13_RG : Hid (Row 3 w13 (w3.heap.size) (w4.heap.size) (.slice RGva m0 RGvc) m0 (marks 1 (m0 * 3))) := R12_RG.out.below st13 (by omega)
  have R13_h0 : Hid (Row 2 w13 (w11.heap.size) (w12.heap.size) xh0 n0 (zs Z0 n0 2)) := R12_h0.out.below st13 (by omega)
  have R13_RH : Hid (Row 3 w13 (w12.heap.size) (w13.heap.size) RHv m0 ZR0) := hr
  have d13_0 : w2.heap.size < w13.heap.size := by omega
  have e13_0 : w2.heap.size ≠ w13.heap.size := by omega
  have d13_1 : w4.heap.size < w13.heap.size := by omega
  have e13_1 : w4.heap.size ≠ w13.heap.size := by omega
  clear d12_0 e12_0 d12_1 e12_1 c12_0_0 c12_1_0 R12_RW R12_x0 R12_RG R12_h0 B12 st13 hr hb13
  obtain ⟨RHva, RHvc, rfl⟩ := R13_RH.out.slice
  go_wp2_with fail
  go_at_call 43
  refine (eqTop_same  ZR0 m0 _ _ _ _ _ _ _ (R13_RH.out.below (B := w13.heap.size) (by go_grown) (by omega)) (R13_RW.out.below (B := w13.heap.size) (by go_grown) (by omega)) (by first | omega | (simp; omega) | simp) (by first | omega | (simp; omega) | simp)).mono ?_
  rintro e w14 ⟨rfl, hb14⟩
  have sz14 : w13.heap.size + 1 ≤ w14.heap.size := by have hh := hb14.size; simp at hh; omega
  have st14 : Below w13.heap.size w13 w14 := Below.trans (by go_grown) (hb14.mono (by simp))
  have c14_0_0 : w14.cell? ⟨w2.heap.size, 0, none⟩ = some ((.slice RWva m0 RWvc)) := by rw [(bcell st14).1 _ _ (by omega)]; exact c13_0_0
  have c14_1_0 : w14.cell? ⟨w4.heap.size, 0, none⟩ = some ((.slice RGva m0 RGvc)) := by rw [(bcell st14).1 _ _ (by omega)]; exact c13_1_0
  have c14_2_0 : w14.cell? ⟨w13.heap.size, 0, none⟩ = some ((.slice RHva m0 RHvc)) := by rw [(bcell hb14).1 _ _ (by simp)]; simp
  have B14 : Hid (Below w.heap.size w w14) := B13.out.trans (st14.mono (by omega))
  have R14_RW : Hid (Row 3 w14 (w1.heap.size) (w2.heap.size) (.slice RWva m0 RWvc) m0 ZR0) := R13_RW.out.below st14 (by omega)
  have R14_x0 : Hid (Row 2 w14 (w2.heap.size + 1) (w3.heap.size) (.slice xx0a n0 xx0c) n0 (marks 1 (n0 * 2))) := R13_x0.out.below st14 (by omega)
  have R14_RG : Hid (Row 3 w14 (w3.heap.size) (w4.heap.size) (.slice RGva m0 RGvc) m0 (marks 1 (m0 * 3))) := R13_RG.out.below st14 (by omega)
  have R14_RH : Hid (Row 3 w14 (w12.heap.size) (w13.heap.size) (.slice RHva m0 RHvc) m0 ZR0) := R13_RH.out.below st14 (by omega)
  have d14_0 : w2.heap.size < w14.heap.size := by omega
  have e14_0 : w2.heap.size ≠ w14.heap.size := by omega
  have d14_1 : w4.heap.size < w14.heap.size := by omega
  have e14_1 : w4.heap.size ≠ w14.heap.size := by omega
  have d14_2 : w13.heap.size < w14.heap.size := by omega
  have e14_2 : w13.heap.size ≠ w14.heap.size := by omega
  clear d13_0 e13_0 d13_1 e13_1 c13_0_0 c13_1_0 R13_RW R13_x0 R13_RG R13_RH B13 st14 hb14
  go_wp2_with fail
  go_at_call 47
  refine (heldTop_K KG m0 _ _ _ _ HKG.out R14_RG.out (by omega) (by omega)).mono ?_
  rintro e w15 ⟨rfl, hb15⟩
  have sz15 : w14.heap.size ≤ w15.heap.size := hb15.size
  have st15 : Below w14.heap.size w14 w15 := hb15
  have c15_0_0 : w15.cell? ⟨w2.heap.size, 0, none⟩ = some ((.slice RWva m0 RWvc)) := by rw [(bcell st15).1 _ _ (by omega)]; exact c14_0_0
  have c15_1_0 : w15.cell? ⟨w4.heap.size, 0, none⟩ = some ((.slice RGva m0 RGvc)) := by rw [(bcell st15).1 _ _ (by omega)]; exact c14_1_0
  have c15_2_0 : w15.cell? ⟨w13.heap.size, 0, none⟩ = some ((.slice RHva m0 RHvc)) := by rw [(bcell st15).1 _ _ (by omega)]; exact c14_2_0
  have B15 : Hid (Below w.heap.size w w15) := B14.out.trans (st15.mono (by omega))
  have R15_RW : Hid (Row 3 w15 (w1.heap.size) (w2.heap.size) (.slice RWva m0 RWvc) m0 ZR0) := R14_RW.out.below st15 (by omega)
  have R15_x0 : Hid (Row 2 w15 (w2.heap.size + 1) (w3.heap.size) (.slice xx0a n0 xx0c) n0 (marks 1 (n0 * 2))) := R14_x0.out.below st15 (by omega)
  have R15_RG : Hid (Row 3 w15 (w3.heap.size) (w4.heap.size) (.slice RGva m0 RGvc) m0 (marks 1 (m0 * 3))) := R14_RG.out.below st15 (by omega)
  have R15_RH : Hid (Row 3 w15 (w12.heap.size) (w13.heap.size) (.slice RHva m0 RHvc) m0 ZR0) := R14_RH.out.below st15 (by omega)
  have d15_0 : w2.heap.size < w15.heap.size := by omega
  have e15_0 : w2.heap.size ≠ w15.heap.size := by omega
  have d15_1 : w4.heap.size < w15.heap.size := by omega
  have e15_1 : w4.heap.size ≠ w15.heap.size := by omega
  have d15_2 : w13.heap.size < w15.heap.size := by omega
  have e15_2 : w13.heap.size ≠ w15.heap.size := by omega
  clear d14_0 e14_0 d14_1 e14_1 d14_2 e14_2 c14_0_0 c14_1_0 c14_2_0 R14_RW R14_x0 R14_RG R14_RH B14 st15 hb15
  go_wp2_with fail
  go_ret
  exact ⟨rfl, B15.out⟩

set_option maxHeartbeats 2000000 in
theorem lawExactPlayTop_big0 (s0 : Value) (n0 : Nat) (Z0 : Nat → Int) (w : World) (hA0 : Arg 2 w s0 n0 Z0) (hn : 1048576 < n0) :
    Calls Try.prog 13 #[s0] w fun e w' => e = .returned (.bool true) ∧ Below w.heap.size w w' := by
  have hx0 := hA0.2.1
  obtain ⟨ad0, cp0, rfl⟩ := hA0.slice
  clear hA0
  go_enter Try.func13, Try.ntmps13
  go_wp2_with fail
  go_at_call 48
  refine (szAddS_big ad0 n0 cp0 (1048576) _ hx0 (by omega) (by omega) (by omega)).mono ?_
  rintro e w' ⟨rfl, rfl⟩
  go_wp2_with fail
  go_ret
  exact ⟨rfl, by go_grown⟩

end Go.Proofs.Ytophppnllkadoaa
