/- The law of Thin over contracts. -/
import Derived.Test.YtadanckhmjgphaaL0
namespace Go.Proofs.Ytadanckhmjgphaa
open Go.RowKit


set_option maxRecDepth 100000 in
set_option maxHeartbeats 8000000 in
theorem lawExactThin_fit (s0 : Value) (n0 : Nat) (Z0 : Nat → Int) (a1 : Int) (w : World) (hA0 : Arg 3 w s0 n0 Z0) (hn : n0 ≤ 1048576) (m0 : Nat) (ZR0 : List Int) (b1 : Bool) (hm : m0 ≤ 1100000)
    (hs : ∀ (lo0 hi0 : Nat) (v0 : Value) (w : World), Row 3 w lo0 hi0 v0 n0 (zs Z0 n0 3) → hi0 ≤ w.heap.size → Calls Try.prog 23 #[v0, .int .i64 a1] w fun e w' => ∃ rv, e = .returned (.tuple #[rv, .bool b1]) ∧ Row 3 w' w.heap.size w'.heap.size rv m0 ZR0 ∧ Below w.heap.size w w')
    (hi : ∀ (lo0 hi0 : Nat) (v0 : Value) (w : World), Row 3 w lo0 hi0 v0 n0 (zs Z0 n0 3) → hi0 ≤ w.heap.size → Calls Try.prog 18 #[v0, .int .i64 a1] w fun e w' => ∃ rv, e = .returned (.tuple #[rv, .bool b1]) ∧ Row 3 w' w.heap.size w'.heap.size rv m0 ZR0 ∧ Below w.heap.size w w') :
    Calls Try.prog 10 #[s0, .int .i64 a1] w fun e w' => e = .returned (.bool true) ∧ Below w.heap.size w w' := by
  have hx0 := hA0.2.1
  have HA0 := Lib.hid hA0
  obtain ⟨ad0, cp0, rfl⟩ := hA0.slice
  clear hA0
  have Hs := Lib.hid hs
  have Hi := Lib.hid hi
  clear hs hi
  obtain ⟨KG, hKG⟩ : ∃ K : Int, K = 1 + ((m0 * 3 : Nat) : Int) := ⟨_, rfl⟩
  have hKG0 : 0 ≤ KG := by omega
  have hKG1 : ¬ (KG < 0) := by omega
  have HKG := Lib.hid hKG
  clear hKG
  obtain ⟨KX0, hKX0⟩ : ∃ K : Int, K = 1 + ((n0 * 3 : Nat) : Int) := ⟨_, rfl⟩
  have hKX00 : 0 ≤ KX0 := by omega
  have hKX01 : ¬ (KX0 < 0) := by omega
  have HKX0 := Lib.hid hKX0
  clear hKX0
  have hneg0 : ¬ ((1048576 : Int) - (n0 : Int) < 0) := by omega
  go_enter Try.func10, Try.ntmps10
  go_wp2_with fail
  go_at_call 30
  refine (szSampleS_fit ad0 n0 cp0 (1048576) _ hx0 (by omega) (by omega)).mono ?_
  rintro e w' ⟨rfl, rfl⟩
  go_wp2_with fail
  go_at_call 31
  refine (toSampleS_any _ n0 Z0 _ (HA0.out.below (Below.refl _ _)) (by omega)).mono ?_
  rintro e w1 ⟨xs0, rfl, hr, hb1⟩
  have sz1 : w.heap.size ≤ w1.heap.size := hb1.size
  have st1 : Below w.heap.size w w1 := hb1
  have B1 : Hid (Below w.heap.size w w1) := st1
  have R1_s0 : Hid (Row 3 w1 (w.heap.size) (w1.heap.size) xs0 n0 (zs Z0 n0 3)) := hr
  clear st1 hr hb1
  go_wp2_with fail
  go_at_call 23
  refine (Hs.out _ _ xs0 _ R1_s0.out (by first | omega | (simp; omega) | simp)).mono ?_
  rintro e w2 ⟨RWv, rfl, hr, hb2⟩
  have sz2 : w1.heap.size ≤ w2.heap.size := hb2.size
  have st2 : Below w1.heap.size w1 w2 := hb2
  have B2 : Hid (Below w.heap.size w w2) := B1.out.trans (st2.mono (by omega))
  have R2_s0 : Hid (Row 3 w2 (w.heap.size) (w1.heap.size) xs0 n0 (zs Z0 n0 3)) := R1_s0.out.below st2 (by omega)
  have R2_RW : Hid (Row 3 w2 (w1.heap.size) (w2.heap.size) RWv m0 ZR0) := hr
  clear R1_s0 B1 st2 hr hb2
  obtain ⟨RWva, RWvc, rfl⟩ := R2_RW.out.slice
  go_wp2_with fail
  go_at_call 31
  refine (toSampleS_any _ n0 Z0 _ (HA0.out.below B2.out) (by omega)).mono ?_
  rintro e w3 ⟨xx0, rfl, hr, hb3⟩
  have sz3 : w2.heap.size ≤ w3.heap.size := hb3.size
  have st3 : Below w2.heap.size w2 w3 := hb3
  have B3 : Hid (Below w.heap.size w w3) := B2.out.trans (st3.mono (by omega))
  have R3_RW : Hid (Row 3 w3 (w1.heap.size) (w2.heap.size) (.slice RWva m0 RWvc) m0 ZR0) := R2_RW.out.below st3 (by omega)
  have R3_x0 : Hid (Row 3 w3 (w2.heap.size) (w3.heap.size) xx0 n0 (zs Z0 n0 3)) := hr
  clear R2_RW B2 st3 hr hb3
  obtain ⟨xx0a, xx0c, rfl⟩ := R3_x0.out.slice
  go_wp2_with fail
  go_at_call 18
  refine (Hi.out _ _ (.slice xx0a n0 xx0c) _ R3_x0.out (by first | omega | (simp; omega) | simp)).mono ?_
  rintro e w4 ⟨RGv, rfl, hr, hb4⟩
  have sz4 : w3.heap.size ≤ w4.heap.size := hb4.size
  have st4 : Below w3.heap.size w3 w4 := hb4
  have B4 : Hid (Below w.heap.size w w4) := B3.out.trans (st4.mono (by omega))
  have R4_RW : Hid (Row 3 w4 (w1.heap.size) (w2.heap.size) (.slice RWva m0 RWvc) m0 ZR0) := R3_RW.out.below st4 (by omega)
  have R4_x0 : Hid (Row 3 w4 (w2.heap.size) (w3.heap.size) (.slice xx0a n0 xx0c) n0 (zs Z0 n0 3)) := R3_x0.out.below st4 (by omega)
  have R4_RG : Hid (Row 3 w4 (w3.heap.size) (w4.heap.size) RGv m0 ZR0) := hr
  clear R3_RW R3_x0 B3 st4 hr hb4
  obtain ⟨RGva, RGvc, rfl⟩ := R4_RG.out.slice
  go_wp2_with fail
  go_at_call 33
  refine (eqSampleS_same ZR0 m0 _ _ _ _ _ _ _ R4_RG.out R4_RW.out (by first | omega | (simp; omega) | simp) (by first | omega | (simp; omega) | simp)).mono ?_
  rintro e w5 ⟨rfl, hb5⟩
  have sz5 : w4.heap.size ≤ w5.heap.size := hb5.size
  have st5 : Below w4.heap.size w4 w5 := hb5
  have B5 : Hid (Below w.heap.size w w5) := B4.out.trans (st5.mono (by omega))
  have R5_RW : Hid (Row 3 w5 (w1.heap.size) (w2.heap.size) (.slice RWva m0 RWvc) m0 ZR0) := R4_RW.out.below st5 (by omega)
  have R5_x0 : Hid (Row 3 w5 (w2.heap.size) (w3.heap.size) (.slice xx0a n0 xx0c) n0 (zs Z0 n0 3)) := R4_x0.out.below st5 (by omega)
  have R5_RG : Hid (Row 3 w5 (w3.heap.size) (w4.heap.size) (.slice RGva m0 RGvc) m0 ZR0) := R4_RG.out.below st5 (by omega)
  clear R4_RW R4_x0 R4_RG B4 st5 hb5
  go_wp2_with fail
  go_at_call 31
  refine (toSampleS_any _ n0 Z0 _ (HA0.out.below B5.out) (by omega)).mono ?_
  rintro e w6 ⟨xy0, rfl, hr, hb6⟩
  have sz6 : w5.heap.size ≤ w6.heap.size := hb6.size
  have st6 : Below w5.heap.size w5 w6 := hb6
  have B6 : Hid (Below w.heap.size w w6) := B5.out.trans (st6.mono (by omega))
  have R6_RW : Hid (Row 3 w6 (w1.heap.size) (w2.heap.size) (.slice RWva m0 RWvc) m0 ZR0) := R5_RW.out.below st6 (by omega)
  have R6_x0 : Hid (Row 3 w6 (w2.heap.size) (w3.heap.size) (.slice xx0a n0 xx0c) n0 (zs Z0 n0 3)) := R5_x0.out.below st6 (by omega)
  have R6_RG : Hid (Row 3 w6 (w3.heap.size) (w4.heap.size) (.slice RGva m0 RGvc) m0 ZR0) := R5_RG.out.below st6 (by omega)
  have R6_y0 : Hid (Row 3 w6 (w5.heap.size) (w6.heap.size) xy0 n0 (zs Z0 n0 3)) := hr
  clear R5_RW R5_x0 R5_RG B5 st6 hr hb6
  go_wp2_with fail
  go_at_call 33
  refine (eqSampleS_same (zs Z0 n0 3) n0 _ _ _ _ _ _ _ R6_x0.out R6_y0.out (by omega) (by omega)).mono ?_
  rintro e w7 ⟨rfl, hb7⟩
  have sz7 : w6.heap.size ≤ w7.heap.size := hb7.size
  have st7 : Below w6.heap.size w6 w7 := hb7
  have B7 : Hid (Below w.heap.size w w7) := B6.out.trans (st7.mono (by omega))
  have R7_RW : Hid (Row 3 w7 (w1.heap.size) (w2.heap.size) (.slice RWva m0 RWvc) m0 ZR0) := R6_RW.out.below st7 (by omega)
  have R7_x0 : Hid (Row 3 w7 (w2.heap.size) (w3.heap.size) (.slice xx0a n0 xx0c) n0 (zs Z0 n0 3)) := R6_x0.out.below st7 (by omega)
  have R7_RG : Hid (Row 3 w7 (w3.heap.size) (w4.heap.size) (.slice RGva m0 RGvc) m0 ZR0) := R6_RG.out.below st7 (by omega)
  have R7_y0 : Hid (Row 3 w7 (w5.heap.size) (w6.heap.size) xy0 n0 (zs Z0 n0 3)) := R6_y0.out.below st7 (by omega)
  clear R6_RW R6_x0 R6_RG R6_y0 B6 st7 hb7
  go_wp2_with fail
  go_at_call 37
  refine (markSampleS_K KX0 (zs Z0 n0 3) n0 _ _ _ _ HKX0.out R7_x0.out (by omega)).mono ?_
  rintro e w8 ⟨rfl, hr, hb8⟩
  have sz8 : w7.heap.size ≤ w8.heap.size := hb8.size
  have B8 : Hid (Below w.heap.size w w8) := B7.out.trans (hb8.below (by omega) (by omega))
  have R8_RW : Hid (Row 3 w8 (w1.heap.size) (w2.heap.size) (.slice RWva m0 RWvc) m0 ZR0) := hb8.row R7_RW.out (by omega) (by omega)
  have R8_RG : Hid (Row 3 w8 (w3.heap.size) (w4.heap.size) (.slice RGva m0 RGvc) m0 ZR0) := hb8.row R7_RG.out (by omega) (by omega)
  have R8_x0 : Hid (Row 3 w8 (w2.heap.size) (w3.heap.size) (.slice xx0a n0 xx0c) n0 (marks 1 (n0 * 3))) := hr
  clear R7_RW R7_x0 R7_RG B7 hr hb8
  go_wp2_with fail
  go_at_call 33
  refine (eqSampleS_same ZR0 m0 _ _ _ _ _ _ _ R8_RG.out R8_RW.out (by first | omega | (simp; omega) | simp) (by first | omega | (simp; omega) | simp)).mono ?_
  rintro e w9 ⟨rfl, hb9⟩
  have sz9 : w8.heap.size ≤ w9.heap.size := hb9.size
  have st9 : Below w8.heap.size w8 w9 := hb9
  have B9 : Hid (Below w.heap.size w w9) := B8.out.trans (st9.mono (by omega))
  have R9_RW : Hid (Row 3 w9 (w1.heap.size) (w2.heap.size) (.slice RWva m0 RWvc) m0 ZR0) := R8_RW.out.below st9 (by omega)
  have R9_RG : Hid (Row 3 w9 (w3.heap.size) (w4.heap.size) (.slice RGva m0 RGvc) m0 ZR0) := R8_RG.out.below st9 (by omega)
  have R9_x0 : Hid (Row 3 w9 (w2.heap.size) (w3.heap.size) (.slice xx0a n0 xx0c) n0 (marks 1 (n0 * 3))) := R8_x0.out.below st9 (by omega)
  clear R8_RW R8_RG R8_x0 B8 st9 hb9
  go_wp2_with fail
  go_at_call 37
  refine (markSampleS_K KG ZR0 m0 _ _ _ _ HKG.out R9_RG.out (by omega)).mono ?_
  rintro e w10 ⟨rfl, hr, hb10⟩
  have sz10 : w9.heap.size ≤ w10.heap.size := hb10.size
  have B10 : Hid (Below w.heap.size w w10) := B9.out.trans (hb10.below (by omega) (by omega))
  have R10_RW : Hid (Row 3 w10 (w1.heap.size) (w2.heap.size) (.slice RWva m0 RWvc) m0 ZR0) := hb10.row R9_RW.out (by omega) (by omega)
  have R10_x0 : Hid (Row 3 w10 (w2.heap.size) (w3.heap.size) (.slice xx0a n0 xx0c) n0 (marks 1 (n0 * 3))) := hb10.row R9_x0.out (by omega) (by omega)
  have R10_RG : Hid (Row 3 w10 (w3.heap.size) (w4.heap.size) (.slice RGva m0 RGvc) m0 (marks 1 (m0 * 3))) := hr
  clear R9_RW R9_RG R9_x0 B9 hr hb10
  go_wp2_with fail
  go_at_call 38
  refine (heldSampleS_K KG m0 _ _ _ _ HKG.out R10_RG.out (by omega)).mono ?_
  rintro e w' ⟨rfl, rfl⟩
  go_wp2_with fail
  go_at_call 31
  refine (toSampleS_any _ n0 Z0 _ (HA0.out.below B10.out) (by omega)).mono ?_
  rintro e w11 ⟨xh0, rfl, hr, hb11⟩
  have sz11 : w10.heap.size ≤ w11.heap.size := hb11.size
  have st11 : Below w10.heap.size w10 w11 := hb11
  have B11 : Hid (Below w.heap.size w w11) := B10.out.trans (st11.mono (by omega))
  have R11_RW : Hid (Row 3 w11 (w1.heap.size) (w2.heap.size) (.slice RWva m0 RWvc) m0 ZR0) := R10_RW.out.below st11 (by omega)
  have R11_x0 : Hid (Row 3 w11 (w2.heap.size) (w3.heap.size) (.slice xx0a n0 xx0c) n0 (marks 1 (n0 * 3))) := R10_x0.out.below st11 (by omega)
  have R11_RG : Hid (Row 3 w11 (w3.heap.size) (w4.heap.size) (.slice RGva m0 RGvc) m0 (marks 1 (m0 * 3))) := R10_RG.out.below st11 (by omega)
  have R11_h0 : Hid (Row 3 w11 (w10.heap.size) (w11.heap.size) xh0 n0 (zs Z0 n0 3)) := hr
  clear R10_RW R10_x0 R10_RG B10 st11 hr hb11
  go_wp2_with fail
  go_at_call 18
  refine (Hi.out _ _ xh0 _ R11_h0.out (by first | omega | (simp; omega) | simp)).mono ?_
  rintro e w12 ⟨RHv, rfl, hr, hb12⟩
  have sz12 : w11.heap.size ≤ w12.heap.size := hb12.size
  have st12 : Below w11.heap.size w11 w12 := hb12
  have B12 : Hid (Below w.heap.size w w12) := B11.out.trans (st12.mono (by omega))
  have R12_RW : Hid (Row 3 w12 (w1.heap.size) (w2.heap.size) (.slice RWva m0 RWvc) m0 ZR0) := R11_RW.out.below st12 (by omega)
  have R12_x0 : Hid (Row 3 w12 (w2.heap.size) (w3.heap.size) (.slice xx0a n0 xx0c) n0 (marks 1 (n0 * 3))) := R11_x0.out.below st12 (by omega)
  have R12_RG : Hid (Row 3 w12 (w3.heap.size) (w4.heap.size) (.slice RGva m0 RGvc) m0 (marks 1 (m0 * 3))) := R11_RG.out.below st12 (by omega)
  have R12_h0 : Hid (Row 3 w12 (w10.heap.size) (w11.heap.size) xh0 n0 (zs Z0 n0 3)) := R11_h0.out.below st12 (by omega)
  have R12_RH : Hid (Row 3 w12 (w11.heap.size) (w12.heap.size) RHv m0 ZR0) := hr
  clear R11_RW R11_x0 R11_RG R11_h0 B11 st12 hr hb12
  obtain ⟨RHva, RHvc, rfl⟩ := R12_RH.out.slice
  go_wp2_with fail
  go_at_call 33
  refine (eqSampleS_same ZR0 m0 _ _ _ _ _ _ _ R12_RH.out R12_RW.out (by first | omega | (simp; omega) | simp) (by first | omega | (simp; omega) | simp)).mono ?_
  rintro e w13 ⟨rfl, hb13⟩
  have sz13 : w12.heap.size ≤ w13.heap.size := hb13.size
  have st13 : Below w12.heap.size w12 w13 := hb13
  have B13 : Hid (Below w.heap.size w w13) := B12.out.trans (st13.mono (by omega))
  have R13_RW : Hid (Row 3 w13 (w1.heap.size) (w2.heap.size) (.slice RWva m0 RWvc) m0 ZR0) := R12_RW.out.below st13 (by omega)
  have R13_x0 : Hid (Row 3 w13 (w2.heap.size) (w3.heap.size) (.slice xx0a n0 xx0c) n0 (marks 1 (n0 * 3))) := R12_x0.out.below st13 (by omega)
  have R13_RG : Hid (Row 3 w13 (w3.heap.size) (w4.heap.size) (.slice RGva m0 RGvc) m0 (marks 1 (m0 * 3))) := R12_RG.out.below st13 (by omega)
  have R13_RH : Hid (Row 3 w13 (w11.heap.size) (w12.heap.size) (.slice RHva m0 RHvc) m0 ZR0) := R12_RH.out.below st13 (by omega)
  clear R12_RW R12_x0 R12_RG R12_RH B12 st13 hb13
  go_wp2_with fail
  go_at_call 38
  refine (heldSampleS_K KG m0 _ _ _ _ HKG.out R13_RG.out (by omega)).mono ?_
  rintro e w' ⟨rfl, rfl⟩
  go_wp2_with fail
  go_ret
  exact ⟨rfl, B13.out⟩

set_option maxHeartbeats 2000000 in
theorem lawExactThin_big0 (s0 : Value) (n0 : Nat) (Z0 : Nat → Int) (a1 : Int) (w : World) (hA0 : Arg 3 w s0 n0 Z0) (hn : 1048576 < n0) :
    Calls Try.prog 10 #[s0, .int .i64 a1] w fun e w' => e = .returned (.bool true) ∧ Below w.heap.size w w' := by
  have hx0 := hA0.2.1
  obtain ⟨ad0, cp0, rfl⟩ := hA0.slice
  clear hA0
  go_enter Try.func10, Try.ntmps10
  go_wp2_with fail
  go_at_call 30
  refine (szSampleS_big ad0 n0 cp0 (1048576) _ hx0 (by omega) (by omega) (by omega)).mono ?_
  rintro e w' ⟨rfl, rfl⟩
  go_wp2_with fail
  go_ret
  exact ⟨rfl, by go_grown⟩

end Go.Proofs.Ytadanckhmjgphaa
