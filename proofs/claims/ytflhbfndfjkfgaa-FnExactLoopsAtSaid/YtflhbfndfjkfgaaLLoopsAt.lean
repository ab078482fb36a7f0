/- The law of LoopsAt over contracts. -/
import Derived.Test.YtflhbfndfjkfgaaL0w
namespace Go.Proofs.Ytflhbfndfjkfgaa
open Go.RowKit


set_option maxRecDepth 100000 in
set_option maxHeartbeats 8000000 in
theorem lawExactLoopsAt_fit (v0 : Value) (D0 : List (List Rt)) (a1 : Int) (w : World) (hA0 : TArg w v0 D0) (hn : ttot D0 ≤ 1048576) (nr : Nat) (ZR : List Int) (hnr : nr ≤ 1100000)
    (hs : ∀ (lo0 hi0 : Nat) (v0 : Value) (w : World), TRow w lo0 hi0 v0 D0 → hi0 ≤ w.heap.size → Calls Try.prog 25 #[v0, .int .i64 a1] w fun e w' => ∃ rv, e = .returned (rv) ∧ Row 1 w' w.heap.size w'.heap.size rv nr ZR ∧ Below w.heap.size w w')
    (hi : ∀ (lo0 hi0 : Nat) (v0 : Value) (w : World), TRow w lo0 hi0 v0 D0 → hi0 ≤ w.heap.size → Calls Try.prog 26 #[v0, .int .i64 a1] w fun e w' => ∃ rv, e = .returned (rv) ∧ Row 1 w' w.heap.size w'.heap.size rv nr ZR ∧ Below w.heap.size w w') :
    Calls Try.prog 6 #[v0, .int .i64 a1] w fun e w' => e = .returned (.bool true) ∧ Below w.heap.size w w' := by
  have HA0 := Lib.hid hA0
  obtain ⟨ad0, cp0, rfl⟩ := hA0.slice
  clear hA0
  have hmt0 : rtot D0 ≤ ttot D0 := Nat.le_add_left _ _
  have Hs := Lib.hid hs
  have Hi := Lib.hid hi
  clear hs hi
  obtain ⟨KG, hKG⟩ : ∃ K : Int, K = 1 + ((nr * 1 : Nat) : Int) := ⟨_, rfl⟩
  have hKG0 : 0 ≤ KG := by omega
  have hKG1 : ¬ (KG < 0) := by omega
  have HKG := Lib.hid hKG
  clear hKG
  obtain ⟨KX0, hKX0⟩ : ∃ K : Int, K = 1 + ((rtot D0 * 3 : Nat) : Int) := ⟨_, rfl⟩
  have hKX00 : 0 ≤ KX0 := by omega
  have hKX01 : ¬ (KX0 < 0) := by omega
  have HKX0 := Lib.hid hKX0
  clear hKX0
  have hneg0 : ¬ ((1048576 : Int) - (ttot D0 : Int) < 0) := by omega
  go_enter Try.func6, Try.ntmps6
  go_wp2_with fail
  go_at_call 8
  refine (szTableS_fit _ D0 (1048576) _ (HA0.out.below (Below.refl _ _)) (by omega) (by omega)).mono ?_
  rintro e w1 ⟨rfl, hb1⟩
  have sz1 : w.heap.size ≤ w1.heap.size := hb1.size
  have st1 : Below w.heap.size w w1 := hb1
  have B1 : Hid (Below w.heap.size w w1) := st1
  clear st1 hb1
  go_wp2_with fail
  go_at_call 10
  refine (toTableS_any _ D0 _ (HA0.out.below B1.out) (by omega)).mono ?_
  rintro e w2 ⟨xs0, rfl, hr, hb2⟩
  have sz2 : w1.heap.size ≤ w2.heap.size := hb2.size
  have st2 : Below w1.heap.size w1 w2 := hb2
  have B2 : Hid (Below w.heap.size w w2) := B1.out.trans (st2.mono (by omega))
  have R2_s0 : Hid (TRow w2 (w1.heap.size) (w2.heap.size) xs0 D0) := Lib.hid (hr)
  clear B1 st2 hr hb2
  go_wp2_with fail
  go_at_call 25
  refine (Hs.out _ _ xs0 _ R2_s0.out (by first | omega | (simp; omega) | simp)).mono ?_
  rintro e w3 ⟨RWv, rfl, hr, hb3⟩
  have sz3 : w2.heap.size ≤ w3.heap.size := hb3.size
  have st3 : Below w2.heap.size w2 w3 := hb3
  have B3 : Hid (Below w.heap.size w w3) := B2.out.trans (st3.mono (by omega))
  have R3_s0 : Hid (TRow w3 (w1.heap.size) (w2.heap.size) xs0 D0) := Lib.hid (R2_s0.out.below st3 (by omega))
  have R3_RW : Hid (Row 1 w3 (w2.heap.size) (w3.heap.size) RWv nr ZR) := Lib.hid (hr)
  clear R2_s0 B2 st3 hr hb3
  obtain ⟨RWva, RWvc, rfl⟩ := R3_RW.out.slice
  go_wp2_with fail
  go_at_call 10
  refine (toTableS_any _ D0 _ (HA0.out.below B3.out) (by omega)).mono ?_
  rintro e w4 ⟨xx0, rfl, hr, hb4⟩
  have sz4 : w3.heap.size ≤ w4.heap.size := hb4.size
  have st4 : Below w3.heap.size w3 w4 := hb4
  have B4 : Hid (Below w.heap.size w w4) := B3.out.trans (st4.mono (by omega))
  have R4_RW : Hid (Row 1 w4 (w2.heap.size) (w3.heap.size) (.slice RWva nr RWvc) nr ZR) := Lib.hid (R3_RW.out.below st4 (by omega))
  have R4_x0 : Hid (TRow w4 (w3.heap.size) (w4.heap.size) xx0 D0) := Lib.hid (hr)
  clear R3_RW B3 st4 hr hb4
  obtain ⟨xx0a, xx0c, rfl⟩ := R4_x0.out.slice
  go_wp2_with fail
  go_at_call 26
  refine (Hi.out _ _ (.slice xx0a D0.length xx0c) _ R4_x0.out (by first | omega | (simp; omega) | simp)).mono ?_
  rintro e w5 ⟨RGv, rfl, hr, hb5⟩
  have sz5 : w4.heap.size ≤ w5.heap.size := hb5.size
  have st5 : Below w4.heap.size w4 w5 := hb5
  have B5 : Hid (Below w.heap.size w w5) := B4.out.trans (st5.mono (by omega))
  have R5_RW : Hid (Row 1 w5 (w2.heap.size) (w3.heap.size) (.slice RWva nr RWvc) nr ZR) := Lib.hid (R4_RW.out.below st5 (by omega))
  have R5_x0 : Hid (TRow w5 (w3.heap.size) (w4.heap.size) (.slice xx0a D0.length xx0c) D0) := Lib.hid (R4_x0.out.below st5 (by omega))
  have R5_RG : Hid (Row 1 w5 (w4.heap.size) (w5.heap.size) RGv nr ZR) := Lib.hid (hr)
  clear R4_RW R4_x0 B4 st5 hr hb5
  obtain ⟨RGva, RGvc, rfl⟩ := R5_RG.out.slice
  go_wp2_with fail
  go_at_call 12
  refine (eqIntS_same ZR nr _ _ _ _ _ _ _ R5_RG.out R5_RW.out (by first | omega | (simp; omega) | simp) (by first | omega | (simp; omega) | simp)).mono ?_
  rintro e w6 ⟨rfl, hb6⟩
  have sz6 : w5.heap.size ≤ w6.heap.size := hb6.size
  have st6 : Below w5.heap.size w5 w6 := hb6
  have B6 : Hid (Below w.heap.size w w6) := B5.out.trans (st6.mono (by omega))
  have R6_RW : Hid (Row 1 w6 (w2.heap.size) (w3.heap.size) (.slice RWva nr RWvc) nr ZR) := Lib.hid (R5_RW.out.below st6 (by omega))
  have R6_x0 : Hid (TRow w6 (w3.heap.size) (w4.heap.size) (.slice xx0a D0.length xx0c) D0) := Lib.hid (R5_x0.out.below st6 (by omega))
  have R6_RG : Hid (Row 1 w6 (w4.heap.size) (w5.heap.size) (.slice RGva nr RGvc) nr ZR) := Lib.hid (R5_RG.out.below st6 (by omega))
  clear R5_RW R5_x0 R5_RG B5 st6 hb6
  go_wp2_with fail
  go_at_call 10
  refine (toTableS_any _ D0 _ (HA0.out.below B6.out) (by omega)).mono ?_
  rintro e w7 ⟨xy0, rfl, hr, hb7⟩
  have sz7 : w6.heap.size ≤ w7.heap.size := hb7.size
  have st7 : Below w6.heap.size w6 w7 := hb7
  have B7 : Hid (Below w.heap.size w w7) := B6.out.trans (st7.mono (by omega))
  have R7_RW : Hid (Row 1 w7 (w2.heap.size) (w3.heap.size) (.slice RWva nr RWvc) nr ZR) := Lib.hid (R6_RW.out.below st7 (by omega))
  have R7_x0 : Hid (TRow w7 (w3.heap.size) (w4.heap.size) (.slice xx0a D0.length xx0c) D0) := Lib.hid (R6_x0.out.below st7 (by omega))
  have R7_RG : Hid (Row 1 w7 (w4.heap.size) (w5.heap.size) (.slice RGva nr RGvc) nr ZR) := Lib.hid (R6_RG.out.below st7 (by omega))
  have R7_y0 : Hid (TRow w7 (w6.heap.size) (w7.heap.size) xy0 D0) := Lib.hid (hr)
  clear R6_RW R6_x0 R6_RG B6 st7 hr hb7
  go_wp2_with fail
  go_at_call 13
  refine (eqTableS_same D0 _ _ _ _ _ _ _ R7_x0.out R7_y0.out (by omega) (by omega)).mono ?_
  rintro e w8 ⟨rfl, hb8⟩
  have sz8 : w7.heap.size ≤ w8.heap.size := hb8.size
  have st8 : Below w7.heap.size w7 w8 := hb8
  have B8 : Hid (Below w.heap.size w w8) := B7.out.trans (st8.mono (by omega))
  have R8_RW : Hid (Row 1 w8 (w2.heap.size) (w3.heap.size) (.slice RWva nr RWvc) nr ZR) := Lib.hid (R7_RW.out.below st8 (by omega))
  have R8_x0 : Hid (TRow w8 (w3.heap.size) (w4.heap.size) (.slice xx0a D0.length xx0c) D0) := Lib.hid (R7_x0.out.below st8 (by omega))
  have R8_RG : Hid (Row 1 w8 (w4.heap.size) (w5.heap.size) (.slice RGva nr RGvc) nr ZR) := Lib.hid (R7_RG.out.below st8 (by omega))
  have R8_y0 : Hid (TRow w8 (w6.heap.size) (w7.heap.size) xy0 D0) := Lib.hid (R7_y0.out.below st8 (by omega))
  clear R7_RW R7_x0 R7_RG R7_y0 B7 st8 hb8
  go_wp2_with fail
  go_at_call 14
  refine (markTableS_K KX0 D0 _ _ _ _ HKX0.out R8_x0.out (by omega) (by omega)).mono ?_
  rintro e w9 ⟨rfl, hb9⟩
  have sz9 : w8.heap.size ≤ w9.heap.size := hb9.size
  have B9 : Hid (Below w.heap.size w w9) := B8.out.trans (hb9.below (by omega) (by omega))
  have R9_RW : Hid (Row 1 w9 (w2.heap.size) (w3.heap.size) (.slice RWva nr RWvc) nr ZR) := Lib.hid (hb9.row R8_RW.out (by omega) (by omega))
  have R9_RG : Hid (Row 1 w9 (w4.heap.size) (w5.heap.size) (.slice RGva nr RGvc) nr ZR) := Lib.hid (hb9.row R8_RG.out (by omega) (by omega))
  clear R8_RW R8_x0 R8_RG B8 hb9
  go_wp2_with fail
  go_at_call 12
  refine (eqIntS_same ZR nr _ _ _ _ _ _ _ R9_RG.out R9_RW.out (by first | omega | (simp; omega) | simp) (by first | omega | (simp; omega) | simp)).mono ?_
  rintro e w10 ⟨rfl, hb10⟩
  have sz10 : w9.heap.size ≤ w10.heap.size := hb10.size
  have st10 : Below w9.heap.size w9 w10 := hb10
  have B10 : Hid (Below w.heap.size w w10) := B9.out.trans (st10.mono (by omega))
  have R10_RW : Hid (Row 1 w10 (w2.heap.size) (w3.heap.size) (.slice RWva nr RWvc) nr ZR) := Lib.hid (R9_RW.out.below st10 (by omega))
  have R10_RG : Hid (Row 1 w10 (w4.heap.size) (w5.heap.size) (.slice RGva nr RGvc) nr ZR) := Lib.hid (R9_RG.out.below st10 (by omega))
  clear R9_RW R9_RG B9 st10 hb10
  go_wp2_with fail
  go_at_call 15
  refine (markIntS_T KG ZR nr _ _ _ _ HKG.out R10_RG.out (by omega)).mono ?_
  rintro e w11 ⟨rfl, hr, hb11⟩
  have sz11 : w10.heap.size ≤ w11.heap.size := hb11.size
  have B11 : Hid (Below w.heap.size w w11) := B10.out.trans (hb11.below (by omega) (by omega))
  have R11_RW : Hid (Row 1 w11 (w2.heap.size) (w3.heap.size) (.slice RWva nr RWvc) nr ZR) := Lib.hid (hb11.row R10_RW.out (by omega) (by omega))
  have R11_RG : Hid (Row 1 w11 (w4.heap.size) (w5.heap.size) (.slice RGva nr RGvc) nr (marks 1 (nr * 1))) := Lib.hid (hr)
  clear R10_RW R10_RG B10 hr hb11
  go_wp2_with fail
  go_at_call 16
  refine (heldIntS_K KG nr _ _ _ _ HKG.out R11_RG.out (by omega)).mono ?_
  rintro e w' ⟨rfl, rfl⟩
  go_wp2_with fail
  go_at_call 10
  refine (toTableS_any _ D0 _ (HA0.out.below B11.out) (by omega)).mono ?_
  rintro e w12 ⟨xh0, rfl, hr, hb12⟩
  have sz12 : w11.heap.size ≤ w12.heap.size := hb12.size
  have st12 : Below w11.heap.size w11 w12 := hb12
  have B12 : Hid (Below w.heap.size w w12) := B11.out.trans (st12.mono (by omega))
  have R12_RW : Hid (Row 1 w12 (w2.heap.size) (w3.heap.size) (.slice RWva nr RWvc) nr ZR) := Lib.hid (R11_RW.out.below st12 (by omega))
  have R12_RG : Hid (Row 1 w12 (w4.heap.size) (w5.heap.size) (.slice RGva nr RGvc) nr (marks 1 (nr * 1))) := Lib.hid (R11_RG.out.below st12 (by omega))
  have R12_h0 : Hid (TRow w12 (w11.heap.size) (w12.heap.size) xh0 D0) := Lib.hid (hr)
  clear R11_RW R11_RG B11 st12 hr hb12
  go_wp2_with fail
  go_at_call 26
  refine (Hi.out _ _ xh0 _ R12_h0.out (by first | omega | (simp; omega) | simp)).mono ?_
  rintro e w13 ⟨RHv, rfl, hr, hb13⟩
  have sz13 : w12.heap.size ≤ w13.heap.size := hb13.size
  have st13 : Below w12.heap.size w12 w13 := hb13
  have B13 : Hid (Below w.heap.size w w13) := B12.out.trans (st13.mono (by omega))
  have R13_RW : Hid (Row 1 w13 (w2.heap.size) (w3.heap.size) (.slice RWva nr RWvc) nr ZR) := Lib.hid (R12_RW.out.below st13 (by omega))
  have R13_RG : Hid (Row 1 w13 (w4.heap.size) (w5.heap.size) (.slice RGva nr RGvc) nr (marks 1 (nr * 1))) := Lib.hid (R12_RG.out.below st13 (by omega))
  have R13_h0 : Hid (TRow w13 (w11.heap.size) (w12.heap.size) xh0 D0) := Lib.hid (R12_h0.out.below st13 (by omega))
  have R13_RH : Hid (Row 1 w13 (w12.heap.size) (w13.heap.size) RHv nr ZR) := Lib.hid (hr)
  clear R12_RW R12_RG R12_h0 B12 st13 hr hb13
  obtain ⟨RHva, RHvc, rfl⟩ := R13_RH.out.slice
  go_wp2_with fail
  go_at_call 12
  refine (eqIntS_same ZR nr _ _ _ _ _ _ _ R13_RH.out R13_RW.out (by first | omega | (simp; omega) | simp) (by first | omega | (simp; omega) | simp)).mono ?_
  rintro e w14 ⟨rfl, hb14⟩
  have sz14 : w13.heap.size ≤ w14.heap.size := hb14.size
  have st14 : Below w13.heap.size w13 w14 := hb14
  have B14 : Hid (Below w.heap.size w w14) := B13.out.trans (st14.mono (by omega))
  have R14_RW : Hid (Row 1 w14 (w2.heap.size) (w3.heap.size) (.slice RWva nr RWvc) nr ZR) := Lib.hid (R13_RW.out.below st14 (by omega))
  have R14_RG : Hid (Row 1 w14 (w4.heap.size) (w5.heap.size) (.slice RGva nr RGvc) nr (marks 1 (nr * 1))) := Lib.hid (R13_RG.out.below st14 (by omega))
  have R14_RH : Hid (Row 1 w14 (w12.heap.size) (w13.heap.size) (.slice RHva nr RHvc) nr ZR) := Lib.hid (R13_RH.out.below st14 (by omega))
  clear R13_RW R13_RG R13_RH B13 st14 hb14
  go_wp2_with fail
  go_at_call 16
  refine (heldIntS_K KG nr _ _ _ _ HKG.out R14_RG.out (by omega)).mono ?_
  rintro e w' ⟨rfl, rfl⟩
  go_wp2_with fail
  go_ret
  exact ⟨rfl, B14.out⟩

set_option linter.unusedVariables false in
set_option maxHeartbeats 2000000 in
theorem lawExactLoopsAt_big0 (v0 : Value) (D0 : List (List Rt)) (a1 : Int) (w : World) (hA0 : TArg w v0 D0) (hn : 1048576 < ttot D0) :
    Calls Try.prog 6 #[v0, .int .i64 a1] w fun e w' => e = .returned (.bool true) ∧ Below w.heap.size w w' := by
  have HA0 := Lib.hid hA0
  obtain ⟨ad0, cp0, rfl⟩ := hA0.slice
  clear hA0
  have hmt0 : rtot D0 ≤ ttot D0 := Nat.le_add_left _ _
  have hneg0 : ((1048576 : Int) - (ttot D0 : Int) < 0) := by omega
  go_enter Try.func6, Try.ntmps6
  go_wp2_with fail
  go_at_call 8
  refine (szTableS_big _ D0 (1048576) _ (HA0.out.below (Below.refl _ _)) (by omega) (by omega) (by omega)).mono ?_
  rintro e w1 ⟨rfl, hb1⟩
  have sz1 : w.heap.size ≤ w1.heap.size := hb1.size
  have st1 : Below w.heap.size w w1 := hb1
  have B1 : Hid (Below w.heap.size w w1) := st1
  clear st1 hb1
  go_wp2_with fail
  go_ret
  exact ⟨rfl, B1.out⟩

end Go.Proofs.Ytflhbfndfjkfgaa
