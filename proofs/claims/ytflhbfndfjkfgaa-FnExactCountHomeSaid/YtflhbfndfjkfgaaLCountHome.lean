/- The law of CountHome over contracts. -/
import Derived.Test.YtflhbfndfjkfgaaL0w
namespace Go.Proofs.Ytflhbfndfjkfgaa
open Go.RowKit


set_option maxRecDepth 100000 in
set_option maxHeartbeats 8000000 in
theorem lawExactCountHome_fit (v0 : Value) (D0 : List (List Rt)) (a1 : Int) (w : World) (hA0 : TArg w v0 D0) (hn : ttot D0 ≤ 1048576) (r0 : Int) 
    (hs : ∀ (lo0 hi0 : Nat) (v0 : Value) (w : World), TRow w lo0 hi0 v0 D0 → hi0 ≤ w.heap.size → Calls Try.prog 27 #[v0, .int .i64 a1] w fun e w' => e = .returned (.int .i64 r0) ∧ Below w.heap.size w w')
    (hi : ∀ (lo0 hi0 : Nat) (v0 : Value) (w : World), TRow w lo0 hi0 v0 D0 → hi0 ≤ w.heap.size → Calls Try.prog 28 #[v0, .int .i64 a1] w fun e w' => e = .returned (.int .i64 r0) ∧ Below w.heap.size w w') :
    Calls Try.prog 7 #[v0, .int .i64 a1] w fun e w' => e = .returned (.bool true) ∧ Below w.heap.size w w' := by
  have HA0 := Lib.hid hA0
  obtain ⟨ad0, cp0, rfl⟩ := hA0.slice
  clear hA0
  have hmt0 : rtot D0 ≤ ttot D0 := Nat.le_add_left _ _
  have Hs := Lib.hid hs
  have Hi := Lib.hid hi
  clear hs hi
  have hneg0 : ¬ ((1048576 : Int) - (ttot D0 : Int) < 0) := by omega
  go_enter Try.func7, Try.ntmps7
  go_wp2_with fail
  go_at_call 8
  refine (szTableS_fit _ D0 (1048576) _ (HA0.out.below (Below.refl _ _)) (by omega) (by omega)).mono ?_
  rintro e w1 ⟨rfl, hb1⟩
  have sz1 : w.heap.size ≤ w1.heap.size := hb1.size
  have st1 : Below w.heap.size w w1 := hb1
  have B1 : Hid (Below w.heap.size w w1) := st1
  clear st1 hb1
  go_wp2_with fail
  go_at_call 10
  refine (toTableS_any _ D0 _ (HA0.out.below B1.out) (by omega)).mono ?_
  rintro e w2 ⟨xs0, rfl, hr, hb2⟩
  have sz2 : w1.heap.size ≤ w2.heap.size := hb2.size
  have st2 : Below w1.heap.size w1 w2 := hb2
  have B2 : Hid (Below w.heap.size w w2) := B1.out.trans (st2.mono (by omega))
  have R2_s0 : Hid (TRow w2 (w1.heap.size) (w2.heap.size) xs0 D0) := Lib.hid (hr)
  clear B1 st2 hr hb2
  go_wp2_with fail
  go_at_call 27
  refine (Hs.out _ _ xs0 _ R2_s0.out (by first | omega | (simp; omega) | simp)).mono ?_
  rintro e w3 ⟨rfl, hb3⟩
  have sz3 : w2.heap.size ≤ w3.heap.size := hb3.size
  have st3 : Below w2.heap.size w2 w3 := hb3
  have B3 : Hid (Below w.heap.size w w3) := B2.out.trans (st3.mono (by omega))
  have R3_s0 : Hid (TRow w3 (w1.heap.size) (w2.heap.size) xs0 D0) := Lib.hid (R2_s0.out.below st3 (by omega))
  clear R2_s0 B2 st3 hb3
  go_wp2_with fail
  go_at_call 10
  refine (toTableS_any _ D0 _ (HA0.out.below B3.out) (by omega)).mono ?_
  rintro e w4 ⟨xx0, rfl, hr, hb4⟩
  have sz4 : w3.heap.size ≤ w4.heap.size := hb4.size
  have st4 : Below w3.heap.size w3 w4 := hb4
  have B4 : Hid (Below w.heap.size w w4) := B3.out.trans (st4.mono (by omega))
  have R4_x0 : Hid (TRow w4 (w3.heap.size) (w4.heap.size) xx0 D0) := Lib.hid (hr)
  clear B3 st4 hr hb4
  obtain ⟨xx0a, xx0c, rfl⟩ := R4_x0.out.slice
  go_wp2_with fail
  go_at_call 28
  refine (Hi.out _ _ (.slice xx0a D0.length xx0c) _ R4_x0.out (by first | omega | (simp; omega) | simp)).mono ?_
  rintro e w5 ⟨rfl, hb5⟩
  have sz5 : w4.heap.size ≤ w5.heap.size := hb5.size
  have st5 : Below w4.heap.size w4 w5 := hb5
  have B5 : Hid (Below w.heap.size w w5) := B4.out.trans (st5.mono (by omega))
  have R5_x0 : Hid (TRow w5 (w3.heap.size) (w4.heap.size) (.slice xx0a D0.length xx0c) D0) := Lib.hid (R4_x0.out.below st5 (by omega))
  clear R4_x0 B4 st5 hb5
  go_wp2_with fail
  go_at_call 10
  refine (toTableS_any _ D0 _ (HA0.out.below B5.out) (by omega)).mono ?_
  rintro e w6 ⟨xy0, rfl, hr, hb6⟩
  have sz6 : w5.heap.size ≤ w6.heap.size := hb6.size
  have st6 : Below w5.heap.size w5 w6 := hb6
  have B6 : Hid (Below w.heap.size w w6) := B5.out.trans (st6.mono (by omega))
  have R6_x0 : Hid (TRow w6 (w3.heap.size) (w4.heap.size) (.slice xx0a D0.length xx0c) D0) := Lib.hid (R5_x0.out.below st6 (by omega))
  have R6_y0 : Hid (TRow w6 (w5.heap.size) (w6.heap.size) xy0 D0) := Lib.hid (hr)
  clear R5_x0 B5 st6 hr hb6
  go_wp2_with fail
  go_at_call 13
  refine (eqTableS_same D0 _ _ _ _ _ _ _ R6_x0.out R6_y0.out (by omega) (by omega)).mono ?_
  rintro e w7 ⟨rfl, hb7⟩
  have sz7 : w6.heap.size ≤ w7.heap.size := hb7.size
  have st7 : Below w6.heap.size w6 w7 := hb7
  have B7 : Hid (Below w.heap.size w w7) := B6.out.trans (st7.mono (by omega))
  have R7_x0 : Hid (TRow w7 (w3.heap.size) (w4.heap.size) (.slice xx0a D0.length xx0c) D0) := Lib.hid (R6_x0.out.below st7 (by omega))
  have R7_y0 : Hid (TRow w7 (w5.heap.size) (w6.heap.size) xy0 D0) := Lib.hid (R6_y0.out.below st7 (by omega))
  clear R6_x0 R6_y0 B6 st7 hb7
  go_wp2_with fail
  go_ret
  exact ⟨rfl, B7.out⟩

set_option linter.unusedVariables false in
set_option maxHeartbeats 2000000 in
theorem lawExactCountHome_big0 (v0 : Value) (D0 : List (List Rt)) (a1 : Int) (w : World) (hA0 : TArg w v0 D0) (hn : 1048576 < ttot D0) :
    Calls Try.prog 7 #[v0, .int .i64 a1] w fun e w' => e = .returned (.bool true) ∧ Below w.heap.size w w' := by
  have HA0 := Lib.hid hA0
  obtain ⟨ad0, cp0, rfl⟩ := hA0.slice
  clear hA0
  have hmt0 : rtot D0 ≤ ttot D0 := Nat.le_add_left _ _
  have hneg0 : ((1048576 : Int) - (ttot D0 : Int) < 0) := by omega
  go_enter Try.func7, Try.ntmps7
  go_wp2_with fail
  go_at_call 8
  refine (szTableS_big _ D0 (1048576) _ (HA0.out.below (Below.refl _ _)) (by omega) (by omega) (by omega)).mono ?_
  rintro e w1 ⟨rfl, hb1⟩
  have sz1 : w.heap.size ≤ w1.heap.size := hb1.size
  have st1 : Below w.heap.size w w1 := hb1
  have B1 : Hid (Below w.heap.size w w1) := st1
  clear st1 hb1
  go_wp2_with fail
  go_ret
  exact ⟨rfl, B1.out⟩

end Go.Proofs.Ytflhbfndfjkfgaa
