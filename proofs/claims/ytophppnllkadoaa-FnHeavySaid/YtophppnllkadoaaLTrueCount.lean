/- The law of TrueCount over contracts. -/
import Derived.Test.YtophppnllkadoaaGc
namespace Go.Proofs.Ytophppnllkadoaa
open Go.RowKit


set_option maxRecDepth 100000 in
set_option maxHeartbeats 8000000 in
theorem lawExactTrueCount_fit (s0 : Value) (n0 : Nat) (Z0 : Nat → Int) (a1 : Int) (w : World) (hA0 : Arg 2 w s0 n0 Z0) (hn : n0 ≤ 1048576) (r0 : Int)
    (hs : ∀ (lo0 hi0 : Nat) (v0 : Value) (w : World), Row 2 w lo0 hi0 v0 n0 (zs Z0 n0 2) → hi0 ≤ w.heap.size → capOk v0 n0 → Calls Try.prog 26 #[v0, .int .i64 a1] w fun e w' => e = .returned (.int .i64 r0) ∧ Below w.heap.size w w')
    (hi : ∀ (lo0 hi0 : Nat) (v0 : Value) (w : World), Row 2 w lo0 hi0 v0 n0 (zs Z0 n0 2) → hi0 ≤ w.heap.size → capOk v0 n0 → Calls Try.prog 24 #[v0, .int .i64 a1] w fun e w' => e = .returned (.int .i64 r0) ∧ Below w.heap.size w w') :
    Calls Try.prog 14 #[s0, .int .i64 a1] w fun e w' => e = .returned (.bool true) ∧ Below w.heap.size w w' := by
  have hx0 := hA0.2.1
  have HA0 := Lib.hid hA0
  obtain ⟨ad0, cp0, rfl⟩ := hA0.slice
  clear hA0
  have Hs := Lib.hid hs
  have Hi := Lib.hid hi
  clear hs hi
  have hneg0 : ¬ ((1048576 : Int) - (n0 : Int) < 0) := by omega
  go_enter Try.func14, Try.ntmps14
  go_wp2_with fail
  go_at_call 48
  refine (szAddS_fit ad0 n0 cp0 (1048576) _ hx0 (by omega) (by omega)).mono ?_
  rintro e w' ⟨rfl, rfl⟩
  go_wp2_with fail
  go_at_call 49
  refine (toAddSC_any _ n0 Z0 _ (HA0.out.below (Below.refl _ _)) (by omega)).mono ?_
  rintro e w1 ⟨xs0, rfl, hr, cq_s0, hb1⟩
  have sz1 : w.heap.size ≤ w1.heap.size := hb1.size
  have st1 : Below w.heap.size w w1 := hb1
  have B1 : Hid (Below w.heap.size w w1) := st1
  have R1_s0 : Hid (Row 2 w1 (w.heap.size) (w1.heap.size) xs0 n0 (zs Z0 n0 2)) := hr
  clear st1 hr hb1
  go_wp2_with fail
  go_at_call 26
  refine (Hs.out _ _ xs0 _ R1_s0.out (by first | omega | (simp; omega) | simp) cq_s0).mono ?_
  rintro e w2 ⟨rfl, hb2⟩
  have sz2 : w1.heap.size ≤ w2.heap.size := hb2.size
  have st2 : Below w1.heap.size w1 w2 := hb2
  have B2 : Hid (Below w.heap.size w w2) := B1.out.trans (st2.mono (by omega))
  have R2_s0 : Hid (Row 2 w2 (w.heap.size) (w1.heap.size) xs0 n0 (zs Z0 n0 2)) := R1_s0.out.below st2 (by omega)
  clear R1_s0 B1 st2 hb2
  go_wp2_with fail
  go_at_call 49
  refine (toAddSC_any _ n0 Z0 _ (HA0.out.below B2.out) (by omega)).mono ?_
  rintro e w3 ⟨xx0, rfl, hr, cq_x0, hb3⟩
  have sz3 : w2.heap.size ≤ w3.heap.size := hb3.size
  have st3 : Below w2.heap.size w2 w3 := hb3
  have B3 : Hid (Below w.heap.size w w3) := B2.out.trans (st3.mono (by omega))
  have R3_x0 : Hid (Row 2 w3 (w2.heap.size) (w3.heap.size) xx0 n0 (zs Z0 n0 2)) := hr
  clear B2 st3 hr hb3
  obtain ⟨xx0a, xx0c, rfl⟩ := R3_x0.out.slice
  go_wp2_with fail
  go_at_call 24
  refine (Hi.out _ _ (.slice xx0a n0 xx0c) _ R3_x0.out (by first | omega | (simp; omega) | simp) cq_x0).mono ?_
  rintro e w4 ⟨rfl, hb4⟩
  have sz4 : w3.heap.size ≤ w4.heap.size := hb4.size
  have st4 : Below w3.heap.size w3 w4 := hb4
  have B4 : Hid (Below w.heap.size w w4) := B3.out.trans (st4.mono (by omega))
  have R4_x0 : Hid (Row 2 w4 (w2.heap.size) (w3.heap.size) (.slice xx0a n0 xx0c) n0 (zs Z0 n0 2)) := R3_x0.out.below st4 (by omega)
  clear R3_x0 B3 st4 hb4
  go_wp2_with fail
  go_at_call 49
  refine (toAddSC_any _ n0 Z0 _ (HA0.out.below B4.out) (by omega)).mono ?_
  rintro e w5 ⟨xy0, rfl, hr, cq_y0, hb5⟩
  have sz5 : w4.heap.size ≤ w5.heap.size := hb5.size
  have st5 : Below w4.heap.size w4 w5 := hb5
  have B5 : Hid (Below w.heap.size w w5) := B4.out.trans (st5.mono (by omega))
  have R5_x0 : Hid (Row 2 w5 (w2.heap.size) (w3.heap.size) (.slice xx0a n0 xx0c) n0 (zs Z0 n0 2)) := R4_x0.out.below st5 (by omega)
  have R5_y0 : Hid (Row 2 w5 (w4.heap.size) (w5.heap.size) xy0 n0 (zs Z0 n0 2)) := hr
  clear R4_x0 B4 st5 hr hb5
  go_wp2_with fail
  go_at_call 50
  refine (eqAddS_same (zs Z0 n0 2) n0 _ _ _ _ _ _ _ R5_x0.out R5_y0.out (by omega) (by omega)).mono ?_
  rintro e w6 ⟨rfl, hb6⟩
  have sz6 : w5.heap.size ≤ w6.heap.size := hb6.size
  have st6 : Below w5.heap.size w5 w6 := hb6
  have B6 : Hid (Below w.heap.size w w6) := B5.out.trans (st6.mono (by omega))
  have R6_x0 : Hid (Row 2 w6 (w2.heap.size) (w3.heap.size) (.slice xx0a n0 xx0c) n0 (zs Z0 n0 2)) := R5_x0.out.below st6 (by omega)
  have R6_y0 : Hid (Row 2 w6 (w4.heap.size) (w5.heap.size) xy0 n0 (zs Z0 n0 2)) := R5_y0.out.below st6 (by omega)
  clear R5_x0 R5_y0 B5 st6 hb6
  go_wp2_with fail
  go_ret
  exact ⟨rfl, B6.out⟩

set_option maxHeartbeats 2000000 in
theorem lawExactTrueCount_big0 (s0 : Value) (n0 : Nat) (Z0 : Nat → Int) (a1 : Int) (w : World) (hA0 : Arg 2 w s0 n0 Z0) (hn : 1048576 < n0) :
    Calls Try.prog 14 #[s0, .int .i64 a1] w fun e w' => e = .returned (.bool true) ∧ Below w.heap.size w w' := by
  have hx0 := hA0.2.1
  obtain ⟨ad0, cp0, rfl⟩ := hA0.slice
  clear hA0
  go_enter Try.func14, Try.ntmps14
  go_wp2_with fail
  go_at_call 48
  refine (szAddS_big ad0 n0 cp0 (1048576) _ hx0 (by omega) (by omega) (by omega)).mono ?_
  rintro e w' ⟨rfl, rfl⟩
  go_wp2_with fail
  go_ret
  exact ⟨rfl, by go_grown⟩

end Go.Proofs.Ytophppnllkadoaa
