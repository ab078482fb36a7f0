/- The law of BestRoute over contracts. -/
import Derived.Test.YtpfeekdmeloakaaL0
namespace Go.Proofs.Ytpfeekdmeloakaa
open Go.RowKit


set_option maxRecDepth 100000 in
set_option maxHeartbeats 8000000 in
theorem lawExactBestRoute_fit (s0 : Value) (n0 : Nat) (Z0 : Nat → Int) (a1 : Int) (w : World) (hA0 : Arg 3 w s0 n0 Z0) (hn : n0 ≤ 1048576) (r0_0 r0_1 r0_2 : Int) (b1 : Bool)
    (hs : ∀ (lo0 hi0 : Nat) (v0 : Value) (w : World), Row 3 w lo0 hi0 v0 n0 (zs Z0 n0 3) → hi0 ≤ w.heap.size → Calls Try.prog 30 #[.agg #[v0], .int .i64 a1] w fun e w' => e = .returned (.tuple #[.agg #[.int .i64 r0_0, .int .i64 r0_1, .int .i64 r0_2], .bool b1]) ∧ Below w.heap.size w w')
    (hi : ∀ (lo0 hi0 : Nat) (v0 : Value) (w : World), Row 3 w lo0 hi0 v0 n0 (zs Z0 n0 3) → hi0 ≤ w.heap.size → Calls Try.prog 31 #[.agg #[v0], .int .i64 a1] w fun e w' => e = .returned (.tuple #[.agg #[.int .i64 r0_0, .int .i64 r0_1, .int .i64 r0_2], .bool b1]) ∧ Below w.heap.size w w') :
    Calls Try.prog 7 #[.agg #[s0], .int .i64 a1] w fun e w' => e = .returned (.bool true) ∧ Below w.heap.size w w' := by
  have hx0 := hA0.2.1
  have HA0 := Lib.hid hA0
  obtain ⟨ad0, cp0, rfl⟩ := hA0.slice
  clear hA0
  have Hs := Lib.hid hs
  have Hi := Lib.hid hi
  clear hs hi
  have H0 := fun w => szTable_any ad0 n0 cp0 (1048576) w hx0 (by omega) (by omega)
  have hneg0 : ¬ ((1048576 : Int) - (n0 : Int) < 0) := by omega
  simp only [if_neg hneg0] at H0
  go_enter Try.func7, Try.ntmps7
  go_wp2_with fail
  go_at_call 15
  refine (H0 _).mono ?_
  rintro e w1 ⟨rfl, hb1⟩
  have sz1 : w.heap.size + 1 ≤ w1.heap.size := by have hh := hb1.size; simp at hh; omega
  have st1 : Below w.heap.size w w1 := Below.trans (by go_grown) (hb1.mono (by simp))
  have c1_0_0 : w1.cell? ⟨w.heap.size, 0, none⟩ = some (.slice ad0 n0 cp0) := by rw [(bcell hb1).1 _ _ (by simp)]; simp
  have B1 : Hid (Below w.heap.size w w1) := st1
  have d1_0 : w.heap.size < w1.heap.size := by omega
  have e1_0 : w.heap.size ≠ w1.heap.size := by omega
  clear st1 hb1
  go_wp2_with fail
  go_at_call 17
  refine (toTable_any _ n0 Z0 _ (HA0.out.below B1.out) (by omega)).mono ?_
  rintro e w2 ⟨xs0, rfl, hr, hb2⟩
  have sz2 : w1.heap.size ≤ w2.heap.size := hb2.size
  have st2 : Below w1.heap.size w1 w2 := hb2
  have c2_0_0 : w2.cell? ⟨w.heap.size, 0, none⟩ = some (.slice ad0 n0 cp0) := by rw [(bcell st2).1 _ _ (by omega)]; exact c1_0_0
  have B2 : Hid (Below w.heap.size w w2) := B1.out.trans (st2.mono (by omega))
  have R2_s0 : Hid (Row 3 w2 (w1.heap.size) (w2.heap.size) xs0 n0 (zs Z0 n0 3)) := hr
  have d2_0 : w.heap.size < w2.heap.size := by omega
  have e2_0 : w.heap.size ≠ w2.heap.size := by omega
  clear d1_0 e1_0 c1_0_0 B1 st2 hr hb2
  go_wp2_with fail
  go_at_call 30
  refine (Hs.out _ _ xs0 _ R2_s0.out (by first | omega | (simp; omega) | simp)).mono ?_
  rintro e w3 ⟨rfl, hb3⟩
  have sz3 : w2.heap.size ≤ w3.heap.size := hb3.size
  have st3 : Below w2.heap.size w2 w3 := hb3
  have c3_0_0 : w3.cell? ⟨w.heap.size, 0, none⟩ = some (.slice ad0 n0 cp0) := by rw [(bcell st3).1 _ _ (by omega)]; exact c2_0_0
  have B3 : Hid (Below w.heap.size w w3) := B2.out.trans (st3.mono (by omega))
  have R3_s0 : Hid (Row 3 w3 (w1.heap.size) (w2.heap.size) xs0 n0 (zs Z0 n0 3)) := R2_s0.out.below st3 (by omega)
  have d3_0 : w.heap.size < w3.heap.size := by omega
  have e3_0 : w.heap.size ≠ w3.heap.size := by omega
  clear d2_0 e2_0 c2_0_0 R2_s0 B2 st3 hb3
  go_wp2_with fail
  go_at_call 17
  refine (toTable_any _ n0 Z0 _ (HA0.out.below (Below.trans B3.out (by go_grown))) (by omega)).mono ?_
  rintro e w4 ⟨xx0, rfl, hr, hb4⟩
  have sz4 : w3.heap.size + 1 ≤ w4.heap.size := by have hh := hb4.size; simp at hh; omega
  have st4 : Below w3.heap.size w3 w4 := Below.trans (by go_grown) (hb4.mono (by simp))
  have c4_0_0 : w4.cell? ⟨w.heap.size, 0, none⟩ = some (.slice ad0 n0 cp0) := by rw [(bcell st4).1 _ _ (by omega)]; exact c3_0_0
  have c4_1_0 : w4.cell? ⟨w3.heap.size, 0, none⟩ = some (.int .i64 r0_0) := by rw [(bcell hb4).1 _ _ (by simp)]; simp
  have c4_1_1 : w4.cell? ⟨w3.heap.size, 1, none⟩ = some (.int .i64 r0_1) := by rw [(bcell hb4).1 _ _ (by simp)]; simp
  have c4_1_2 : w4.cell? ⟨w3.heap.size, 2, none⟩ = some (.int .i64 r0_2) := by rw [(bcell hb4).1 _ _ (by simp)]; simp
  have B4 : Hid (Below w.heap.size w w4) := B3.out.trans (st4.mono (by omega))
  have R4_x0 : Hid (Row 3 w4 (w3.heap.size + 1) (w4.heap.size) xx0 n0 (zs Z0 n0 3)) := hr.wide (by simp) (Nat.le_refl _)
  have d4_0 : w.heap.size < w4.heap.size := by omega
  have e4_0 : w.heap.size ≠ w4.heap.size := by omega
  have d4_1 : w3.heap.size < w4.heap.size := by omega
  have e4_1 : w3.heap.size ≠ w4.heap.size := by omega
  clear d3_0 e3_0 c3_0_0 B3 st4 hb4
  obtain ⟨xx0a, xx0c, rfl⟩ := R4_x0.out.slice
  go_wp2_with fail
  go_at_call 31
  refine (Hi.out _ _ (.slice xx0a n0 xx0c) _ (R4_x0.out.below (B := w4.heap.size) (by go_grown) (by omega)) (by first | omega | (simp; omega) | simp)).mono ?_
  rintro e w5 ⟨rfl, hb5⟩
  have sz5 : w4.heap.size + 1 ≤ w5.heap.size := by have hh := hb5.size; simp at hh; omega
  have st5 : Below w4.heap.size w4 w5 := Below.trans (by go_grown) (hb5.mono (by simp))
  have c5_0_0 : w5.cell? ⟨w.heap.size, 0, none⟩ = some (.slice ad0 n0 cp0) := by rw [(bcell st5).1 _ _ (by omega)]; exact c4_0_0
  have c5_1_0 : w5.cell? ⟨w3.heap.size, 0, none⟩ = some (.int .i64 r0_0) := by rw [(bcell st5).1 _ _ (by omega)]; exact c4_1_0
  have c5_1_1 : w5.cell? ⟨w3.heap.size, 1, none⟩ = some (.int .i64 r0_1) := by rw [(bcell st5).1 _ _ (by omega)]; exact c4_1_1
  have c5_1_2 : w5.cell? ⟨w3.heap.size, 2, none⟩ = some (.int .i64 r0_2) := by rw [(bcell st5).1 _ _ (by omega)]; exact c4_1_2
  have c5_2_0 : w5.cell? ⟨w4.heap.size, 0, none⟩ = some ((.slice xx0a n0 xx0c)) := by rw [(bcell hb5).1 _ _ (by simp)]; simp
  have B5 : Hid (Below w.heap.size w w5) := B4.out.trans (st5.mono (by omega))
  have R5_x0 : Hid (Row 3 w5 (w3.heap.size + 1) (w4.heap.size) (.slice xx0a n0 xx0c) n0 (zs Z0 n0 3)) := R4_x0.out.below st5 (by omega)
  have d5_0 : w.heap.size < w5.heap.size := by omega
  have e5_0 : w.heap.size ≠ w5.heap.size := by omega
  have d5_1 : w3.heap.size < w5.heap.size := by omega
  have e5_1 : w3.heap.size ≠ w5.heap.size := by omega
  have d5_2 : w4.heap.size < w5.heap.size := by omega
  have e5_2 : w4.heap.size ≠ w5.heap.size := by omega
  clear d4_0 e4_0 d4_1 e4_1 c4_0_0 c4_1_0 c4_1_1 c4_1_2 R4_x0 B4 st5 hb5
  go_wp2_with fail
  go_at_call 32
  refine (eqRoute_same r0_0 r0_1 r0_2 _).mono ?_
  rintro e w6 ⟨rfl, hb6⟩
  have sz6 : w5.heap.size + 1 ≤ w6.heap.size := by have hh := hb6.size; simp at hh; omega
  have st6 : Below w5.heap.size w5 w6 := Below.trans (by go_grown) (hb6.mono (by simp))
  have c6_0_0 : w6.cell? ⟨w.heap.size, 0, none⟩ = some (.slice ad0 n0 cp0) := by rw [(bcell st6).1 _ _ (by omega)]; exact c5_0_0
  have c6_1_0 : w6.cell? ⟨w3.heap.size, 0, none⟩ = some (.int .i64 r0_0) := by rw [(bcell st6).1 _ _ (by omega)]; exact c5_1_0
  have c6_1_1 : w6.cell? ⟨w3.heap.size, 1, none⟩ = some (.int .i64 r0_1) := by rw [(bcell st6).1 _ _ (by omega)]; exact c5_1_1
  have c6_1_2 : w6.cell? ⟨w3.heap.size, 2, none⟩ = some (.int .i64 r0_2) := by rw [(bcell st6).1 _ _ (by omega)]; exact c5_1_2
  have c6_2_0 : w6.cell? ⟨w4.heap.size, 0, none⟩ = some ((.slice xx0a n0 xx0c)) := by rw [(bcell st6).1 _ _ (by omega)]; exact c5_2_0
  have c6_3_0 : w6.cell? ⟨w5.heap.size, 0, none⟩ = some (.int .i64 r0_0) := by rw [(bcell hb6).1 _ _ (by simp)]; simp
  have c6_3_1 : w6.cell? ⟨w5.heap.size, 1, none⟩ = some (.int .i64 r0_1) := by rw [(bcell hb6).1 _ _ (by simp)]; simp
  have c6_3_2 : w6.cell? ⟨w5.heap.size, 2, none⟩ = some (.int .i64 r0_2) := by rw [(bcell hb6).1 _ _ (by simp)]; simp
  have B6 : Hid (Below w.heap.size w w6) := B5.out.trans (st6.mono (by omega))
  have R6_x0 : Hid (Row 3 w6 (w3.heap.size + 1) (w4.heap.size) (.slice xx0a n0 xx0c) n0 (zs Z0 n0 3)) := R5_x0.out.below st6 (by omega)
  have d6_0 : w.heap.size < w6.heap.size := by omega
  have e6_0 : w.heap.size ≠ w6.heap.size := by omega
  have d6_1 : w3.heap.size < w6.heap.size := by omega
  have e6_1 : w3.heap.size ≠ w6.heap.size := by omega
  have d6_2 : w4.heap.size < w6.heap.size := by omega
  have e6_2 : w4.heap.size ≠ w6.heap.size := by omega
  have d6_3 : w5.heap.size < w6.heap.size := by omega
  have e6_3 : w5.heap.size ≠ w6.heap.size := by omega
  clear d5_0 e5_0 d5_1 e5_1 d5_2 e5_2 c5_0_0 c5_1_0 c5_1_1 c5_1_2 c5_2_0 R5_x0 B5 st6 hb6
  go_wp2_with fail
  go_region_held3 (fun w' => w'.cell? ⟨w.heap.size, 0, none⟩ = some (.slice ad0 n0 cp0) ∧ w'.cell? ⟨w3.heap.size, 0, none⟩ = some (.int .i64 r0_0) ∧ w'.cell? ⟨w3.heap.size, 1, none⟩ = some (.int .i64 r0_1) ∧ w'.cell? ⟨w3.heap.size, 2, none⟩ = some (.int .i64 r0_2) ∧ w'.cell? ⟨w4.heap.size, 0, none⟩ = some ((.slice xx0a n0 xx0c)) ∧ w'.cell? ⟨w5.heap.size, 0, none⟩ = some (.int .i64 r0_0) ∧ w'.cell? ⟨w5.heap.size, 1, none⟩ = some (.int .i64 r0_1) ∧ w'.cell? ⟨w5.heap.size, 2, none⟩ = some (.int .i64 r0_2) ∧ w6.heap.size ≤ w'.heap.size ∧ Below w6.heap.size w6 w') (first | assumption | exact rr8_start c6_0_0 c6_1_0 c6_1_1 c6_1_2 c6_2_0 c6_3_0 c6_3_1 c6_3_2 | exact rr8_drew (by assumption) | exact rr8_keep (by omega) (by omega) (by omega) (by omega) (by omega) (by omega) (by omega) (by omega) (by assumption) (by assumption))
    (first | (go_at_call 17; refine (toTable_any _ n0 Z0 _ (HA0.out.below (B6.out.trans ((rr8_out (by assumption)).2.mono (by omega)))) (by omega)).mono ?_; rintro e w7 ⟨y0, rfl, ry0, hb⟩; have hz7 := hb.size) | (go_at_call 19; refine (eqTable_same (zs Z0 n0 3) n0 _ _ _ _ _ _ _ (R6_x0.out.below (rr8_out (by assumption)).2 (by omega)) ry0 (by have hq := rr8_out (by assumption); omega) (Nat.le_refl _)).mono ?_; rintro e w8 ⟨rfl, hb⟩))
  have hb8 : Below w6.heap.size w6 w8 := (rr8_out (by assumption)).2
  have sz8 : w6.heap.size ≤ w8.heap.size := hb8.size
  have st8 : Below w6.heap.size w6 w8 := hb8
  have c8_0_0 : w8.cell? ⟨w.heap.size, 0, none⟩ = some (.slice ad0 n0 cp0) := by rw [(bcell st8).1 _ _ (by omega)]; exact c6_0_0
  have c8_1_0 : w8.cell? ⟨w3.heap.size, 0, none⟩ = some (.int .i64 r0_0) := by rw [(bcell st8).1 _ _ (by omega)]; exact c6_1_0
  have c8_1_1 : w8.cell? ⟨w3.heap.size, 1, none⟩ = some (.int .i64 r0_1) := by rw [(bcell st8).1 _ _ (by omega)]; exact c6_1_1
  have c8_1_2 : w8.cell? ⟨w3.heap.size, 2, none⟩ = some (.int .i64 r0_2) := by rw [(bcell st8).1 _ _ (by omega)]; exact c6_1_2
  have c8_2_0 : w8.cell? ⟨w4.heap.size, 0, none⟩ = some ((.slice xx0a n0 xx0c)) := by rw [(bcell st8).1 _ _ (by omega)]; exact c6_2_0
  have c8_3_0 : w8.cell? ⟨w5.heap.size, 0, none⟩ = some (.int .i64 r0_0) := by rw [(bcell st8).1 _ _ (by omega)]; exact c6_3_0
  have c8_3_1 : w8.cell? ⟨w5.heap.size, 1, none⟩ = some (.int .i64 r0_1) := by rw [(bcell st8).1 _ _ (by omega)]; exact c6_3_1
  have c8_3_2 : w8.cell? ⟨w5.heap.size, 2, none⟩ = some (.int .i64 r0_2) := by rw [(bcell st8).1 _ _ (by omega)]; exact c6_3_2
  have B8 : Hid (Below w.heap.size w w8) := B6.out.trans (st8.mono (by omega))
  have R8_x0 : Hid (Row 3 w8 (w3.heap.size + 1) (w4.heap.size) (.slice xx0a n0 xx0c) n0 (zs Z0 n0 3)) := R6_x0.out.below st8 (by omega)
  have d8_0 : w.heap.size < w8.heap.size := by omega
  have e8_0 : w.heap.size ≠ w8.heap.size := by omega
  have d8_1 : w3.heap.size < w8.heap.size := by omega
  have e8_1 : w3.heap.size ≠ w8.heap.size := by omega
  have d8_2 : w4.heap.size < w8.heap.size := by omega
  have e8_2 : w4.heap.size ≠ w8.heap.size := by omega
  have d8_3 : w5.heap.size < w8.heap.size := by omega
  have e8_3 : w5.heap.size ≠ w8.heap.size := by omega
  clear d6_0 e6_0 d6_1 e6_1 d6_2 e6_2 d6_3 e6_3 c6_0_0 c6_1_0 c6_1_1 c6_1_2 c6_2_0 c6_3_0 c6_3_1 c6_3_2 R6_x0 B6 st8 hb8
  go_wp2_with fail
  go_ret
  exact ⟨rfl, B8.out⟩

set_option maxHeartbeats 2000000 in
theorem lawExactBestRoute_big0 (s0 : Value) (n0 : Nat) (Z0 : Nat → Int) (a1 : Int) (w : World) (hA0 : Arg 3 w s0 n0 Z0) (hn : 1048576 < n0) :
    Calls Try.prog 7 #[.agg #[s0], .int .i64 a1] w fun e w' => e = .returned (.bool true) ∧ Below w.heap.size w w' := by
  have hx0 := hA0.2.1
  obtain ⟨ad0, cp0, rfl⟩ := hA0.slice
  clear hA0
  have H0 := fun w => szTable_any ad0 n0 cp0 (1048576) w hx0 (by omega) (by omega)
  have hneg0 : ((1048576 : Int) - (n0 : Int) < 0) := by omega
  simp only [if_pos hneg0] at H0
  clear hneg0
  go_enter Try.func7, Try.ntmps7
  go_wp2_with fail
  go_at_call 15
  refine (H0 _).mono ?_
  rintro e w1 ⟨rfl, hb1⟩
  have sz1 : w.heap.size + 1 ≤ w1.heap.size := by have hh := hb1.size; simp at hh; omega
  have st1 : Below w.heap.size w w1 := Below.trans (by go_grown) (hb1.mono (by simp))
  have c1_0_0 : w1.cell? ⟨w.heap.size, 0, none⟩ = some (.slice ad0 n0 cp0) := by rw [(bcell hb1).1 _ _ (by simp)]; simp
  have B1 : Hid (Below w.heap.size w w1) := st1
  have d1_0 : w.heap.size < w1.heap.size := by omega
  have e1_0 : w.heap.size ≠ w1.heap.size := by omega
  clear st1 hb1
  go_wp2_with fail
  go_ret
  exact ⟨rfl, B1.out⟩

end Go.Proofs.Ytpfeekdmeloakaa
