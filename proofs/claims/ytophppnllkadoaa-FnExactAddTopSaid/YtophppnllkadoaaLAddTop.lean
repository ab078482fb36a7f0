/- The law of AddTop over contracts. -/
import Derived.Test.YtophppnllkadoaaL0
namespace Go.Proofs.Ytophppnllkadoaa
open Go.RowKit


set_option maxRecDepth 100000 in
set_option maxHeartbeats 8000000 in
theorem lawExactAddTop_fit (s0 : Value) (n0 : Nat) (Z0 : Nat → Int) (a1 : Int) (a2 : Int) (w : World) (hA0 : Arg 3 w s0 n0 Z0) (hn : n0 ≤ 1048576) (m0 : Nat) (ZR0 : List Int) (b1 : Bool) (hm : m0 ≤ 1100000)
    (hs : ∀ (lo0 hi0 : Nat) (v0 : Value) (w : World), Row 3 w lo0 hi0 v0 n0 (zs Z0 n0 3) → hi0 ≤ w.heap.size → Calls Try.prog 44 #[.agg #[v0], .int .i64 a1, .int .i64 a2] w fun e w' => ∃ rv, e = .returned (.tuple #[.agg #[rv], .bool b1]) ∧ Row 3 w' w.heap.size w'.heap.size rv m0 ZR0 ∧ Below w.heap.size w w')
    (hi : ∀ (lo0 hi0 : Nat) (v0 : Value) (w : World), Row 3 w lo0 hi0 v0 n0 (zs Z0 n0 3) → hi0 ≤ w.heap.size → Calls Try.prog 45 #[.agg #[v0], .int .i64 a1, .int .i64 a2] w fun e w' => ∃ rv, e = .returned (.tuple #[.agg #[rv], .bool b1]) ∧ Row 3 w' w.heap.size w'.heap.size rv m0 ZR0 ∧ Below w.heap.size w w') :
    Calls Try.prog 12 #[.agg #[s0], .int .i64 a1, .int .i64 a2] w fun e w' => e = .returned (.bool true) ∧ Below w.heap.size w w' := by
  have hx0 := hA0.2.1
  have HA0 := Lib.hid hA0
  obtain ⟨ad0, cp0, rfl⟩ := hA0.slice
  clear hA0
  have Hs := Lib.hid hs
  have Hi := Lib.hid hi
  clear hs hi
  obtain ⟨KG, hKG⟩ : ∃ K : Int, K = 1 + ((m0 * 3 : Nat) : Int) := ⟨_, rfl⟩
  have hKG0 : 0 ≤ KG := by omega
  have hKG1 : ¬ (KG < 0) := by omega
  have HKG := Lib.hid hKG
  clear hKG
  obtain ⟨KX0, hKX0⟩ : ∃ K : Int, K = 1 + ((n0 * 3 : Nat) : Int) := ⟨_, rfl⟩
  have hKX00 : 0 ≤ KX0 := by omega
  have hKX01 : ¬ (KX0 < 0) := by omega
  have hKX02 : KX0 ≤ 1000000000 := by omega
  have HKX0 := Lib.hid hKX0
  clear hKX0
  have H0 := fun w => szTop_any ad0 n0 cp0 (1048576) w hx0 (by omega) (by omega)
  have hneg0 : ¬ ((1048576 : Int) - (n0 : Int) < 0) := by omega
  simp only [if_neg hneg0] at H0
  go_enter Try.func12, Try.ntmps12
  go_wp2_with fail
  go_at_call 40
  refine (H0 _).mono ?_
  rintro e w1 ⟨rfl, hb1⟩
  have sz1 : w.heap.size + 1 ≤ w1.heap.size := by have hh := hb1.size; simp at hh; omega
  have st1 : Below w.heap.size w w1 := Below.trans (by go_grown) (hb1.mono (by simp))
  have c1_0_0 : w1.cell? ⟨w.heap.size, 0, none⟩ = some (.slice ad0 n0 cp0) := by rw [(bcell hb1).1 _ _ (by simp)]; simp
  have B1 : Hid (Below w.heap.size w w1) := st1
  have d1_0 : w.heap.size < w1.heap.size := by omega
  have e1_0 : w.heap.size ≠ w1.heap.size := by omega
  clear st1 hb1
  go_wp2_with fail
  go_at_call 41
  refine (toTop_any _ n0 Z0 _ (HA0.out.below B1.out) (by omega)).mono ?_
  rintro e w2 ⟨xs0, rfl, hr, hb2⟩
  have sz2 : w1.heap.size ≤ w2.heap.size := hb2.size
  have st2 : Below w1.heap.size w1 w2 := hb2
  have c2_0_0 : w2.cell? ⟨w.heap.size, 0, none⟩ = some (.slice ad0 n0 cp0) := by rw [(bcell st2).1 _ _ (by omega)]; exact c1_0_0
  have B2 : Hid (Below w.heap.size w w2) := B1.out.trans (st2.mono (by omega))
  have R2_s0 : Hid (Row 3 w2 (w1.heap.size) (w2.heap.size) xs0 n0 (zs Z0 n0 3)) := hr
  have d2_0 : w.heap.size < w2.heap.size := by omega
  have e2_0 : w.heap.size ≠ w2.heap.size := by omega
  clear d1_0 e1_0 c1_0_0 B1 st2 hr hb2
  go_wp2_with fail
  go_at_call 44
  refine (Hs.out _ _ xs0 _ R2_s0.out (by first | omega | (simp; omega) | simp)).mono ?_
  rintro e w3 ⟨RWv, rfl, hr, hb3⟩
  have sz3 : w2.heap.size ≤ w3.heap.size := hb3.size
  have st3 : Below w2.heap.size w2 w3 := hb3
  have c3_0_0 : w3.cell? ⟨w.heap.size, 0, none⟩ = some (.slice ad0 n0 cp0) := by rw [(bcell st3).1 _ _ (by omega)]; exact c2_0_0
  have B3 : Hid (Below w.heap.size w w3) := B2.out.trans (st3.mono (by omega))
  have R3_s0 : Hid (Row 3 w3 (w1.heap.size) (w2.heap.size) xs0 n0 (zs Z0 n0 3)) := R2_s0.out.below st3 (by omega)
  have R3_RW : Hid (Row 3 w3 (w2.heap.size) (w3.heap.size) RWv m0 ZR0) := hr
  have d3_0 : w.heap.size < w3.heap.size := by omega
  have e3_0 : w.heap.size ≠ w3.heap.size := by omega
  clear d2_0 e2_0 c2_0_0 R2_s0 B2 st3 hr hb3
  obtain ⟨RWva, RWvc, rfl⟩ := R3_RW.out.slice
  go_wp2_with fail
  go_at_call 41
  refine (toTop_any _ n0 Z0 _ (HA0.out.below (Below.trans B3.out (by go_grown))) (by omega)).mono ?_
  rintro e w4 ⟨xx0, rfl, hr, hb4⟩
  have sz4 : w3.heap.size + 1 ≤ w4.heap.size := by have hh := hb4.size; simp at hh; omega
  have st4 : Below w3.heap.size w3 w4 := Below.trans (by go_grown) (hb4.mono (by simp))
  have c4_0_0 : w4.cell? ⟨w.heap.size, 0, none⟩ = some (.slice ad0 n0 cp0) := by rw [(bcell st4).1 _ _ (by omega)]; exact c3_0_0
  have c4_1_0 : w4.cell? ⟨w3.heap.size, 0, none⟩ = some ((.slice RWva m0 RWvc)) := by rw [(bcell hb4).1 _ _ (by simp)]; simp
  have B4 : Hid (Below w.heap.size w w4) := B3.out.trans (st4.mono (by omega))
  have R4_RW : Hid (Row 3 w4 (w2.heap.size) (w3.heap.size) (.slice RWva m0 RWvc) m0 ZR0) := R3_RW.out.below st4 (by omega)
  have R4_x0 : Hid (Row 3 w4 (w3.heap.size + 1) (w4.heap.size) xx0 n0 (zs Z0 n0 3)) := hr.wide (by simp) (Nat.le_refl _)
  have d4_0 : w.heap.size < w4.heap.size := by omega
  have e4_0 : w.heap.size ≠ w4.heap.size := by omega
  have d4_1 : w3.heap.size < w4.heap.size := by omega
  have e4_1 : w3.heap.size ≠ w4.heap.size := by omega
  clear d3_0 e3_0 c3_0_0 R3_RW B3 st4 hb4
  obtain ⟨xx0a, xx0c, rfl⟩ := R4_x0.out.slice
  go_wp2_with fail
  go_at_call 45
  refine (Hi.out _ _ (.slice xx0a n0 xx0c) _ (R4_x0.out.below (B := w4.heap.size) (by go_grown) (by omega)) (by first | omega | (simp; omega) | simp)).mono ?_
  rintro e w5 ⟨RGv, rfl, hr, hb5⟩
  have sz5 : w4.heap.size + 1 ≤ w5.heap.size := by have hh := hb5.size; simp at hh; omega
  have st5 : Below w4.heap.size w4 w5 := Below.trans (by go_grown) (hb5.mono (by simp))
  have c5_0_0 : w5.cell? ⟨w.heap.size, 0, none⟩ = some (.slice ad0 n0 cp0) := by rw [(bcell st5).1 _ _ (by omega)]; exact c4_0_0
  have c5_1_0 : w5.cell? ⟨w3.heap.size, 0, none⟩ = some ((.slice RWva m0 RWvc)) := by rw [(bcell st5).1 _ _ (by omega)]; exact c4_1_0
  have c5_2_0 : w5.cell? ⟨w4.heap.size, 0, none⟩ = some ((.slice xx0a n0 xx0c)) := by rw [(bcell hb5).1 _ _ (by simp)]; simp
  have B5 : Hid (Below w.heap.size w w5) := B4.out.trans (st5.mono (by omega))
  have R5_RW : Hid (Row 3 w5 (w2.heap.size) (w3.heap.size) (.slice RWva m0 RWvc) m0 ZR0) := R4_RW.out.below st5 (by omega)
  have R5_x0 : Hid (Row 3 w5 (w3.heap.size + 1) (w4.heap.size) (.slice xx0a n0 xx0c) n0 (zs Z0 n0 3)) := R4_x0.out.below st5 (by omega)
  have R5_RG : Hid (Row 3 w5 (w4.heap.size + 1) (w5.heap.size) RGv m0 ZR0) := hr.wide (by simp) (Nat.le_refl _)
  have d5_0 : w.heap.size < w5.heap.size := by omega
  have e5_0 : w.heap.size ≠ w5.heap.size := by omega
  have d5_1 : w3.heap.size < w5.heap.size := by omega
  have e5_1 : w3.heap.size ≠ w5.heap.size := by omega
  have d5_2 : w4.heap.size < w5.heap.size := by omega
  have e5_2 : w4.heap.size ≠ w5.heap.size := by omega
  clear d4_0 e4_0 d4_1 e4_1 c4_0_0 c4_1_0 R4_RW R4_x0 B4 st5 hb5
  obtain ⟨RGva, RGvc, rfl⟩ := R5_RG.out.slice
  go_wp2_with fail
  go_at_call 43
  refine (eqTop_same  ZR0 m0 _ _ _ _ _ _ _ (R5_RG.out.below (B := w5.heap.size) (by go_grown) (by omega)) (R5_RW.out.below (B := w5.heap.size) (by go_grown) (by omega)) (by first | omega | (simp; omega) | simp) (by first | omega | (simp; omega) | simp)).mono ?_
  rintro e w6 ⟨rfl, hb6⟩
  have sz6 : w5.heap.size + 1 ≤ w6.heap.size := by have hh := hb6.size; simp at hh; omega
  have st6 : Below w5.heap.size w5 w6 := Below.trans (by go_grown) (hb6.mono (by simp))
  have c6_0_0 : w6.cell? ⟨w.heap.size, 0, none⟩ = some (.slice ad0 n0 cp0) := by rw [(bcell st6).1 _ _ (by omega)]; exact c5_0_0
  have c6_1_0 : w6.cell? ⟨w3.heap.size, 0, none⟩ = some ((.slice RWva m0 RWvc)) := by rw [(bcell st6).1 _ _ (by omega)]; exact c5_1_0
  have c6_2_0 : w6.cell? ⟨w4.heap.size, 0, none⟩ = some ((.slice xx0a n0 xx0c)) := by rw [(bcell st6).1 _ _ (by omega)]; exact c5_2_0
  have c6_3_0 : w6.cell? ⟨w5.heap.size, 0, none⟩ = some ((.slice RGva m0 RGvc)) := by rw [(bcell hb6).1 _ _ (by simp)]; simp
  have B6 : Hid (Below w.heap.size w w6) := B5.out.trans (st6.mono (by omega))
  have R6_RW : Hid (Row 3 w6 (w2.heap.size) (w3.heap.size) (.slice RWva m0 RWvc) m0 ZR0) := R5_RW.out.below st6 (by omega)
  have R6_x0 : Hid (Row 3 w6 (w3.heap.size + 1) (w4.heap.size) (.slice xx0a n0 xx0c) n0 (zs Z0 n0 3)) := R5_x0.out.below st6 (by omega)
  have R6_RG : Hid (Row 3 w6 (w4.heap.size + 1) (w5.heap.size) (.slice RGva m0 RGvc) m0 ZR0) := R5_RG.out.below st6 (by omega)
  have d6_0 : w.heap.size < w6.heap.size := by omega
  have e6_0 : w.heap.size ≠ w6.heap.size := by omega
  have d6_1 : w3.heap.size < w6.heap.size := by omega
  have e6_1 : w3.heap.size ≠ w6.heap.size := by omega
  have d6_2 : w4.heap.size < w6.heap.size := by omega
  have e6_2 : w4.heap.size ≠ w6.heap.size := by omega
  have d6_3 : w5.heap.size < w6.heap.size := by omega
  have e6_3 : w5.heap.size ≠ w6.heap.size := by omega
  clear d5_0 e5_0 d5_1 e5_1 d5_2 e5_2 c5_0_0 c5_1_0 c5_2_0 R5_RW R5_x0 R5_RG B5 st6 hb6
  go_wp2_with fail
  go_region_held3 (fun w' => w'.cell? ⟨w.heap.size, 0, none⟩ = some (.slice ad0 n0 cp0) ∧ w'.cell? ⟨w3.heap.size, 0, none⟩ = some ((.slice RWva m0 RWvc)) ∧ w'.cell? ⟨w4.heap.size, 0, none⟩ = some ((.slice xx0a n0 xx0c)) ∧ w'.cell? ⟨w5.heap.size, 0, none⟩ = some ((.slice RGva m0 RGvc)) ∧ w6.heap.size ≤ w'.heap.size ∧ Below w6.heap.size w6 w') (first | assumption | exact rr4_start c6_0_0 c6_1_0 c6_2_0 c6_3_0 | exact rr4_drew (by assumption) | exact rr4_keep (by omega) (by omega) (by omega) (by omega) (by assumption) (by assumption))
    (first | (go_at_call 41; refine (toTop_any _ n0 Z0 _ (HA0.out.below (B6.out.trans ((rr4_out (by assumption)).2.mono (by omega)))) (by omega)).mono ?_; rintro e w7 ⟨y0, rfl, ry0, hb⟩; have hz7 := hb.size) | (go_at_call 43; refine (eqTop_same (zs Z0 n0 3) n0 _ _ _ _ _ _ _ (R6_x0.out.below (rr4_out (by assumption)).2 (by omega)) ry0 (by have hq := rr4_out (by assumption); omega) (Nat.le_refl _)).mono ?_; rintro e w8 ⟨rfl, hb⟩))
  have hb8 : Below w6.heap.size w6 w8 := (rr4_out (by assumption)).2
  have sz8 : w6.heap.size ≤ w8.heap.size := hb8.size
  have st8 : Below w6.heap.size w6 w8 := hb8
  have c8_0_0 : w8.cell? ⟨w.heap.size, 0, none⟩ = some (.slice ad0 n0 cp0) := by rw [(bcell st8).1 _ _ (by omega)]; exact c6_0_0
  have c8_1_0 : w8.cell? ⟨w3.heap.size, 0, none⟩ = some ((.slice RWva m0 RWvc)) := by rw [(bcell st8).1 _ _ (by omega)]; exact c6_1_0
  have c8_2_0 : w8.cell? ⟨w4.heap.size, 0, none⟩ = some ((.slice xx0a n0 xx0c)) := by rw [(bcell st8).1 _ _ (by omega)]; exact c6_2_0
  have c8_3_0 : w8.cell? ⟨w5.heap.size, 0, none⟩ = some ((.slice RGva m0 RGvc)) := by rw [(bcell st8).1 _ _ (by omega)]; exact c6_3_0
  have B8 : Hid (Below w.heap.size w w8) := B6.out.trans (st8.mono (by omega))
  have R8_RW : Hid (Row 3 w8 (w2.heap.size) (w3.heap.size) (.slice RWva m0 RWvc) m0 ZR0) := R6_RW.out.below st8 (by omega)
  have R8_x0 : Hid (Row 3 w8 (w3.heap.size + 1) (w4.heap.size) (.slice xx0a n0 xx0c) n0 (zs Z0 n0 3)) := R6_x0.out.below st8 (by omega)
  have R8_RG : Hid (Row 3 w8 (w4.heap.size + 1) (w5.heap.size) (.slice RGva m0 RGvc) m0 ZR0) := R6_RG.out.below st8 (by omega)
  have d8_0 : w.heap.size < w8.heap.size := by omega
  have e8_0 : w.heap.size ≠ w8.heap.size := by omega
  have d8_1 : w3.heap.size < w8.heap.size := by omega
  have e8_1 : w3.heap.size ≠ w8.heap.size := by omega
  have d8_2 : w4.heap.size < w8.heap.size := by omega
  have e8_2 : w4.heap.size ≠ w8.heap.size := by omega
  have d8_3 : w5.heap.size < w8.heap.size := by omega
  have e8_3 : w5.heap.size ≠ w8.heap.size := by omega
  clear d6_0 e6_0 d6_1 e6_1 d6_2 e6_2 d6_3 e6_3 c6_0_0 c6_1_0 c6_2_0 c6_3_0 R6_RW R6_x0 R6_RG B6 st8 hb8
  go_wp2_with fail
  go_at_call 46
  refine (markTop_K KX0 (zs Z0 n0 3) n0 _ _ _ _ HKX0.out R8_x0.out (by omega) (by omega)).mono ?_
  rintro e w9 ⟨rfl, hr, hb9⟩
  have sz9 : w8.heap.size ≤ w9.heap.size := hb9.size
  have c9_0_0 : w9.cell? ⟨w.heap.size, 0, none⟩ = some (.slice ad0 n0 cp0) := by rw [hb9.cell (by omega) (by omega)]; exact c8_0_0
  have c9_1_0 : w9.cell? ⟨w3.heap.size, 0, none⟩ = some ((.slice RWva m0 RWvc)) := by rw [hb9.cell (by omega) (by omega)]; exact c8_1_0
  have c9_2_0 : w9.cell? ⟨w4.heap.size, 0, none⟩ = some ((.slice xx0a n0 xx0c)) := by rw [hb9.cell (by omega) (by omega)]; exact c8_2_0
  have c9_3_0 : w9.cell? ⟨w5.heap.size, 0, none⟩ = some ((.slice RGva m0 RGvc)) := by rw [hb9.cell (by omega) (by omega)]; exact c8_3_0
  have B9 : Hid (Below w.heap.size w w9) := B8.out.trans (hb9.below (by omega) (by omega))
  have R9_RW : Hid (Row 3 w9 (w2.heap.size) (w3.heap.size) (.slice RWva m0 RWvc) m0 ZR0) := hb9.row R8_RW.out (by omega) (by omega)
  have R9_RG : Hid (Row 3 w9 (w4.heap.size + 1) (w5.heap.size) (.slice RGva m0 RGvc) m0 ZR0) := hb9.row R8_RG.out (by omega) (by omega)
  have R9_x0 : Hid (Row 3 w9 (w3.heap.size + 1) (w4.heap.size) (.slice xx0a n0 xx0c) n0 (marks 1 (n0 * 3))) := hr
  have d9_0 : w.heap.size < w9.heap.size := by omega
  have e9_0 : w.heap.size ≠ w9.heap.size := by omega
  have d9_1 : w3.heap.size < w9.heap.size := by omega
  have e9_1 : w3.heap.size ≠ w9.heap.size := by omega
  have d9_2 : w4.heap.size < w9.heap.size := by omega
  have e9_2 : w4.heap.size ≠ w9.heap.size := by omega
  have d9_3 : w5.heap.size < w9.heap.size := by omega
  have e9_3 : w5.heap.size ≠ w9.heap.size := by omega
  clear d8_0 e8_0 d8_1 e8_1 d8_2 e8_2 d8_3 e8_3 c8_0_0 c8_1_0 c8_2_0 c8_3_0 R8_RW R8_x0 R8_RG B8 hr hb9
  go_wp2_with fail
  go_at_call 43
  refine (eqTop_same  ZR0 m0 _ _ _ _ _ _ _ R9_RG.out R9_RW.out (by first | omega | (simp; omega) | simp) (by first | omega | (simp; omega) | simp)).mono ?_
  rintro e w10 ⟨rfl, hb10⟩
  have sz10 : w9.heap.size ≤ w10.heap.size := hb10.size
  have st10 : Below w9.heap.size w9 w10 := hb10
  have c10_0_0 : w10.cell? ⟨w.heap.size, 0, none⟩ = some (.slice ad0 n0 cp0) := by rw [(bcell st10).1 _ _ (by omega)]; exact c9_0_0
  have c10_1_0 : w10.cell? ⟨w3.heap.size, 0, none⟩ = some ((.slice RWva m0 RWvc)) := by rw [(bcell st10).1 _ _ (by omega)]; exact c9_1_0
  have c10_2_0 : w10.cell? ⟨w4.heap.size, 0, none⟩ = some ((.slice xx0a n0 xx0c)) := by rw [(bcell st10).1 _ _ (by omega)]; exact c9_2_0
  have c10_3_0 : w10.cell? ⟨w5.heap.size, 0, none⟩ = some ((.slice RGva m0 RGvc)) := by rw [(bcell st10).1 _ _ (by omega)]; exact c9_3_0
  have B10 : Hid (Below w.heap.size w w10) := B9.out.trans (st10.mono (by omega))
  have R10_RW : Hid (Row 3 w10 (w2.heap.size) (w3.heap.size) (.slice RWva m0 RWvc) m0 ZR0) := R9_RW.out.below st10 (by omega)
  have R10_RG : Hid (Row 3 w10 (w4.heap.size + 1) (w5.heap.size) (.slice RGva m0 RGvc) m0 ZR0) := R9_RG.out.below st10 (by omega)
  have R10_x0 : Hid (Row 3 w10 (w3.heap.size + 1) (w4.heap.size) (.slice xx0a n0 xx0c) n0 (marks 1 (n0 * 3))) := R9_x0.out.below st10 (by omega)
  have d10_0 : w.heap.size < w10.heap.size := by omega
  have e10_0 : w.heap.size ≠ w10.heap.size := by omega
  have d10_1 : w3.heap.size < w10.heap.size := by omega
  have e10_1 : w3.heap.size ≠ w10.heap.size := by omega
  have d10_2 : w4.heap.size < w10.heap.size := by omega
  have e10_2 : w4.heap.size ≠ w10.heap.size := by omega
  have d10_3 : w5.heap.size < w10.heap.size := by omega
  have e10_3 : w5.heap.size ≠ w10.heap.size := by omega
  clear d9_0 e9_0 d9_1 e9_1 d9_2 e9_2 d9_3 e9_3 c9_0_0 c9_1_0 c9_2_0 c9_3_0 R9_RW R9_RG R9_x0 B9 st10 hb10
  go_wp2_with fail
  go_at_call 46
  refine (markTop_K KG ZR0 m0 _ _ _ _ HKG.out R10_RG.out (by omega) (by omega)).mono ?_
  rintro e w11 ⟨rfl, hr, hb11⟩
  have sz11 : w10.heap.size ≤ w11.heap.size := hb11.size
  have c11_0_0 : w11.cell? ⟨w.heap.size, 0, none⟩ = some (.slice ad0 n0 cp0) := by rw [hb11.cell (by omega) (by omega)]; exact c10_0_0
  have c11_1_0 : w11.cell? ⟨w3.heap.size, 0, none⟩ = some ((.slice RWva m0 RWvc)) := by rw [hb11.cell (by omega) (by omega)]; exact c10_1_0
  have c11_2_0 : w11.cell? ⟨w4.heap.size, 0, none⟩ = some ((.slice xx0a n0 xx0c)) := by rw [hb11.cell (by omega) (by omega)]; exact c10_2_0
  have c11_3_0 : w11.cell? ⟨w5.heap.size, 0, none⟩ = some ((.slice RGva m0 RGvc)) := by rw [hb11.cell (by omega) (by omega)]; exact c10_3_0
  have B11 : Hid (Below w.heap.size w w11) := B10.out.trans (hb11.below (by omega) (by omega))
  have R11_RW : Hid (Row 3 w11 (w2.heap.size) (w3.heap.size) (.slice RWva m0 RWvc) m0 ZR0) := hb11.row R10_RW.out (by omega) (by omega)
  have R11_x0 : Hid (Row 3 w11 (w3.heap.size + 1) (w4.heap.size) (.slice xx0a n0 xx0c) n0 (marks 1 (n0 * 3))) := hb11.row R10_x0.out (by omega) (by omega)
  have R11_RG : Hid (Row 3 w11 (w4.heap.size + 1) (w5.heap.size) (.slice RGva m0 RGvc) m0 (marks 1 (m0 * 3))) := hr
  have d11_0 : w.heap.size < w11.heap.size := by omega
  have e11_0 : w.heap.size ≠ w11.heap.size := by omega
  have d11_1 : w3.heap.size < w11.heap.size := by omega
  have e11_1 : w3.heap.size ≠ w11.heap.size := by omega
  have d11_2 : w4.heap.size < w11.heap.size := by omega
  have e11_2 : w4.heap.size ≠ w11.heap.size := by omega
  have d11_3 : w5.heap.size < w11.heap.size := by omega
  have e11_3 : w5.heap.size ≠ w11.heap.size := by omega
  clear d10_0 e10_0 d10_1 e10_1 d10_2 e10_2 d10_3 e10_3 c10_0_0 c10_1_0 c10_2_0 c10_3_0 R10_RW R10_RG R10_x0 B10 hr hb11
  go_wp2_with fail
  go_at_call 47
  refine (heldTop_K KG m0 _ _ _ _ HKG.out R11_RG.out (by omega) (by omega)).mono ?_
  rintro e w12 ⟨rfl, hb12⟩
  have sz12 : w11.heap.size ≤ w12.heap.size := hb12.size
  have st12 : Below w11.heap.size w11 w12 := hb12
  have c12_0_0 : w12.cell? ⟨w.heap.size, 0, none⟩ = some (.slice ad0 n0 cp0) := by rw [(bcell st12).1 _ _ (by omega)]; exact c11_0_0
  have c12_1_0 : w12.cell? ⟨w3.heap.size, 0, none⟩ = some ((.slice RWva m0 RWvc)) := by rw [(bcell st12).1 _ _ (by omega)]; exact c11_1_0
  have c12_2_0 : w12.cell? ⟨w4.heap.size, 0, none⟩ = some ((.slice xx0a n0 xx0c)) := by rw [(bcell st12).1 _ _ (by omega)]; exact c11_2_0
  have c12_3_0 : w12.cell? ⟨w5.heap.size, 0, none⟩ = some ((.slice RGva m0 RGvc)) := by rw [(bcell st12).1 _ _ (by omega)]; exact c11_3_0
  have B12 : Hid (Below w.heap.size w w12) := B11.out.trans (st12.mono (by omega))
  have R12_RW : Hid (Row 3 w12 (w2.heap.size) (w3.heap.size) (.slice RWva m0 RWvc) m0 ZR0) := R11_RW.out.below st12 (by omega)
  have R12_x0 : Hid (Row 3 w12 (w3.heap.size + 1) (w4.heap.size) (.slice xx0a n0 xx0c) n0 (marks 1 (n0 * 3))) := R11_x0.out.below st12 (by omega)
  have R12_RG : Hid (Row 3 w12 (w4.heap.size + 1) (w5.heap.size) (.slice RGva m0 RGvc) m0 (marks 1 (m0 * 3))) := R11_RG.out.below st12 (by omega)
  have d12_0 : w.heap.size < w12.heap.size := by omega
  have e12_0 : w.heap.size ≠ w12.heap.size := by omega
  have d12_1 : w3.heap.size < w12.heap.size := by omega
  have e12_1 : w3.heap.size ≠ w12.heap.size := by omega
  have d12_2 : w4.heap.size < w12.heap.size := by omega
  have e12_2 : w4.heap.size ≠ w12.heap.size := by omega
  have d12_3 : w5.heap.size < w12.heap.size := by omega
  have e12_3 : w5.heap.size ≠ w12.heap.size := by omega
  clear d11_0 e11_0 d11_1 e11_1 d11_2 e11_2 d11_3 e11_3 c11_0_0 c11_1_0 c11_2_0 c11_3_0 R11_RW R11_x0 R11_RG B11 st12 hb12
  go_wp2_with fail
  go_at_call 41
  refine (toTop_any _ n0 Z0 _ (HA0.out.below B12.out) (by omega)).mono ?_
  rintro e w13 ⟨xh0, rfl, hr, hb13⟩
  have sz13 : w12.heap.size ≤ w13.heap.size := hb13.size
  have st13 : Below w12.heap.size w12 w13 := hb13
  have c13_0_0 : w13.cell? ⟨w.heap.size, 0, none⟩ = some (.slice ad0 n0 cp0) := by rw [(bcell st13).1 _ _ (by omega)]; exact c12_0_0
  have c13_1_0 : w13.cell? ⟨w3.heap.size, 0, none⟩ = some ((.slice RWva m0 RWvc)) := by rw [(bcell st13).1 _ _ (by omega)]; exact c12_1_0
  have c13_2_0 : w13.cell? ⟨w4.heap.size, 0, none⟩ = some ((.slice xx0a n0 xx0c)) := by rw [(bcell st13).1 _ _ (by omega)]; exact c12_2_0
  have c13_3_0 : w13.cell? ⟨w5.heap.size, 0, none⟩ = some ((.slice RGva m0 RGvc)) := by rw [(bcell st13).1 _ _ (by omega)]; exact c12_3_0
  have B13 : Hid (Below w.heap.size w w13) := B12.out.trans (st13.mono (by omega))
  have R13_RW : Hid (Row 3 w13 (w2.heap.size) (w3.heap.size) (.slice RWva m0 RWvc) m0 ZR0) := R12_RW.out.below st13 (by omega)
  have R13_x0 : Hid (Row 3 w13 (w3.heap.size + 1) (w4.heap.size) (.slice xx0a n0 xx0c) n0 (marks 1 (n0 * 3))) := R12_x0.out.below st13 (by omega)
  have R13_RG : Hid (Row 3 w13 (w4.heap.size + 1) (w5.heap.size) (.slice RGva m0 RGvc) m0 (marks 1 (m0 * 3))) := R12_RG.out.below st13 (by omega)
  have R13_h0 : Hid (Row 3 w13 (w12.heap.size) (w13.heap.size) xh0 n0 (zs Z0 n0 3)) := hr
  have d13_0 : w.heap.size < w13.heap.size := by omega
  have e13_0 : w.heap.size ≠ w13.heap.size := by omega
  have d13_1 : w3.heap.size < w13.heap.size := by omega
  have e13_1 : w3.heap.size ≠ w13.heap.size := by omega
  have d13_2 : w4.heap.size < w13.heap.size := by omega
  have e13_2 : w4.heap.size ≠ w13.heap.size := by omega
  have d13_3 : w5.heap.size < w13.heap.size := by omega
  have e13_3 : w5.heap.size ≠ w13.heap.size := by omega
  clear d12_0 e12_0 d12_1 e12_1 d12_2 e12_2 d12_3 e12_3 c12_0_0 c12_1_0 c12_2_0 c12_3_0 R12_RW R12_x0 R12_RG B12 st13 hr hb13
  go_wp2_with fail
  go_at_call 45
  refine (Hi.out _ _ xh0 _ R13_h0.out (by first | omega | (simp; omega) | simp)).mono ?_
  rintro e w14 ⟨RHv, rfl, hr, hb14⟩
  have sz14 : w13.heap.size ≤ w14.heap.size := hb14.size
  have st14 : Below w13.heap.size w13 w14 := hb14
  have c14_0_0 : w14.cell? ⟨w.heap.size, 0, none⟩ = some (.slice ad0 n0 cp0) := by rw [(bcell st14).1 _ _ (by omega)]; exact c13_0_0
  have c14_1_0 : w14.cell? ⟨w3.heap.size, 0, none⟩ = some ((.slice RWva m0 RWvc)) := by rw [(bcell st14).1 _ _ (by omega)]; exact c13_1_0
  have c14_2_0 : w14.cell? ⟨w4.heap.size, 0, none⟩ = some ((.slice xx0a n0 xx0c)) := by rw [(bcell st14).1 _ _ (by omega)]; exact c13_2_0
  have c14_3_0 : w14.cell? ⟨w5.heap.size, 0, none⟩ = some ((.slice RGva m0 RGvc)) := by rw [(bcell st14).1 _ _ (by omega)]; exact c13_3_0
  have B14 : Hid (Below w.heap.size w w14) := B13.out.trans (st14.mono (by omega))
  have R14_RW : Hid (Row 3 w14 (w2.heap.size) (w3.heap.size) (.slice RWva m0 RWvc) m0 ZR0) := R13_RW.out.below st14 (by omega)
  have R14_x0 : Hid (Row 3 w14 (w3.heap.size + 1) (w4.heap.size) (.slice xx0a n0 xx0c) n0 (marks 1 (n0 * 3))) := R13_x0.out.below st14 (by omega)
  have R14_RG : Hid (Row 3 w14 (w4.heap.size + 1) (w5.heap.size) (.slice RGva m0 RGvc) m0 (marks 1 (m0 * 3))) := R13_RG.out.below st14 (by omega)
  have R14_h0 : Hid (Row 3 w14 (w12.heap.size) (w13.heap.size) xh0 n0 (zs Z0 n0 3)) := R13_h0.out.below st14 (by omega)
  have R14_RH : Hid (Row 3 w14 (w13.heap.size) (w14.heap.size) RHv m0 ZR0) := hr
  have d14_0 : w.heap.size < w14.heap.size := by omega
  have e14_0 : w.heap.size ≠ w14.heap.size := by omega
  have d14_1 : w3.heap.size < w14.heap.size := by omega
  have e14_1 : w3.heap.size ≠ w14.heap.size := by omega
  have d14_2 : w4.heap.size < w14.heap.size := by omega
  have e14_2 : w4.heap.size ≠ w14.heap.size := by omega
  have d14_3 : w5.heap.size < w14.heap.size := by omega
  have e14_3 : w5.heap.size ≠ w14.heap.size := by omega
  clear d13_0 e13_0 d13_1 e13_1 d13_2 e13_2 d13_3 e13_3 c13_0_0 c13_1_0 c13_2_0 c13_3_0 R13_RW R13_x0 R13_RG R13_h0 B13 st14 hr hb14
  obtain ⟨RHva, RHvc, rfl⟩ := R14_RH.out.slice
  go_wp2_with fail
  go_at_call 43
  refine (eqTop_same  ZR0 m0 _ _ _ _ _ _ _ (R14_RH.out.below (B := w14.heap.size) (by go_grown) (by omega)) (R14_RW.out.below (B := w14.heap.size) (by go_grown) (by omega)) (by first | omega | (simp; omega) | simp) (by first | omega | (simp; omega) | simp)).mono ?_
  rintro e w15 ⟨rfl, hb15⟩
  have sz15 : w14.heap.size + 1 ≤ w15.heap.size := by have hh := hb15.size; simp at hh; omega
  have st15 : Below w14.heap.size w14 w15 := Below.trans (by go_grown) (hb15.mono (by simp))
  have c15_0_0 : w15.cell? ⟨w.heap.size, 0, none⟩ = some (.slice ad0 n0 cp0) := by rw [(bcell st15).1 _ _ (by omega)]; exact c14_0_0
  have c15_1_0 : w15.cell? ⟨w3.heap.size, 0, none⟩ = some ((.slice RWva m0 RWvc)) := by rw [(bcell st15).1 _ _ (by omega)]; exact c14_1_0
  have c15_2_0 : w15.cell? ⟨w4.heap.size, 0, none⟩ = some ((.slice xx0a n0 xx0c)) := by rw [(bcell st15).1 _ _ (by omega)]; exact c14_2_0
  have c15_3_0 : w15.cell? ⟨w5.heap.size, 0, none⟩ = some ((.slice RGva m0 RGvc)) := by rw [(bcell st15).1 _ _ (by omega)]; exact c14_3_0
  have c15_4_0 : w15.cell? ⟨w14.heap.size, 0, none⟩ = some ((.slice RHva m0 RHvc)) := by rw [(bcell hb15).1 _ _ (by simp)]; simp
  have B15 : Hid (Below w.heap.size w w15) := B14.out.trans (st15.mono (by omega))
  have R15_RW : Hid (Row 3 w15 (w2.heap.size) (w3.heap.size) (.slice RWva m0 RWvc) m0 ZR0) := R14_RW.out.below st15 (by omega)
  have R15_x0 : Hid (Row 3 w15 (w3.heap.size + 1) (w4.heap.size) (.slice xx0a n0 xx0c) n0 (marks 1 (n0 * 3))) := R14_x0.out.below st15 (by omega)
  have R15_RG : Hid (Row 3 w15 (w4.heap.size + 1) (w5.heap.size) (.slice RGva m0 RGvc) m0 (marks 1 (m0 * 3))) := R14_RG.out.below st15 (by omega)
  have R15_RH : Hid (Row 3 w15 (w13.heap.size) (w14.heap.size) (.slice RHva m0 RHvc) m0 ZR0) := R14_RH.out.below st15 (by omega)
  have d15_0 : w.heap.size < w15.heap.size := by omega
  have e15_0 : w.heap.size ≠ w15.heap.size := by omega
  have d15_1 : w3.heap.size < w15.heap.size := by omega
  have e15_1 : w3.heap.size ≠ w15.heap.size := by omega
  have d15_2 : w4.heap.size < w15.heap.size := by omega
  have e15_2 : w4.heap.size ≠ w15.heap.size := by omega
  have d15_3 : w5.heap.size < w15.heap.size := by omega
  have e15_3 : w5.heap.size ≠ w15.heap.size := by omega
  have d15_4 : w14.heap.size < w15.heap.size := by omega
  have e15_4 : w14.heap.size ≠ w15.heap.size := by omega
  clear d14_0 e14_0 d14_1 e14_1 d14_2 e14_2 d14_3 e14_3 c14_0_0 c14_1_0 c14_2_0 c14_3_0 R14_RW R14_x0 R14_RG R14_RH B14 st15 hb15
  go_wp2_with fail
  go_at_call 47
  refine (heldTop_K KG m0 _ _ _ _ HKG.out R15_RG.out (by omega) (by omega)).mono ?_
  rintro e w16 ⟨rfl, hb16⟩
  have sz16 : w15.heap.size ≤ w16.heap.size := hb16.size
  have st16 : Below w15.heap.size w15 w16 := hb16
  have c16_0_0 : w16.cell? ⟨w.heap.size, 0, none⟩ = some (.slice ad0 n0 cp0) := by rw [(bcell st16).1 _ _ (by omega)]; exact c15_0_0
  have c16_1_0 : w16.cell? ⟨w3.heap.size, 0, none⟩ = some ((.slice RWva m0 RWvc)) := by rw [(bcell st16).1 _ _ (by omega)]; exact c15_1_0
  have c16_2_0 : w16.cell? ⟨w4.heap.size, 0, none⟩ = some ((.slice xx0a n0 xx0c)) := by rw [(bcell st16).1 _ _ (by omega)]; exact c15_2_0
  have c16_3_0 : w16.cell? ⟨w5.heap.size, 0, none⟩ = some ((.slice RGva m0 RGvc)) := by rw [(bcell st16).1 _ _ (by omega)]; exact c15_3_0
  have c16_4_0 : w16.cell? ⟨w14.heap.size, 0, none⟩ = some ((.slice RHva m0 RHvc)) := by rw [(bcell st16).1 _ _ (by omega)]; exact c15_4_0
  have B16 : Hid (Below w.heap.size w w16) := B15.out.trans (st16.mono (by omega))
  have R16_RW : Hid (Row 3 w16 (w2.heap.size) (w3.heap.size) (.slice RWva m0 RWvc) m0 ZR0) := R15_RW.out.below st16 (by omega)
  have R16_x0 : Hid (Row 3 w16 (w3.heap.size + 1) (w4.heap.size) (.slice xx0a n0 xx0c) n0 (marks 1 (n0 * 3))) := R15_x0.out.below st16 (by omega)
  have R16_RG : Hid (Row 3 w16 (w4.heap.size + 1) (w5.heap.size) (.slice RGva m0 RGvc) m0 (marks 1 (m0 * 3))) := R15_RG.out.below st16 (by omega)
  have R16_RH : Hid (Row 3 w16 (w13.heap.size) (w14.heap.size) (.slice RHva m0 RHvc) m0 ZR0) := R15_RH.out.below st16 (by omega)
  have d16_0 : w.heap.size < w16.heap.size := by omega
  have e16_0 : w.heap.size ≠ w16.heap.size := by omega
  have d16_1 : w3.heap.size < w16.heap.size := by omega
  have e16_1 : w3.heap.size ≠ w16.heap.size := by omega
  have d16_2 : w4.heap.size < w16.heap.size := by omega
  have e16_2 : w4.heap.size ≠ w16.heap.size := by omega
  have d16_3 : w5.heap.size < w16.heap.size := by omega
  have e16_3 : w5.heap.size ≠ w16.heap.size := by omega
  have d16_4 : w14.heap.size < w16.heap.size := by omega
  have e16_4 : w14.heap.size ≠ w16.heap.size := by omega
  clear d15_0 e15_0 d15_1 e15_1 d15_2 e15_2 d15_3 e15_3 d15_4 e15_4 c15_0_0 c15_1_0 c15_2_0 c15_3_0 c15_4_0 R15_RW R15_x0 R15_RG R15_RH B15 st16 hb16
  go_wp2_with fail
  go_ret
  exact ⟨rfl, B16.out⟩

set_option maxHeartbeats 2000000 in
theorem lawExactAddTop_big0 (s0 : Value) (n0 : Nat) (Z0 : Nat → Int) (a1 : Int) (a2 : Int) (w : World) (hA0 : Arg 3 w s0 n0 Z0) (hn : 1048576 < n0) :
    Calls Try.prog 12 #[.agg #[s0], .int .i64 a1, .int .i64 a2] w fun e w' => e = .returned (.bool true) ∧ Below w.heap.size w w' := by
  have hx0 := hA0.2.1
  obtain ⟨ad0, cp0, rfl⟩ := hA0.slice
  clear hA0
  have H0 := fun w => szTop_any ad0 n0 cp0 (1048576) w hx0 (by omega) (by omega)
  have hneg0 : ((1048576 : Int) - (n0 : Int) < 0) := by omega
  simp only [if_pos hneg0] at H0
  clear hneg0
  go_enter Try.func12, Try.ntmps12
  go_wp2_with fail
  go_at_call 40
  refine (H0 _).mono ?_
  rintro e w1 ⟨rfl, hb1⟩
  have sz1 : w.heap.size + 1 ≤ w1.heap.size := by have hh := hb1.size; simp at hh; omega
  have st1 : Below w.heap.size w w1 := Below.trans (by go_grown) (hb1.mono (by simp))
  have c1_0_0 : w1.cell? ⟨w.heap.size, 0, none⟩ = some (.slice ad0 n0 cp0) := by rw [(bcell hb1).1 _ _ (by simp)]; simp
  have B1 : Hid (Below w.heap.size w w1) := st1
  have d1_0 : w.heap.size < w1.heap.size := by omega
  have e1_0 : w.heap.size ≠ w1.heap.size := by omega
  clear st1 hb1
  go_wp2_with fail
  go_ret
  exact ⟨rfl, B1.out⟩

end Go.Proofs.Ytophppnllkadoaa
