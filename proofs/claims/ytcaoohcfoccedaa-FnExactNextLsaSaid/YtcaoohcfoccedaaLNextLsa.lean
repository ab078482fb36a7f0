/- The law of NextLsa over contracts. -/
import Derived.Test.YtcaoohcfoccedaaL0
namespace Go.Proofs.Ytcaoohcfoccedaa
open Go.RowKit


theorem markLinkS_K2 (K k : Int) (Z : List Int) (n lo hi : Nat) (v : Value) (w : World) (hK : K = k + ((n * 2 : Nat) : Int)) (hr : Row 2 w lo hi v n Z) (hl : n ≤ 1100000) (h0 : 0 ≤ k) (h1 : k ≤ 1000000000) :
    Calls Try.prog 41 #[v, .int .i64 k] w fun e w' => e = .returned (.int .i64 K) ∧ Row 2 w' lo hi v n (marks k (n * 2)) ∧ Tur lo hi w w' := by
  subst hK
  exact (markLinkS Z n lo hi v k w hr hl h0 h1).mono fun _ _ ⟨h1, h2, h3⟩ => ⟨h1, h2, .of h3⟩

theorem markStubS_K2 (K k : Int) (Z : List Int) (n lo hi : Nat) (v : Value) (w : World) (hK : K = k + ((n * 3 : Nat) : Int)) (hr : Row 3 w lo hi v n Z) (hl : n ≤ 1100000) (h0 : 0 ≤ k) (h1 : k ≤ 1000000000) :
    Calls Try.prog 42 #[v, .int .i64 k] w fun e w' => e = .returned (.int .i64 K) ∧ Row 3 w' lo hi v n (marks k (n * 3)) ∧ Tur lo hi w w' := by
  subst hK
  exact (markStubS Z n lo hi v k w hr hl h0 h1).mono fun _ _ ⟨h1, h2, h3⟩ => ⟨h1, h2, .of h3⟩

set_option maxRecDepth 100000 in
set_option maxHeartbeats 8000000 in
theorem lawExactNextLsa_fit (o0 s0 g0 : Int) (u0 v0 : Value) (n0 m0 : Nat) (Y0 Z0 : Nat → Int) (v1 : Value) (n1 : Nat) (Z1 : Nat → Int) (v2 : Value) (n2 : Nat) (Z2 : Nat → Int) (w : World) (hA0 : LArg w u0 v0 n0 m0 Y0 Z0) (hA1 : Arg 2 w v1 n1 Z1) (hA2 : Arg 3 w v2 n2 Z2) (hn : n0 + m0 + n1 + n2 ≤ 1048576) (ro rs rg : Int) (nr mr : Nat) (YR ZR : List Int) (b1 : Bool) (hnr : nr ≤ 1100000) (hmr : mr ≤ 1100000)
    (hs : ∀ (lo0 hi0 : Nat) (u0 v0 : Value) (lo1 hi1 : Nat) (v1 : Value) (lo2 hi2 : Nat) (v2 : Value) (w : World), LRow w lo0 hi0 u0 v0 n0 m0 (zs Y0 n0 2) (zs Z0 m0 3) → hi0 ≤ w.heap.size → Row 2 w lo1 hi1 v1 n1 (zs Z1 n1 2) → hi1 ≤ w.heap.size → Row 3 w lo2 hi2 v2 n2 (zs Z2 n2 3) → hi2 ≤ w.heap.size → hi1 ≤ lo2 → Calls Try.prog 35 #[.agg #[.int .i64 o0, .int .i64 s0, .int .i64 g0, u0, v0], v1, v2] w fun e w' => ∃ ru rv, e = .returned (.tuple #[.agg #[.int .i64 ro, .int .i64 rs, .int .i64 rg, ru, rv], .bool b1]) ∧ LRow w' w.heap.size w'.heap.size ru rv nr mr YR ZR ∧ Below w.heap.size w w')
    (hi : ∀ (lo0 hi0 : Nat) (u0 v0 : Value) (lo1 hi1 : Nat) (v1 : Value) (lo2 hi2 : Nat) (v2 : Value) (w : World), LRow w lo0 hi0 u0 v0 n0 m0 (zs Y0 n0 2) (zs Z0 m0 3) → hi0 ≤ w.heap.size → Row 2 w lo1 hi1 v1 n1 (zs Z1 n1 2) → hi1 ≤ w.heap.size → Row 3 w lo2 hi2 v2 n2 (zs Z2 n2 3) → hi2 ≤ w.heap.size → hi1 ≤ lo2 → Calls Try.prog 38 #[.agg #[.int .i64 o0, .int .i64 s0, .int .i64 g0, u0, v0], v1, v2] w fun e w' => ∃ ru rv, e = .returned (.tuple #[.agg #[.int .i64 ro, .int .i64 rs, .int .i64 rg, ru, rv], .bool b1]) ∧ LRow w' w.heap.size w'.heap.size ru rv nr mr YR ZR ∧ Below w.heap.size w w') :
    Calls Try.prog 10 #[.agg #[.int .i64 o0, .int .i64 s0, .int .i64 g0, u0, v0], v1, v2] w fun e w' => e = .returned (.bool true) ∧ Below w.heap.size w w' := by
  have hx0 := hA0.1.2.1
  have hy0 := hA0.2.2.1
  have HA0 := Lib.hid hA0
  obtain ⟨ad0, cp0, rfl⟩ := hA0.1.slice
  obtain ⟨ae0, cq0, rfl⟩ := hA0.2.slice
  clear hA0
  have hx1 := hA1.2.1
  have HA1 := Lib.hid hA1
  obtain ⟨ad1, cp1, rfl⟩ := hA1.slice
  clear hA1
  have hx2 := hA2.2.1
  have HA2 := Lib.hid hA2
  obtain ⟨ad2, cp2, rfl⟩ := hA2.slice
  clear hA2
  have Hs := Lib.hid hs
  have Hi := Lib.hid hi
  clear hs hi
  obtain ⟨KG, hKG⟩ : ∃ K : Int, K = 1 + ((nr * 2 + mr * 3 : Nat) : Int) := ⟨_, rfl⟩
  have hKG0 : 0 ≤ KG := by omega
  have hKG1 : ¬ (KG < 0) := by omega
  have hKG2 : KG ≤ 10000000 := by omega
  have HKG := Lib.hid hKG
  clear hKG
  obtain ⟨KX0, hKX0⟩ : ∃ K : Int, K = 1 + ((n0 * 2 + m0 * 3 : Nat) : Int) := ⟨_, rfl⟩
  have hKX00 : 0 ≤ KX0 := by omega
  have hKX01 : ¬ (KX0 < 0) := by omega
  have hKX02 : KX0 ≤ 20000000 := by omega
  have HKX0 := Lib.hid hKX0
  clear hKX0
  obtain ⟨KX1, hKX1⟩ : ∃ K : Int, K = KX0 + ((n1 * 2 : Nat) : Int) := ⟨_, rfl⟩
  have hKX10 : 0 ≤ KX1 := by omega
  have hKX11 : ¬ (KX1 < 0) := by omega
  have hKX12 : KX1 ≤ 30000000 := by omega
  have HKX1 := Lib.hid hKX1
  clear hKX1
  obtain ⟨KX2, hKX2⟩ : ∃ K : Int, K = KX1 + ((n2 * 3 : Nat) : Int) := ⟨_, rfl⟩
  have hKX20 : 0 ≤ KX2 := by omega
  have hKX21 : ¬ (KX2 < 0) := by omega
  have hKX22 : KX2 ≤ 40000000 := by omega
  have HKX2 := Lib.hid hKX2
  clear hKX2
  have H0 := fun w => szLsa_any o0 s0 g0 ad0 ae0 n0 cp0 m0 cq0 (1048576) w hx0 hy0 (by omega) (by omega)
  have hneg0 : ¬ ((1048576 : Int) - (n0 : Int) - (m0 : Int) < 0) := by omega
  simp only [if_neg hneg0] at H0
  have hneg1 : ¬ ((1048576 - (n0 : Int) - (m0 : Int) : Int) - (n1 : Int) < 0) := by omega
  have hneg2 : ¬ ((1048576 - (n0 : Int) - (m0 : Int) - (n1 : Int) : Int) - (n2 : Int) < 0) := by omega
  go_enter Try.func10, Try.ntmps10
  go_wp2_with fail
  go_at_call 11
  refine (H0 _).mono ?_
  rintro e w1 ⟨rfl, hb1⟩
  have sz1 : w.heap.size + 1 ≤ w1.heap.size := by have hh := hb1.size; simp at hh; omega
  have st1 : Below w.heap.size w w1 := Below.trans (by go_grown) (hb1.mono (by simp))
  have c1_0_0 : w1.cell? ⟨w.heap.size, 0, none⟩ = some (.int .i64 o0) := by rw [(bcell hb1).1 _ _ (by simp), new_at (by simp)]; rfl
  have c1_0_1 : w1.cell? ⟨w.heap.size, 1, none⟩ = some (.int .i64 s0) := by rw [(bcell hb1).1 _ _ (by simp), new_at (by simp)]; rfl
  have c1_0_2 : w1.cell? ⟨w.heap.size, 2, none⟩ = some (.int .i64 g0) := by rw [(bcell hb1).1 _ _ (by simp), new_at (by simp)]; rfl
  have c1_0_3 : w1.cell? ⟨w.heap.size, 3, none⟩ = some (.slice ad0 n0 cp0) := by rw [(bcell hb1).1 _ _ (by simp), new_at (by simp)]; rfl
  have c1_0_4 : w1.cell? ⟨w.heap.size, 4, none⟩ = some (.slice ae0 m0 cq0) := by rw [(bcell hb1).1 _ _ (by simp), new_at (by simp)]; rfl
  have B1 : Hid (Below w.heap.size w w1) := st1
  have d1_0 : w.heap.size < w1.heap.size := by omega
  have e1_0 : w.heap.size ≠ w1.heap.size := by omega
  clear st1 hb1
  go_wp2_with fail
  go_at_call 33
  refine (szLinkS_fit ad1 n1 cp1 (1048576 - (n0 : Int) - (m0 : Int)) _ hx1 (by omega) (by omega)).mono ?_
  rintro e w' ⟨rfl, rfl⟩
  go_wp2_with fail
  go_at_call 34
  refine (szStubS_fit ad2 n2 cp2 (1048576 - (n0 : Int) - (m0 : Int) - (n1 : Int)) _ hx2 (by omega) (by omega)).mono ?_
  rintro e w' ⟨rfl, rfl⟩
  go_wp2_with fail
  go_at_call 13
  refine (toLsa_any o0 s0 g0 _ _ n0 m0 Y0 Z0 _ (HA0.out.below B1.out) (by omega) (by omega)).mono ?_
  rintro e w2 ⟨xs0, ys0, rfl, hr, hb2⟩
  have sz2 : w1.heap.size ≤ w2.heap.size := hb2.size
  have st2 : Below w1.heap.size w1 w2 := hb2
  have c2_0_0 : w2.cell? ⟨w.heap.size, 0, none⟩ = some (.int .i64 o0) := by rw [(bcell st2).1 _ _ (by omega)]; exact c1_0_0
  have c2_0_1 : w2.cell? ⟨w.heap.size, 1, none⟩ = some (.int .i64 s0) := by rw [(bcell st2).1 _ _ (by omega)]; exact c1_0_1
  have c2_0_2 : w2.cell? ⟨w.heap.size, 2, none⟩ = some (.int .i64 g0) := by rw [(bcell st2).1 _ _ (by omega)]; exact c1_0_2
  have c2_0_3 : w2.cell? ⟨w.heap.size, 3, none⟩ = some (.slice ad0 n0 cp0) := by rw [(bcell st2).1 _ _ (by omega)]; exact c1_0_3
  have c2_0_4 : w2.cell? ⟨w.heap.size, 4, none⟩ = some (.slice ae0 m0 cq0) := by rw [(bcell st2).1 _ _ (by omega)]; exact c1_0_4
  have B2 : Hid (Below w.heap.size w w2) := B1.out.trans (st2.mono (by omega))
  have R2_s0 : Hid (LRow w2 (w1.heap.size) (w2.heap.size) xs0 ys0 n0 m0 (zs Y0 n0 2) (zs Z0 m0 3)) := Lib.hid (hr)
  have d2_0 : w.heap.size < w2.heap.size := by omega
  have e2_0 : w.heap.size ≠ w2.heap.size := by omega
  clear d1_0 e1_0 c1_0_0 c1_0_1 c1_0_2 c1_0_3 c1_0_4 B1 st2 hr hb2
  go_wp2_with fail
  go_at_call 36
  refine (toLinkS_any _ n1 Z1 _ (HA1.out.below B2.out) (by omega)).mono ?_
  rintro e w3 ⟨xs1, rfl, hr, hb3⟩
  have sz3 : w2.heap.size ≤ w3.heap.size := hb3.size
  have st3 : Below w2.heap.size w2 w3 := hb3
  have c3_0_0 : w3.cell? ⟨w.heap.size, 0, none⟩ = some (.int .i64 o0) := by rw [(bcell st3).1 _ _ (by omega)]; exact c2_0_0
  have c3_0_1 : w3.cell? ⟨w.heap.size, 1, none⟩ = some (.int .i64 s0) := by rw [(bcell st3).1 _ _ (by omega)]; exact c2_0_1
  have c3_0_2 : w3.cell? ⟨w.heap.size, 2, none⟩ = some (.int .i64 g0) := by rw [(bcell st3).1 _ _ (by omega)]; exact c2_0_2
  have c3_0_3 : w3.cell? ⟨w.heap.size, 3, none⟩ = some (.slice ad0 n0 cp0) := by rw [(bcell st3).1 _ _ (by omega)]; exact c2_0_3
  have c3_0_4 : w3.cell? ⟨w.heap.size, 4, none⟩ = some (.slice ae0 m0 cq0) := by rw [(bcell st3).1 _ _ (by omega)]; exact c2_0_4
  have B3 : Hid (Below w.heap.size w w3) := B2.out.trans (st3.mono (by omega))
  have R3_s0 : Hid (LRow w3 (w1.heap.size) (w2.heap.size) xs0 ys0 n0 m0 (zs Y0 n0 2) (zs Z0 m0 3)) := Lib.hid (R2_s0.out.below st3 (by omega))
  have R3_s1 : Hid (Row 2 w3 (w2.heap.size) (w3.heap.size) xs1 n1 (zs Z1 n1 2)) := Lib.hid (hr)
  have d3_0 : w.heap.size < w3.heap.size := by omega
  have e3_0 : w.heap.size ≠ w3.heap.size := by omega
  clear d2_0 e2_0 c2_0_0 c2_0_1 c2_0_2 c2_0_3 c2_0_4 R2_s0 B2 st3 hr hb3
  go_wp2_with fail
  go_at_call 37
  refine (toStubS_any _ n2 Z2 _ (HA2.out.below B3.out) (by omega)).mono ?_
  rintro e w4 ⟨xs2, rfl, hr, hb4⟩
  have sz4 : w3.heap.size ≤ w4.heap.size := hb4.size
  have st4 : Below w3.heap.size w3 w4 := hb4
  have c4_0_0 : w4.cell? ⟨w.heap.size, 0, none⟩ = some (.int .i64 o0) := by rw [(bcell st4).1 _ _ (by omega)]; exact c3_0_0
  have c4_0_1 : w4.cell? ⟨w.heap.size, 1, none⟩ = some (.int .i64 s0) := by rw [(bcell st4).1 _ _ (by omega)]; exact c3_0_1
  have c4_0_2 : w4.cell? ⟨w.heap.size, 2, none⟩ = some (.int .i64 g0) := by rw [(bcell st4).1 _ _ (by omega)]; exact c3_0_2
  have c4_0_3 : w4.cell? ⟨w.heap.size, 3, none⟩ = some (.slice ad0 n0 cp0) := by rw [(bcell st4).1 _ _ (by omega)]; exact c3_0_3
  have c4_0_4 : w4.cell? ⟨w.heap.size, 4, none⟩ = some (.slice ae0 m0 cq0) := by rw [(bcell st4).1 _ _ (by omega)]; exact c3_0_4
  have B4 : Hid (Below w.heap.size w w4) := B3.out.trans (st4.mono (by omega))
  have R4_s0 : Hid (LRow w4 (w1.heap.size) (w2.heap.size) xs0 ys0 n0 m0 (zs Y0 n0 2) (zs Z0 m0 3)) := Lib.hid (R3_s0.out.below st4 (by omega))
  have R4_s1 : Hid (Row 2 w4 (w2.heap.size) (w3.heap.size) xs1 n1 (zs Z1 n1 2)) := Lib.hid (R3_s1.out.below st4 (by omega))
  have R4_s2 : Hid (Row 3 w4 (w3.heap.size) (w4.heap.size) xs2 n2 (zs Z2 n2 3)) := Lib.hid (hr)
  have d4_0 : w.heap.size < w4.heap.size := by omega
  have e4_0 : w.heap.size ≠ w4.heap.size := by omega
  clear d3_0 e3_0 c3_0_0 c3_0_1 c3_0_2 c3_0_3 c3_0_4 R3_s0 R3_s1 B3 st4 hr hb4
  go_wp2_with fail
  go_at_call 35
  refine (Hs.out _ _ xs0 ys0 _ _ xs1 _ _ xs2 _ R4_s0.out (by first | omega | (simp; omega) | simp) R4_s1.out (by first | omega | (simp; omega) | simp) R4_s2.out (by first | omega | (simp; omega) | simp) (by first | omega | (simp; omega) | simp)).mono ?_
  rintro e w5 ⟨RWu, RWv, rfl, hr, hb5⟩
  have sz5 : w4.heap.size ≤ w5.heap.size := hb5.size
  have st5 : Below w4.heap.size w4 w5 := hb5
  have c5_0_0 : w5.cell? ⟨w.heap.size, 0, none⟩ = some (.int .i64 o0) := by rw [(bcell st5).1 _ _ (by omega)]; exact c4_0_0
  have c5_0_1 : w5.cell? ⟨w.heap.size, 1, none⟩ = some (.int .i64 s0) := by rw [(bcell st5).1 _ _ (by omega)]; exact c4_0_1
  have c5_0_2 : w5.cell? ⟨w.heap.size, 2, none⟩ = some (.int .i64 g0) := by rw [(bcell st5).1 _ _ (by omega)]; exact c4_0_2
  have c5_0_3 : w5.cell? ⟨w.heap.size, 3, none⟩ = some (.slice ad0 n0 cp0) := by rw [(bcell st5).1 _ _ (by omega)]; exact c4_0_3
  have c5_0_4 : w5.cell? ⟨w.heap.size, 4, none⟩ = some (.slice ae0 m0 cq0) := by rw [(bcell st5).1 _ _ (by omega)]; exact c4_0_4
  have B5 : Hid (Below w.heap.size w w5) := B4.out.trans (st5.mono (by omega))
  have R5_s0 : Hid (LRow w5 (w1.heap.size) (w2.heap.size) xs0 ys0 n0 m0 (zs Y0 n0 2) (zs Z0 m0 3)) := Lib.hid (R4_s0.out.below st5 (by omega))
  have R5_s1 : Hid (Row 2 w5 (w2.heap.size) (w3.heap.size) xs1 n1 (zs Z1 n1 2)) := Lib.hid (R4_s1.out.below st5 (by omega))
  have R5_s2 : Hid (Row 3 w5 (w3.heap.size) (w4.heap.size) xs2 n2 (zs Z2 n2 3)) := Lib.hid (R4_s2.out.below st5 (by omega))
  have R5_RW : Hid (LRow w5 (w4.heap.size) (w5.heap.size) RWu RWv nr mr YR ZR) := Lib.hid (hr)
  have d5_0 : w.heap.size < w5.heap.size := by omega
  have e5_0 : w.heap.size ≠ w5.heap.size := by omega
  clear d4_0 e4_0 c4_0_0 c4_0_1 c4_0_2 c4_0_3 c4_0_4 R4_s0 R4_s1 R4_s2 B4 st5 hr hb5
  obtain ⟨RWua, RWuc, RWva, RWvc, rfl, rfl⟩ := R5_RW.out.slice
  go_wp2_with fail
  go_at_call 13
  refine (toLsa_any o0 s0 g0 _ _ n0 m0 Y0 Z0 _ (HA0.out.below (Below.trans B5.out (by go_grown))) (by omega) (by omega)).mono ?_
  rintro e w6 ⟨xx0, yx0, rfl, hr, hb6⟩
  have sz6 : w5.heap.size + 1 ≤ w6.heap.size := by have hh := hb6.size; simp at hh; omega
  have st6 : Below w5.heap.size w5 w6 := Below.trans (by go_grown) (hb6.mono (by simp))
  have c6_0_0 : w6.cell? ⟨w.heap.size, 0, none⟩ = some (.int .i64 o0) := by rw [(bcell st6).1 _ _ (by omega)]; exact c5_0_0
  have c6_0_1 : w6.cell? ⟨w.heap.size, 1, none⟩ = some (.int .i64 s0) := by rw [(bcell st6).1 _ _ (by omega)]; exact c5_0_1
  have c6_0_2 : w6.cell? ⟨w.heap.size, 2, none⟩ = some (.int .i64 g0) := by rw [(bcell st6).1 _ _ (by omega)]; exact c5_0_2
  have c6_0_3 : w6.cell? ⟨w.heap.size, 3, none⟩ = some (.slice ad0 n0 cp0) := by rw [(bcell st6).1 _ _ (by omega)]; exact c5_0_3
  have c6_0_4 : w6.cell? ⟨w.heap.size, 4, none⟩ = some (.slice ae0 m0 cq0) := by rw [(bcell st6).1 _ _ (by omega)]; exact c5_0_4
  have c6_1_0 : w6.cell? ⟨w5.heap.size, 0, none⟩ = some (.int .i64 ro) := by rw [(bcell hb6).1 _ _ (by simp), new_at (by simp)]; rfl
  have c6_1_1 : w6.cell? ⟨w5.heap.size, 1, none⟩ = some (.int .i64 rs) := by rw [(bcell hb6).1 _ _ (by simp), new_at (by simp)]; rfl
  have c6_1_2 : w6.cell? ⟨w5.heap.size, 2, none⟩ = some (.int .i64 rg) := by rw [(bcell hb6).1 _ _ (by simp), new_at (by simp)]; rfl
  have c6_1_3 : w6.cell? ⟨w5.heap.size, 3, none⟩ = some ((.slice RWua nr RWuc)) := by rw [(bcell hb6).1 _ _ (by simp), new_at (by simp)]; rfl
  have c6_1_4 : w6.cell? ⟨w5.heap.size, 4, none⟩ = some ((.slice RWva mr RWvc)) := by rw [(bcell hb6).1 _ _ (by simp), new_at (by simp)]; rfl
  have B6 : Hid (Below w.heap.size w w6) := B5.out.trans (st6.mono (by omega))
  have R6_RW : Hid (LRow w6 (w4.heap.size) (w5.heap.size) (.slice RWua nr RWuc) (.slice RWva mr RWvc) nr mr YR ZR) := Lib.hid (R5_RW.out.below st6 (by omega))
  have R6_x0 : Hid (LRow w6 (w5.heap.size + 1) (w6.heap.size) xx0 yx0 n0 m0 (zs Y0 n0 2) (zs Z0 m0 3)) := Lib.hid (hr.wide (by simp) (Nat.le_refl _))
  have d6_0 : w.heap.size < w6.heap.size := by omega
  have e6_0 : w.heap.size ≠ w6.heap.size := by omega
  have d6_1 : w5.heap.size < w6.heap.size := by omega
  have e6_1 : w5.heap.size ≠ w6.heap.size := by omega
  clear d5_0 e5_0 c5_0_0 c5_0_1 c5_0_2 c5_0_3 c5_0_4 R5_RW B5 st6 hb6
  obtain ⟨xx0a, xx0c, yx0a, yx0c, rfl, rfl⟩ := R6_x0.out.slice
  go_wp2_with fail
  go_at_call 36
  refine (toLinkS_any _ n1 Z1 _ (HA1.out.below (Below.trans B6.out (by go_grown))) (by omega)).mono ?_
  rintro e w7 ⟨xx1, rfl, hr, hb7⟩
  have sz7 : w6.heap.size + 1 ≤ w7.heap.size := by have hh := hb7.size; simp at hh; omega
  have st7 : Below w6.heap.size w6 w7 := Below.trans (by go_grown) (hb7.mono (by simp))
  have c7_0_0 : w7.cell? ⟨w.heap.size, 0, none⟩ = some (.int .i64 o0) := by rw [(bcell st7).1 _ _ (by omega)]; exact c6_0_0
  have c7_0_1 : w7.cell? ⟨w.heap.size, 1, none⟩ = some (.int .i64 s0) := by rw [(bcell st7).1 _ _ (by omega)]; exact c6_0_1
  have c7_0_2 : w7.cell? ⟨w.heap.size, 2, none⟩ = some (.int .i64 g0) := by rw [(bcell st7).1 _ _ (by omega)]; exact c6_0_2
  have c7_0_3 : w7.cell? ⟨w.heap.size, 3, none⟩ = some (.slice ad0 n0 cp0) := by rw [(bcell st7).1 _ _ (by omega)]; exact c6_0_3
  have c7_0_4 : w7.cell? ⟨w.heap.size, 4, none⟩ = some (.slice ae0 m0 cq0) := by rw [(bcell st7).1 _ _ (by omega)]; exact c6_0_4
  have c7_1_0 : w7.cell? ⟨w5.heap.size, 0, none⟩ = some (.int .i64 ro) := by rw [(bcell st7).1 _ _ (by omega)]; exact c6_1_0
  have c7_1_1 : w7.cell? ⟨w5.heap.size, 1, none⟩ = some (.int .i64 rs) := by rw [(bcell st7).1 _ _ (by omega)]; exact c6_1_1
  have c7_1_2 : w7.cell? ⟨w5.heap.size, 2, none⟩ = some (.int .i64 rg) := by rw [(bcell st7).1 _ _ (by omega)]; exact c6_1_2
  have c7_1_3 : w7.cell? ⟨w5.heap.size, 3, none⟩ = some ((.slice RWua nr RWuc)) := by rw [(bcell st7).1 _ _ (by omega)]; exact c6_1_3
  have c7_1_4 : w7.cell? ⟨w5.heap.size, 4, none⟩ = some ((.slice RWva mr RWvc)) := by rw [(bcell st7).1 _ _ (by omega)]; exact c6_1_4
  have c7_2_0 : w7.cell? ⟨w6.heap.size, 0, none⟩ = some (.int .i64 o0) := by rw [(bcell hb7).1 _ _ (by simp), new_at (by simp)]; rfl
  have c7_2_1 : w7.cell? ⟨w6.heap.size, 1, none⟩ = some (.int .i64 s0) := by rw [(bcell hb7).1 _ _ (by simp), new_at (by simp)]; rfl
  have c7_2_2 : w7.cell? ⟨w6.heap.size, 2, none⟩ = some (.int .i64 g0) := by rw [(bcell hb7).1 _ _ (by simp), new_at (by simp)]; rfl
  have c7_2_3 : w7.cell? ⟨w6.heap.size, 3, none⟩ = some ((.slice xx0a n0 xx0c)) := by rw [(bcell hb7).1 _ _ (by simp), new_at (by simp)]; rfl
  have c7_2_4 : w7.cell? ⟨w6.heap.size, 4, none⟩ = some ((.slice yx0a m0 yx0c)) := by rw [(bcell hb7).1 _ _ (by simp), new_at (by simp)]; rfl
  have B7 : Hid (Below w.heap.size w w7) := B6.out.trans (st7.mono (by omega))
  have R7_RW : Hid (LRow w7 (w4.heap.size) (w5.heap.size) (.slice RWua nr RWuc) (.slice RWva mr RWvc) nr mr YR ZR) := Lib.hid (R6_RW.out.below st7 (by omega))
  have R7_x0 : Hid (LRow w7 (w5.heap.size + 1) (w6.heap.size) (.slice xx0a n0 xx0c) (.slice yx0a m0 yx0c) n0 m0 (zs Y0 n0 2) (zs Z0 m0 3)) := Lib.hid (R6_x0.out.below st7 (by omega))
  have R7_x1 : Hid (Row 2 w7 (w6.heap.size + 1) (w7.heap.size) xx1 n1 (zs Z1 n1 2)) := Lib.hid (hr.wide (by simp) (Nat.le_refl _))
  have d7_0 : w.heap.size < w7.heap.size := by omega
  have e7_0 : w.heap.size ≠ w7.heap.size := by omega
  have d7_1 : w5.heap.size < w7.heap.size := by omega
  have e7_1 : w5.heap.size ≠ w7.heap.size := by omega
  have d7_2 : w6.heap.size < w7.heap.size := by omega
  have e7_2 : w6.heap.size ≠ w7.heap.size := by omega
  clear d6_0 e6_0 d6_1 e6_1 c6_0_0 c6_0_1 c6_0_2 c6_0_3 c6_0_4 c6_1_0 c6_1_1 c6_1_2 c6_1_3 c6_1_4 R6_RW R6_x0 B6 st7 hb7
  obtain ⟨xx1a, xx1c, rfl⟩ := R7_x1.out.slice
  go_wp2_with fail
  go_at_call 37
  refine (toStubS_any _ n2 Z2 _ (HA2.out.below B7.out) (by omega)).mono ?_
  rintro e w8 ⟨xx2, rfl, hr, hb8⟩
  have sz8 : w7.heap.size ≤ w8.heap.size := hb8.size
  have st8 : Below w7.heap.size w7 w8 := hb8
  have c8_0_0 : w8.cell? ⟨w.heap.size, 0, none⟩ = some (.int .i64 o0) := by rw [(bcell st8).1 _ _ (by omega)]; exact c7_0_0
  have c8_0_1 : w8.cell? ⟨w.heap.size, 1, none⟩ = some (.int .i64 s0) := by rw [(bcell st8).1 _ _ (by omega)]; exact c7_0_1
  have c8_0_2 : w8.cell? ⟨w.heap.size, 2, none⟩ = some (.int .i64 g0) := by rw [(bcell st8).1 _ _ (by omega)]; exact c7_0_2
  have c8_0_3 : w8.cell? ⟨w.heap.size, 3, none⟩ = some (.slice ad0 n0 cp0) := by rw [(bcell st8).1 _ _ (by omega)]; exact c7_0_3
  have c8_0_4 : w8.cell? ⟨w.heap.size, 4, none⟩ = some (.slice ae0 m0 cq0) := by rw [(bcell st8).1 _ _ (by omega)]; exact c7_0_4
  have c8_1_0 : w8.cell? ⟨w5.heap.size, 0, none⟩ = some (.int .i64 ro) := by rw [(bcell st8).1 _ _ (by omega)]; exact c7_1_0
  have c8_1_1 : w8.cell? ⟨w5.heap.size, 1, none⟩ = some (.int .i64 rs) := by rw [(bcell st8).1 _ _ (by omega)]; exact c7_1_1
  have c8_1_2 : w8.cell? ⟨w5.heap.size, 2, none⟩ = some (.int .i64 rg) := by rw [(bcell st8).1 _ _ (by omega)]; exact c7_1_2
  have c8_1_3 : w8.cell? ⟨w5.heap.size, 3, none⟩ = some ((.slice RWua nr RWuc)) := by rw [(bcell st8).1 _ _ (by omega)]; exact c7_1_3
  have c8_1_4 : w8.cell? ⟨w5.heap.size, 4, none⟩ = some ((.slice RWva mr RWvc)) := by rw [(bcell st8).1 _ _ (by omega)]; exact c7_1_4
  have c8_2_0 : w8.cell? ⟨w6.heap.size, 0, none⟩ = some (.int .i64 o0) := by rw [(bcell st8).1 _ _ (by omega)]; exact c7_2_0
  have c8_2_1 : w8.cell? ⟨w6.heap.size, 1, none⟩ = some (.int .i64 s0) := by rw [(bcell st8).1 _ _ (by omega)]; exact c7_2_1
  have c8_2_2 : w8.cell? ⟨w6.heap.size, 2, none⟩ = some (.int .i64 g0) := by rw [(bcell st8).1 _ _ (by omega)]; exact c7_2_2
  have c8_2_3 : w8.cell? ⟨w6.heap.size, 3, none⟩ = some ((.slice xx0a n0 xx0c)) := by rw [(bcell st8).1 _ _ (by omega)]; exact c7_2_3
  have c8_2_4 : w8.cell? ⟨w6.heap.size, 4, none⟩ = some ((.slice yx0a m0 yx0c)) := by rw [(bcell st8).1 _ _ (by omega)]; exact c7_2_4
  have B8 : Hid (Below w.heap.size w w8) := B7.out.trans (st8.mono (by omega))
  have R8_RW : Hid (LRow w8 (w4.heap.size) (w5.heap.size) (.slice RWua nr RWuc) (.slice RWva mr RWvc) nr mr YR ZR) := Lib.hid (R7_RW.out.below st8 (by omega))
  have R8_x0 : Hid (LRow w8 (w5.heap.size + 1) (w6.heap.size) (.slice xx0a n0 xx0c) (.slice yx0a m0 yx0c) n0 m0 (zs Y0 n0 2) (zs Z0 m0 3)) := Lib.hid (R7_x0.out.below st8 (by omega))
  have R8_x1 : Hid (Row 2 w8 (w6.heap.size + 1) (w7.heap.size) (.slice xx1a n1 xx1c) n1 (zs Z1 n1 2)) := Lib.hid (R7_x1.out.below st8 (by omega))
  have R8_x2 : Hid (Row 3 w8 (w7.heap.size) (w8.heap.size) xx2 n2 (zs Z2 n2 3)) := Lib.hid (hr)
  have d8_0 : w.heap.size < w8.heap.size := by omega
  have e8_0 : w.heap.size ≠ w8.heap.size := by omega
  have d8_1 : w5.heap.size < w8.heap.size := by omega
  have e8_1 : w5.heap.size ≠ w8.heap.size := by omega
  have d8_2 : w6.heap.size < w8.heap.size := by omega
  have e8_2 : w6.heap.size ≠ w8.heap.size := by omega
  clear d7_0 e7_0 d7_1 e7_1 d7_2 e7_2 c7_0_0 c7_0_1 c7_0_2 c7_0_3 c7_0_4 c7_1_0 c7_1_1 c7_1_2 c7_1_3 c7_1_4 c7_2_0 c7_2_1 c7_2_2 c7_2_3 c7_2_4 R7_RW R7_x0 R7_x1 B7 st8 hr hb8
  obtain ⟨xx2a, xx2c, rfl⟩ := R8_x2.out.slice
  go_wp2_with fail
  go_at_call 38
  refine (Hi.out _ _ (.slice xx0a n0 xx0c) (.slice yx0a m0 yx0c) _ _ (.slice xx1a n1 xx1c) _ _ (.slice xx2a n2 xx2c) _ R8_x0.out (by first | omega | (simp; omega) | simp) R8_x1.out (by first | omega | (simp; omega) | simp) R8_x2.out (by first | omega | (simp; omega) | simp) (by first | omega | (simp; omega) | simp)).mono ?_
  rintro e w9 ⟨RGu, RGv, rfl, hr, hb9⟩
  have sz9 : w8.heap.size ≤ w9.heap.size := hb9.size
  have st9 : Below w8.heap.size w8 w9 := hb9
  have c9_0_0 : w9.cell? ⟨w.heap.size, 0, none⟩ = some (.int .i64 o0) := by rw [(bcell st9).1 _ _ (by omega)]; exact c8_0_0
  have c9_0_1 : w9.cell? ⟨w.heap.size, 1, none⟩ = some (.int .i64 s0) := by rw [(bcell st9).1 _ _ (by omega)]; exact c8_0_1
  have c9_0_2 : w9.cell? ⟨w.heap.size, 2, none⟩ = some (.int .i64 g0) := by rw [(bcell st9).1 _ _ (by omega)]; exact c8_0_2
  have c9_0_3 : w9.cell? ⟨w.heap.size, 3, none⟩ = some (.slice ad0 n0 cp0) := by rw [(bcell st9).1 _ _ (by omega)]; exact c8_0_3
  have c9_0_4 : w9.cell? ⟨w.heap.size, 4, none⟩ = some (.slice ae0 m0 cq0) := by rw [(bcell st9).1 _ _ (by omega)]; exact c8_0_4
  have c9_1_0 : w9.cell? ⟨w5.heap.size, 0, none⟩ = some (.int .i64 ro) := by rw [(bcell st9).1 _ _ (by omega)]; exact c8_1_0
  have c9_1_1 : w9.cell? ⟨w5.heap.size, 1, none⟩ = some (.int .i64 rs) := by rw [(bcell st9).1 _ _ (by omega)]; exact c8_1_1
  have c9_1_2 : w9.cell? ⟨w5.heap.size, 2, none⟩ = some (.int .i64 rg) := by rw [(bcell st9).1 _ _ (by omega)]; exact c8_1_2
  have c9_1_3 : w9.cell? ⟨w5.heap.size, 3, none⟩ = some ((.slice RWua nr RWuc)) := by rw [(bcell st9).1 _ _ (by omega)]; exact c8_1_3
  have c9_1_4 : w9.cell? ⟨w5.heap.size, 4, none⟩ = some ((.slice RWva mr RWvc)) := by rw [(bcell st9).1 _ _ (by omega)]; exact c8_1_4
  have c9_2_0 : w9.cell? ⟨w6.heap.size, 0, none⟩ = some (.int .i64 o0) := by rw [(bcell st9).1 _ _ (by omega)]; exact c8_2_0
  have c9_2_1 : w9.cell? ⟨w6.heap.size, 1, none⟩ = some (.int .i64 s0) := by rw [(bcell st9).1 _ _ (by omega)]; exact c8_2_1
  have c9_2_2 : w9.cell? ⟨w6.heap.size, 2, none⟩ = some (.int .i64 g0) := by rw [(bcell st9).1 _ _ (by omega)]; exact c8_2_2
  have c9_2_3 : w9.cell? ⟨w6.heap.size, 3, none⟩ = some ((.slice xx0a n0 xx0c)) := by rw [(bcell st9).1 _ _ (by omega)]; exact c8_2_3
  have c9_2_4 : w9.cell? ⟨w6.heap.size, 4, none⟩ = some ((.slice yx0a m0 yx0c)) := by rw [(bcell st9).1 _ _ (by omega)]; exact c8_2_4
  have B9 : Hid (Below w.heap.size w w9) := B8.out.trans (st9.mono (by omega))
  have R9_RW : Hid (LRow w9 (w4.heap.size) (w5.heap.size) (.slice RWua nr RWuc) (.slice RWva mr RWvc) nr mr YR ZR) := Lib.hid (R8_RW.out.below st9 (by omega))
  have R9_x0 : Hid (LRow w9 (w5.heap.size + 1) (w6.heap.size) (.slice xx0a n0 xx0c) (.slice yx0a m0 yx0c) n0 m0 (zs Y0 n0 2) (zs Z0 m0 3)) := Lib.hid (R8_x0.out.below st9 (by omega))
  have R9_x1 : Hid (Row 2 w9 (w6.heap.size + 1) (w7.heap.size) (.slice xx1a n1 xx1c) n1 (zs Z1 n1 2)) := Lib.hid (R8_x1.out.below st9 (by omega))
  have R9_x2 : Hid (Row 3 w9 (w7.heap.size) (w8.heap.size) (.slice xx2a n2 xx2c) n2 (zs Z2 n2 3)) := Lib.hid (R8_x2.out.below st9 (by omega))
  have R9_RG : Hid (LRow w9 (w8.heap.size) (w9.heap.size) RGu RGv nr mr YR ZR) := Lib.hid (hr)
  have d9_0 : w.heap.size < w9.heap.size := by omega
  have e9_0 : w.heap.size ≠ w9.heap.size := by omega
  have d9_1 : w5.heap.size < w9.heap.size := by omega
  have e9_1 : w5.heap.size ≠ w9.heap.size := by omega
  have d9_2 : w6.heap.size < w9.heap.size := by omega
  have e9_2 : w6.heap.size ≠ w9.heap.size := by omega
  clear d8_0 e8_0 d8_1 e8_1 d8_2 e8_2 c8_0_0 c8_0_1 c8_0_2 c8_0_3 c8_0_4 c8_1_0 c8_1_1 c8_1_2 c8_1_3 c8_1_4 c8_2_0 c8_2_1 c8_2_2 c8_2_3 c8_2_4 R8_RW R8_x0 R8_x1 R8_x2 B8 st9 hr hb9
  obtain ⟨RGua, RGuc, RGva, RGvc, rfl, rfl⟩ := R9_RG.out.slice
  go_wp2_with fail
  go_at_call 15
  refine (eqLsa_same ro rs rg YR ZR nr mr _ _ _ _ _ _ _ _ _ (R9_RG.out.below (B := w9.heap.size) (by go_grown) (by omega)) (R9_RW.out.below (B := w9.heap.size) (by go_grown) (by omega)) (by first | omega | (simp; omega) | simp) (by first | omega | (simp; omega) | simp)).mono ?_
  rintro e w10 ⟨rfl, hb10⟩
  have sz10 : w9.heap.size + 1 ≤ w10.heap.size := by have hh := hb10.size; simp at hh; omega
  have st10 : Below w9.heap.size w9 w10 := Below.trans (by go_grown) (hb10.mono (by simp))
  have c10_0_0 : w10.cell? ⟨w.heap.size, 0, none⟩ = some (.int .i64 o0) := by rw [(bcell st10).1 _ _ (by omega)]; exact c9_0_0
  have c10_0_1 : w10.cell? ⟨w.heap.size, 1, none⟩ = some (.int .i64 s0) := by rw [(bcell st10).1 _ _ (by omega)]; exact c9_0_1
  have c10_0_2 : w10.cell? ⟨w.heap.size, 2, none⟩ = some (.int .i64 g0) := by rw [(bcell st10).1 _ _ (by omega)]; exact c9_0_2
  have c10_0_3 : w10.cell? ⟨w.heap.size, 3, none⟩ = some (.slice ad0 n0 cp0) := by rw [(bcell st10).1 _ _ (by omega)]; exact c9_0_3
  have c10_0_4 : w10.cell? ⟨w.heap.size, 4, none⟩ = some (.slice ae0 m0 cq0) := by rw [(bcell st10).1 _ _ (by omega)]; exact c9_0_4
  have c10_1_0 : w10.cell? ⟨w5.heap.size, 0, none⟩ = some (.int .i64 ro) := by rw [(bcell st10).1 _ _ (by omega)]; exact c9_1_0
  have c10_1_1 : w10.cell? ⟨w5.heap.size, 1, none⟩ = some (.int .i64 rs) := by rw [(bcell st10).1 _ _ (by omega)]; exact c9_1_1
  have c10_1_2 : w10.cell? ⟨w5.heap.size, 2, none⟩ = some (.int .i64 rg) := by rw [(bcell st10).1 _ _ (by omega)]; exact c9_1_2
  have c10_1_3 : w10.cell? ⟨w5.heap.size, 3, none⟩ = some ((.slice RWua nr RWuc)) := by rw [(bcell st10).1 _ _ (by omega)]; exact c9_1_3
  have c10_1_4 : w10.cell? ⟨w5.heap.size, 4, none⟩ = some ((.slice RWva mr RWvc)) := by rw [(bcell st10).1 _ _ (by omega)]; exact c9_1_4
  have c10_2_0 : w10.cell? ⟨w6.heap.size, 0, none⟩ = some (.int .i64 o0) := by rw [(bcell st10).1 _ _ (by omega)]; exact c9_2_0
  have c10_2_1 : w10.cell? ⟨w6.heap.size, 1, none⟩ = some (.int .i64 s0) := by rw [(bcell st10).1 _ _ (by omega)]; exact c9_2_1
  have c10_2_2 : w10.cell? ⟨w6.heap.size, 2, none⟩ = some (.int .i64 g0) := by rw [(bcell st10).1 _ _ (by omega)]; exact c9_2_2
  have c10_2_3 : w10.cell? ⟨w6.heap.size, 3, none⟩ = some ((.slice xx0a n0 xx0c)) := by rw [(bcell st10).1 _ _ (by omega)]; exact c9_2_3
  have c10_2_4 : w10.cell? ⟨w6.heap.size, 4, none⟩ = some ((.slice yx0a m0 yx0c)) := by rw [(bcell st10).1 _ _ (by omega)]; exact c9_2_4
  have c10_3_0 : w10.cell? ⟨w9.heap.size, 0, none⟩ = some (.int .i64 ro) := by rw [(bcell hb10).1 _ _ (by simp), new_at (by simp)]; rfl
  have c10_3_1 : w10.cell? ⟨w9.heap.size, 1, none⟩ = some (.int .i64 rs) := by rw [(bcell hb10).1 _ _ (by simp), new_at (by simp)]; rfl
  have c10_3_2 : w10.cell? ⟨w9.heap.size, 2, none⟩ = some (.int .i64 rg) := by rw [(bcell hb10).1 _ _ (by simp), new_at (by simp)]; rfl
  have c10_3_3 : w10.cell? ⟨w9.heap.size, 3, none⟩ = some ((.slice RGua nr RGuc)) := by rw [(bcell hb10).1 _ _ (by simp), new_at (by simp)]; rfl
  have c10_3_4 : w10.cell? ⟨w9.heap.size, 4, none⟩ = some ((.slice RGva mr RGvc)) := by rw [(bcell hb10).1 _ _ (by simp), new_at (by simp)]; rfl
  have B10 : Hid (Below w.heap.size w w10) := B9.out.trans (st10.mono (by omega))
  have R10_RW : Hid (LRow w10 (w4.heap.size) (w5.heap.size) (.slice RWua nr RWuc) (.slice RWva mr RWvc) nr mr YR ZR) := Lib.hid (R9_RW.out.below st10 (by omega))
  have R10_x0 : Hid (LRow w10 (w5.heap.size + 1) (w6.heap.size) (.slice xx0a n0 xx0c) (.slice yx0a m0 yx0c) n0 m0 (zs Y0 n0 2) (zs Z0 m0 3)) := Lib.hid (R9_x0.out.below st10 (by omega))
  have R10_x1 : Hid (Row 2 w10 (w6.heap.size + 1) (w7.heap.size) (.slice xx1a n1 xx1c) n1 (zs Z1 n1 2)) := Lib.hid (R9_x1.out.below st10 (by omega))
  have R10_x2 : Hid (Row 3 w10 (w7.heap.size) (w8.heap.size) (.slice xx2a n2 xx2c) n2 (zs Z2 n2 3)) := Lib.hid (R9_x2.out.below st10 (by omega))
  have R10_RG : Hid (LRow w10 (w8.heap.size) (w9.heap.size) (.slice RGua nr RGuc) (.slice RGva mr RGvc) nr mr YR ZR) := Lib.hid (R9_RG.out.below st10 (by omega))
  have d10_0 : w.heap.size < w10.heap.size := by omega
  have e10_0 : w.heap.size ≠ w10.heap.size := by omega
  have d10_1 : w5.heap.size < w10.heap.size := by omega
  have e10_1 : w5.heap.size ≠ w10.heap.size := by omega
  have d10_2 : w6.heap.size < w10.heap.size := by omega
  have e10_2 : w6.heap.size ≠ w10.heap.size := by omega
  have d10_3 : w9.heap.size < w10.heap.size := by omega
  have e10_3 : w9.heap.size ≠ w10.heap.size := by omega
  clear d9_0 e9_0 d9_1 e9_1 d9_2 e9_2 c9_0_0 c9_0_1 c9_0_2 c9_0_3 c9_0_4 c9_1_0 c9_1_1 c9_1_2 c9_1_3 c9_1_4 c9_2_0 c9_2_1 c9_2_2 c9_2_3 c9_2_4 R9_RW R9_x0 R9_x1 R9_x2 R9_RG B9 st10 hb10
  go_wp2_with fail
  go_region_held3 (fun w' => w'.cell? ⟨w.heap.size, 0, none⟩ = some (.int .i64 o0) ∧ w'.cell? ⟨w.heap.size, 1, none⟩ = some (.int .i64 s0) ∧ w'.cell? ⟨w.heap.size, 2, none⟩ = some (.int .i64 g0) ∧ w'.cell? ⟨w.heap.size, 3, none⟩ = some (.slice ad0 n0 cp0) ∧ w'.cell? ⟨w.heap.size, 4, none⟩ = some (.slice ae0 m0 cq0) ∧ w'.cell? ⟨w5.heap.size, 0, none⟩ = some (.int .i64 ro) ∧ w'.cell? ⟨w5.heap.size, 1, none⟩ = some (.int .i64 rs) ∧ w'.cell? ⟨w5.heap.size, 2, none⟩ = some (.int .i64 rg) ∧ w'.cell? ⟨w5.heap.size, 3, none⟩ = some ((.slice RWua nr RWuc)) ∧ w'.cell? ⟨w5.heap.size, 4, none⟩ = some ((.slice RWva mr RWvc)) ∧ w'.cell? ⟨w6.heap.size, 0, none⟩ = some (.int .i64 o0) ∧ w'.cell? ⟨w6.heap.size, 1, none⟩ = some (.int .i64 s0) ∧ w'.cell? ⟨w6.heap.size, 2, none⟩ = some (.int .i64 g0) ∧ w'.cell? ⟨w6.heap.size, 3, none⟩ = some ((.slice xx0a n0 xx0c)) ∧ w'.cell? ⟨w6.heap.size, 4, none⟩ = some ((.slice yx0a m0 yx0c)) ∧ w'.cell? ⟨w9.heap.size, 0, none⟩ = some (.int .i64 ro) ∧ w'.cell? ⟨w9.heap.size, 1, none⟩ = some (.int .i64 rs) ∧ w'.cell? ⟨w9.heap.size, 2, none⟩ = some (.int .i64 rg) ∧ w'.cell? ⟨w9.heap.size, 3, none⟩ = some ((.slice RGua nr RGuc)) ∧ w'.cell? ⟨w9.heap.size, 4, none⟩ = some ((.slice RGva mr RGvc)) ∧ w10.heap.size ≤ w'.heap.size ∧ Below w10.heap.size w10 w') (first | assumption | exact rr20_start c10_0_0 c10_0_1 c10_0_2 c10_0_3 c10_0_4 c10_1_0 c10_1_1 c10_1_2 c10_1_3 c10_1_4 c10_2_0 c10_2_1 c10_2_2 c10_2_3 c10_2_4 c10_3_0 c10_3_1 c10_3_2 c10_3_3 c10_3_4 | exact rr20_drew (by assumption) | exact rr20_keep (by omega) (by omega) (by omega) (by omega) (by omega) (by omega) (by omega) (by omega) (by omega) (by omega) (by omega) (by omega) (by omega) (by omega) (by omega) (by omega) (by omega) (by omega) (by omega) (by omega) (by assumption) (by assumption))
    (first | (go_at_call 13; refine (toLsa_any o0 s0 g0 _ _ n0 m0 Y0 Z0 _ (HA0.out.below (B10.out.trans ((rr20_out (by assumption)).2.mono (by omega)))) (by omega) (by omega)).mono ?_; rintro e w11 ⟨xz0, yz0, rfl, ry0, hb⟩; have hz11 := hb.size) | (go_at_call 15; refine (eqLsa_same o0 s0 g0 (zs Y0 n0 2) (zs Z0 m0 3) n0 m0 _ _ _ _ _ _ _ _ _ (R10_x0.out.below (rr20_out (by assumption)).2 (by omega)) ry0 (by have hq := rr20_out (by assumption); omega) (Nat.le_refl _)).mono ?_; rintro e w12 ⟨rfl, hb⟩))
  have hb12 : Below w10.heap.size w10 w12 := (rr20_out (by assumption)).2
  have sz12 : w10.heap.size ≤ w12.heap.size := hb12.size
  have st12 : Below w10.heap.size w10 w12 := hb12
  have c12_0_0 : w12.cell? ⟨w.heap.size, 0, none⟩ = some (.int .i64 o0) := by rw [(bcell st12).1 _ _ (by omega)]; exact c10_0_0
  have c12_0_1 : w12.cell? ⟨w.heap.size, 1, none⟩ = some (.int .i64 s0) := by rw [(bcell st12).1 _ _ (by omega)]; exact c10_0_1
  have c12_0_2 : w12.cell? ⟨w.heap.size, 2, none⟩ = some (.int .i64 g0) := by rw [(bcell st12).1 _ _ (by omega)]; exact c10_0_2
  have c12_0_3 : w12.cell? ⟨w.heap.size, 3, none⟩ = some (.slice ad0 n0 cp0) := by rw [(bcell st12).1 _ _ (by omega)]; exact c10_0_3
  have c12_0_4 : w12.cell? ⟨w.heap.size, 4, none⟩ = some (.slice ae0 m0 cq0) := by rw [(bcell st12).1 _ _ (by omega)]; exact c10_0_4
  have c12_1_0 : w12.cell? ⟨w5.heap.size, 0, none⟩ = some (.int .i64 ro) := by rw [(bcell st12).1 _ _ (by omega)]; exact c10_1_0
  have c12_1_1 : w12.cell? ⟨w5.heap.size, 1, none⟩ = some (.int .i64 rs) := by rw [(bcell st12).1 _ _ (by omega)]; exact c10_1_1
  have c12_1_2 : w12.cell? ⟨w5.heap.size, 2, none⟩ = some (.int .i64 rg) := by rw [(bcell st12).1 _ _ (by omega)]; exact c10_1_2
  have c12_1_3 : w12.cell? ⟨w5.heap.size, 3, none⟩ = some ((.slice RWua nr RWuc)) := by rw [(bcell st12).1 _ _ (by omega)]; exact c10_1_3
  have c12_1_4 : w12.cell? ⟨w5.heap.size, 4, none⟩ = some ((.slice RWva mr RWvc)) := by rw [(bcell st12).1 _ _ (by omega)]; exact c10_1_4
  have c12_2_0 : w12.cell? ⟨w6.heap.size, 0, none⟩ = some (.int .i64 o0) := by rw [(bcell st12).1 _ _ (by omega)]; exact c10_2_0
  have c12_2_1 : w12.cell? ⟨w6.heap.size, 1, none⟩ = some (.int .i64 s0) := by rw [(bcell st12).1 _ _ (by omega)]; exact c10_2_1
  have c12_2_2 : w12.cell? ⟨w6.heap.size, 2, none⟩ = some (.int .i64 g0) := by rw [(bcell st12).1 _ _ (by omega)]; exact c10_2_2
  have c12_2_3 : w12.cell? ⟨w6.heap.size, 3, none⟩ = some ((.slice xx0a n0 xx0c)) := by rw [(bcell st12).1 _ _ (by omega)]; exact c10_2_3
  have c12_2_4 : w12.cell? ⟨w6.heap.size, 4, none⟩ = some ((.slice yx0a m0 yx0c)) := by rw [(bcell st12).1 _ _ (by omega)]; exact c10_2_4
  have c12_3_0 : w12.cell? ⟨w9.heap.size, 0, none⟩ = some (.int .i64 ro) := by rw [(bcell st12).1 _ _ (by omega)]; exact c10_3_0
  have c12_3_1 : w12.cell? ⟨w9.heap.size, 1, none⟩ = some (.int .i64 rs) := by rw [(bcell st12).1 _ _ (by omega)]; exact c10_3_1
  have c12_3_2 : w12.cell? ⟨w9.heap.size, 2, none⟩ = some (.int .i64 rg) := by rw [(bcell st12).1 _ _ (by omega)]; exact c10_3_2
  have c12_3_3 : w12.cell? ⟨w9.heap.size, 3, none⟩ = some ((.slice RGua nr RGuc)) := by rw [(bcell st12).1 _ _ (by omega)]; exact c10_3_3
  have c12_3_4 : w12.cell? ⟨w9.heap.size, 4, none⟩ = some ((.slice RGva mr RGvc)) := by rw [(bcell st12).1 _ _ (by omega)]; exact c10_3_4
  have B12 : Hid (Below w.heap.size w w12) := B10.out.trans (st12.mono (by omega))
  have R12_RW : Hid (LRow w12 (w4.heap.size) (w5.heap.size) (.slice RWua nr RWuc) (.slice RWva mr RWvc) nr mr YR ZR) := Lib.hid (R10_RW.out.below st12 (by omega))
  have R12_x0 : Hid (LRow w12 (w5.heap.size + 1) (w6.heap.size) (.slice xx0a n0 xx0c) (.slice yx0a m0 yx0c) n0 m0 (zs Y0 n0 2) (zs Z0 m0 3)) := Lib.hid (R10_x0.out.below st12 (by omega))
  have R12_x1 : Hid (Row 2 w12 (w6.heap.size + 1) (w7.heap.size) (.slice xx1a n1 xx1c) n1 (zs Z1 n1 2)) := Lib.hid (R10_x1.out.below st12 (by omega))
  have R12_x2 : Hid (Row 3 w12 (w7.heap.size) (w8.heap.size) (.slice xx2a n2 xx2c) n2 (zs Z2 n2 3)) := Lib.hid (R10_x2.out.below st12 (by omega))
  have R12_RG : Hid (LRow w12 (w8.heap.size) (w9.heap.size) (.slice RGua nr RGuc) (.slice RGva mr RGvc) nr mr YR ZR) := Lib.hid (R10_RG.out.below st12 (by omega))
  have d12_0 : w.heap.size < w12.heap.size := by omega
  have e12_0 : w.heap.size ≠ w12.heap.size := by omega
  have d12_1 : w5.heap.size < w12.heap.size := by omega
  have e12_1 : w5.heap.size ≠ w12.heap.size := by omega
  have d12_2 : w6.heap.size < w12.heap.size := by omega
  have e12_2 : w6.heap.size ≠ w12.heap.size := by omega
  have d12_3 : w9.heap.size < w12.heap.size := by omega
  have e12_3 : w9.heap.size ≠ w12.heap.size := by omega
  clear d10_0 e10_0 d10_1 e10_1 d10_2 e10_2 d10_3 e10_3 c10_0_0 c10_0_1 c10_0_2 c10_0_3 c10_0_4 c10_1_0 c10_1_1 c10_1_2 c10_1_3 c10_1_4 c10_2_0 c10_2_1 c10_2_2 c10_2_3 c10_2_4 c10_3_0 c10_3_1 c10_3_2 c10_3_3 c10_3_4 R10_RW R10_x0 R10_x1 R10_x2 R10_RG B10 st12 hb12
  go_wp2_with fail
  go_at_call 36
  refine (toLinkS_any _ n1 Z1 _ (HA1.out.below B12.out) (by omega)).mono ?_
  rintro e w13 ⟨xy1, rfl, hr, hb13⟩
  have sz13 : w12.heap.size ≤ w13.heap.size := hb13.size
  have st13 : Below w12.heap.size w12 w13 := hb13
  have c13_0_0 : w13.cell? ⟨w.heap.size, 0, none⟩ = some (.int .i64 o0) := by rw [(bcell st13).1 _ _ (by omega)]; exact c12_0_0
  have c13_0_1 : w13.cell? ⟨w.heap.size, 1, none⟩ = some (.int .i64 s0) := by rw [(bcell st13).1 _ _ (by omega)]; exact c12_0_1
  have c13_0_2 : w13.cell? ⟨w.heap.size, 2, none⟩ = some (.int .i64 g0) := by rw [(bcell st13).1 _ _ (by omega)]; exact c12_0_2
  have c13_0_3 : w13.cell? ⟨w.heap.size, 3, none⟩ = some (.slice ad0 n0 cp0) := by rw [(bcell st13).1 _ _ (by omega)]; exact c12_0_3
  have c13_0_4 : w13.cell? ⟨w.heap.size, 4, none⟩ = some (.slice ae0 m0 cq0) := by rw [(bcell st13).1 _ _ (by omega)]; exact c12_0_4
  have c13_1_0 : w13.cell? ⟨w5.heap.size, 0, none⟩ = some (.int .i64 ro) := by rw [(bcell st13).1 _ _ (by omega)]; exact c12_1_0
  have c13_1_1 : w13.cell? ⟨w5.heap.size, 1, none⟩ = some (.int .i64 rs) := by rw [(bcell st13).1 _ _ (by omega)]; exact c12_1_1
  have c13_1_2 : w13.cell? ⟨w5.heap.size, 2, none⟩ = some (.int .i64 rg) := by rw [(bcell st13).1 _ _ (by omega)]; exact c12_1_2
  have c13_1_3 : w13.cell? ⟨w5.heap.size, 3, none⟩ = some ((.slice RWua nr RWuc)) := by rw [(bcell st13).1 _ _ (by omega)]; exact c12_1_3
  have c13_1_4 : w13.cell? ⟨w5.heap.size, 4, none⟩ = some ((.slice RWva mr RWvc)) := by rw [(bcell st13).1 _ _ (by omega)]; exact c12_1_4
  have c13_2_0 : w13.cell? ⟨w6.heap.size, 0, none⟩ = some (.int .i64 o0) := by rw [(bcell st13).1 _ _ (by omega)]; exact c12_2_0
  have c13_2_1 : w13.cell? ⟨w6.heap.size, 1, none⟩ = some (.int .i64 s0) := by rw [(bcell st13).1 _ _ (by omega)]; exact c12_2_1
  have c13_2_2 : w13.cell? ⟨w6.heap.size, 2, none⟩ = some (.int .i64 g0) := by rw [(bcell st13).1 _ _ (by omega)]; exact c12_2_2
  have c13_2_3 : w13.cell? ⟨w6.heap.size, 3, none⟩ = some ((.slice xx0a n0 xx0c)) := by rw [(bcell st13).1 _ _ (by omega)]; exact c12_2_3
  have c13_2_4 : w13.cell? ⟨w6.heap.size, 4, none⟩ = some ((.slice yx0a m0 yx0c)) := by rw [(bcell st13).1 _ _ (by omega)]; exact c12_2_4
  have c13_3_0 : w13.cell? ⟨w9.heap.size, 0, none⟩ = some (.int .i64 ro) := by rw [(bcell st13).1 _ _ (by omega)]; exact c12_3_0
  have c13_3_1 : w13.cell? ⟨w9.heap.size, 1, none⟩ = some (.int .i64 rs) := by rw [(bcell st13).1 _ _ (by omega)]; exact c12_3_1
  have c13_3_2 : w13.cell? ⟨w9.heap.size, 2, none⟩ = some (.int .i64 rg) := by rw [(bcell st13).1 _ _ (by omega)]; exact c12_3_2
  have c13_3_3 : w13.cell? ⟨w9.heap.size, 3, none⟩ = some ((.slice RGua nr RGuc)) := by rw [(bcell st13).1 _ _ (by omega)]; exact c12_3_3
  have c13_3_4 : w13.cell? ⟨w9.heap.size, 4, none⟩ = some ((.slice RGva mr RGvc)) := by rw [(bcell st13).1 _ _ (by omega)]; exact c12_3_4
  have B13 : Hid (Below w.heap.size w w13) := B12.out.trans (st13.mono (by omega))
  have R13_RW : Hid (LRow w13 (w4.heap.size) (w5.heap.size) (.slice RWua nr RWuc) (.slice RWva mr RWvc) nr mr YR ZR) := Lib.hid (R12_RW.out.below st13 (by omega))
  have R13_x0 : Hid (LRow w13 (w5.heap.size + 1) (w6.heap.size) (.slice xx0a n0 xx0c) (.slice yx0a m0 yx0c) n0 m0 (zs Y0 n0 2) (zs Z0 m0 3)) := Lib.hid (R12_x0.out.below st13 (by omega))
  have R13_x1 : Hid (Row 2 w13 (w6.heap.size + 1) (w7.heap.size) (.slice xx1a n1 xx1c) n1 (zs Z1 n1 2)) := Lib.hid (R12_x1.out.below st13 (by omega))
  have R13_x2 : Hid (Row 3 w13 (w7.heap.size) (w8.heap.size) (.slice xx2a n2 xx2c) n2 (zs Z2 n2 3)) := Lib.hid (R12_x2.out.below st13 (by omega))
  have R13_RG : Hid (LRow w13 (w8.heap.size) (w9.heap.size) (.slice RGua nr RGuc) (.slice RGva mr RGvc) nr mr YR ZR) := Lib.hid (R12_RG.out.below st13 (by omega))
  have R13_y1 : Hid (Row 2 w13 (w12.heap.size) (w13.heap.size) xy1 n1 (zs Z1 n1 2)) := Lib.hid (hr)
  have d13_0 : w.heap.size < w13.heap.size := by omega
  have e13_0 : w.heap.size ≠ w13.heap.size := by omega
  have d13_1 : w5.heap.size < w13.heap.size := by omega
  have e13_1 : w5.heap.size ≠ w13.heap.size := by omega
  have d13_2 : w6.heap.size < w13.heap.size := by omega
  have e13_2 : w6.heap.size ≠ w13.heap.size := by omega
  have d13_3 : w9.heap.size < w13.heap.size := by omega
  have e13_3 : w9.heap.size ≠ w13.heap.size := by omega
  clear d12_0 e12_0 d12_1 e12_1 d12_2 e12_2 d12_3 e12_3 c12_0_0 c12_0_1 c12_0_2 c12_0_3 c12_0_4 c12_1_0 c12_1_1 c12_1_2 c12_1_3 c12_1_4 c12_2_0 c12_2_1 c12_2_2 c12_2_3 c12_2_4 c12_3_0 c12_3_1 c12_3_2 c12_3_3 c12_3_4 R12_RW R12_x0 R12_x1 R12_x2 R12_RG B12 st13 hr hb13
  go_wp2_with fail
  go_at_call 39
  refine (eqLinkS_same (zs Z1 n1 2) n1 _ _ _ _ _ _ _ R13_x1.out R13_y1.out (by omega) (by omega)).mono ?_
  rintro e w14 ⟨rfl, hb14⟩
  have sz14 : w13.heap.size ≤ w14.heap.size := hb14.size
  have st14 : Below w13.heap.size w13 w14 := hb14
  have c14_0_0 : w14.cell? ⟨w.heap.size, 0, none⟩ = some (.int .i64 o0) := by rw [(bcell st14).1 _ _ (by omega)]; exact c13_0_0
  have c14_0_1 : w14.cell? ⟨w.heap.size, 1, none⟩ = some (.int .i64 s0) := by rw [(bcell st14).1 _ _ (by omega)]; exact c13_0_1
  have c14_0_2 : w14.cell? ⟨w.heap.size, 2, none⟩ = some (.int .i64 g0) := by rw [(bcell st14).1 _ _ (by omega)]; exact c13_0_2
  have c14_0_3 : w14.cell? ⟨w.heap.size, 3, none⟩ = some (.slice ad0 n0 cp0) := by rw [(bcell st14).1 _ _ (by omega)]; exact c13_0_3
  have c14_0_4 : w14.cell? ⟨w.heap.size, 4, none⟩ = some (.slice ae0 m0 cq0) := by rw [(bcell st14).1 _ _ (by omega)]; exact c13_0_4
  have c14_1_0 : w14.cell? ⟨w5.heap.size, 0, none⟩ = some (.int .i64 ro) := by rw [(bcell st14).1 _ _ (by omega)]; exact c13_1_0
  have c14_1_1 : w14.cell? ⟨w5.heap.size, 1, none⟩ = some (.int .i64 rs) := by rw [(bcell st14).1 _ _ (by omega)]; exact c13_1_1
  have c14_1_2 : w14.cell? ⟨w5.heap.size, 2, none⟩ = some (.int .i64 rg) := by rw [(bcell st14).1 _ _ (by omega)]; exact c13_1_2
  have c14_1_3 : w14.cell? ⟨w5.heap.size, 3, none⟩ = some ((.slice RWua nr RWuc)) := by rw [(bcell st14).1 _ _ (by omega)]; exact c13_1_3
  have c14_1_4 : w14.cell? ⟨w5.heap.size, 4, none⟩ = some ((.slice RWva mr RWvc)) := by rw [(bcell st14).1 _ _ (by omega)]; exact c13_1_4
  have c14_2_0 : w14.cell? ⟨w6.heap.size, 0, none⟩ = some (.int .i64 o0) := by rw [(bcell st14).1 _ _ (by omega)]; exact c13_2_0
  have c14_2_1 : w14.cell? ⟨w6.heap.size, 1, none⟩ = some (.int .i64 s0) := by rw [(bcell st14).1 _ _ (by omega)]; exact c13_2_1
  have c14_2_2 : w14.cell? ⟨w6.heap.size, 2, none⟩ = some (.int .i64 g0) := by rw [(bcell st14).1 _ _ (by omega)]; exact c13_2_2
  have c14_2_3 : w14.cell? ⟨w6.heap.size, 3, none⟩ = some ((.slice xx0a n0 xx0c)) := by rw [(bcell st14).1 _ _ (by omega)]; exact c13_2_3
  have c14_2_4 : w14.cell? ⟨w6.heap.size, 4, none⟩ = some ((.slice yx0a m0 yx0c)) := by rw [(bcell st14).1 _ _ (by omega)]; exact c13_2_4
  have c14_3_0 : w14.cell? ⟨w9.heap.size, 0, none⟩ = some (.int .i64 ro) := by rw [(bcell st14).1 _ _ (by omega)]; exact c13_3_0
  have c14_3_1 : w14.cell? ⟨w9.heap.size, 1, none⟩ = some (.int .i64 rs) := by rw [(bcell st14).1 _ _ (by omega)]; exact c13_3_1
  have c14_3_2 : w14.cell? ⟨w9.heap.size, 2, none⟩ = some (.int .i64 rg) := by rw [(bcell st14).1 _ _ (by omega)]; exact c13_3_2
  have c14_3_3 : w14.cell? ⟨w9.heap.size, 3, none⟩ = some ((.slice RGua nr RGuc)) := by rw [(bcell st14).1 _ _ (by omega)]; exact c13_3_3
  have c14_3_4 : w14.cell? ⟨w9.heap.size, 4, none⟩ = some ((.slice RGva mr RGvc)) := by rw [(bcell st14).1 _ _ (by omega)]; exact c13_3_4
  have B14 : Hid (Below w.heap.size w w14) := B13.out.trans (st14.mono (by omega))
  have R14_RW : Hid (LRow w14 (w4.heap.size) (w5.heap.size) (.slice RWua nr RWuc) (.slice RWva mr RWvc) nr mr YR ZR) := Lib.hid (R13_RW.out.below st14 (by omega))
  have R14_x0 : Hid (LRow w14 (w5.heap.size + 1) (w6.heap.size) (.slice xx0a n0 xx0c) (.slice yx0a m0 yx0c) n0 m0 (zs Y0 n0 2) (zs Z0 m0 3)) := Lib.hid (R13_x0.out.below st14 (by omega))
  have R14_x1 : Hid (Row 2 w14 (w6.heap.size + 1) (w7.heap.size) (.slice xx1a n1 xx1c) n1 (zs Z1 n1 2)) := Lib.hid (R13_x1.out.below st14 (by omega))
  have R14_x2 : Hid (Row 3 w14 (w7.heap.size) (w8.heap.size) (.slice xx2a n2 xx2c) n2 (zs Z2 n2 3)) := Lib.hid (R13_x2.out.below st14 (by omega))
  have R14_RG : Hid (LRow w14 (w8.heap.size) (w9.heap.size) (.slice RGua nr RGuc) (.slice RGva mr RGvc) nr mr YR ZR) := Lib.hid (R13_RG.out.below st14 (by omega))
  have R14_y1 : Hid (Row 2 w14 (w12.heap.size) (w13.heap.size) xy1 n1 (zs Z1 n1 2)) := Lib.hid (R13_y1.out.below st14 (by omega))
  have d14_0 : w.heap.size < w14.heap.size := by omega
  have e14_0 : w.heap.size ≠ w14.heap.size := by omega
  have d14_1 : w5.heap.size < w14.heap.size := by omega
  have e14_1 : w5.heap.size ≠ w14.heap.size := by omega
  have d14_2 : w6.heap.size < w14.heap.size := by omega
  have e14_2 : w6.heap.size ≠ w14.heap.size := by omega
  have d14_3 : w9.heap.size < w14.heap.size := by omega
  have e14_3 : w9.heap.size ≠ w14.heap.size := by omega
  clear d13_0 e13_0 d13_1 e13_1 d13_2 e13_2 d13_3 e13_3 c13_0_0 c13_0_1 c13_0_2 c13_0_3 c13_0_4 c13_1_0 c13_1_1 c13_1_2 c13_1_3 c13_1_4 c13_2_0 c13_2_1 c13_2_2 c13_2_3 c13_2_4 c13_3_0 c13_3_1 c13_3_2 c13_3_3 c13_3_4 R13_RW R13_x0 R13_x1 R13_x2 R13_RG R13_y1 B13 st14 hb14
  go_wp2_with fail
  go_at_call 37
  refine (toStubS_any _ n2 Z2 _ (HA2.out.below B14.out) (by omega)).mono ?_
  rintro e w15 ⟨xy2, rfl, hr, hb15⟩
  have sz15 : w14.heap.size ≤ w15.heap.size := hb15.size
  have st15 : Below w14.heap.size w14 w15 := hb15
  have c15_0_0 : w15.cell? ⟨w.heap.size, 0, none⟩ = some (.int .i64 o0) := by rw [(bcell st15).1 _ _ (by omega)]; exact c14_0_0
  have c15_0_1 : w15.cell? ⟨w.heap.size, 1, none⟩ = some (.int .i64 s0) := by rw [(bcell st15).1 _ _ (by omega)]; exact c14_0_1
  have c15_0_2 : w15.cell? ⟨w.heap.size, 2, none⟩ = some (.int .i64 g0) := by rw [(bcell st15).1 _ _ (by omega)]; exact c14_0_2
  have c15_0_3 : w15.cell? ⟨w.heap.size, 3, none⟩ = some (.slice ad0 n0 cp0) := by rw [(bcell st15).1 _ _ (by omega)]; exact c14_0_3
  have c15_0_4 : w15.cell? ⟨w.heap.size, 4, none⟩ = some (.slice ae0 m0 cq0) := by rw [(bcell st15).1 _ _ (by omega)]; exact c14_0_4
  have c15_1_0 : w15.cell? ⟨w5.heap.size, 0, none⟩ = some (.int .i64 ro) := by rw [(bcell st15).1 _ _ (by omega)]; exact c14_1_0
  have c15_1_1 : w15.cell? ⟨w5.heap.size, 1, none⟩ = some (.int .i64 rs) := by rw [(bcell st15).1 _ _ (by omega)]; exact c14_1_1
  have c15_1_2 : w15.cell? ⟨w5.heap.size, 2, none⟩ = some (.int .i64 rg) := by rw [(bcell st15).1 _ _ (by omega)]; exact c14_1_2
  have c15_1_3 : w15.cell? ⟨w5.heap.size, 3, none⟩ = some ((.slice RWua nr RWuc)) := by rw [(bcell st15).1 _ _ (by omega)]; exact c14_1_3
  have c15_1_4 : w15.cell? ⟨w5.heap.size, 4, none⟩ = some ((.slice RWva mr RWvc)) := by rw [(bcell st15).1 _ _ (by omega)]; exact c14_1_4
  have c15_2_0 : w15.cell? ⟨w6.heap.size, 0, none⟩ = some (.int .i64 o0) := by rw [(bcell st15).1 _ _ (by omega)]; exact c14_2_0
  have c15_2_1 : w15.cell? ⟨w6.heap.size, 1, none⟩ = some (.int .i64 s0) := by rw [(bcell st15).1 _ _ (by omega)]; exact c14_2_1
  have c15_2_2 : w15.cell? ⟨w6.heap.size, 2, none⟩ = some (.int .i64 g0) := by rw [(bcell st15).1 _ _ (by omega)]; exact c14_2_2
  have c15_2_3 : w15.cell? ⟨w6.heap.size, 3, none⟩ = some ((.slice xx0a n0 xx0c)) := by rw [(bcell st15).1 _ _ (by omega)]; exact c14_2_3
  have c15_2_4 : w15.cell? ⟨w6.heap.size, 4, none⟩ = some ((.slice yx0a m0 yx0c)) := by rw [(bcell st15).1 _ _ (by omega)]; exact c14_2_4
  have c15_3_0 : w15.cell? ⟨w9.heap.size, 0, none⟩ = some (.int .i64 ro) := by rw [(bcell st15).1 _ _ (by omega)]; exact c14_3_0
  have c15_3_1 : w15.cell? ⟨w9.heap.size, 1, none⟩ = some (.int .i64 rs) := by rw [(bcell st15).1 _ _ (by omega)]; exact c14_3_1
  have c15_3_2 : w15.cell? ⟨w9.heap.size, 2, none⟩ = some (.int .i64 rg) := by rw [(bcell st15).1 _ _ (by omega)]; exact c14_3_2
  have c15_3_3 : w15.cell? ⟨w9.heap.size, 3, none⟩ = some ((.slice RGua nr RGuc)) := by rw [(bcell st15).1 _ _ (by omega)]; exact c14_3_3
  have c15_3_4 : w15.cell? ⟨w9.heap.size, 4, none⟩ = some ((.slice RGva mr RGvc)) := by rw [(bcell st15).1 _ _ (by omega)]; exact c14_3_4
  have B15 : Hid (Below w.heap.size w w15) := B14.out.trans (st15.mono (by omega))
  have R15_RW : Hid (LRow w15 (w4.heap.size) (w5.heap.size) (.slice RWua nr RWuc) (.slice RWva mr RWvc) nr mr YR ZR) := Lib.hid (R14_RW.out.below st15 (by omega))
  have R15_x0 : Hid (LRow w15 (w5.heap.size + 1) (w6.heap.size) (.slice xx0a n0 xx0c) (.slice yx0a m0 yx0c) n0 m0 (zs Y0 n0 2) (zs Z0 m0 3)) := Lib.hid (R14_x0.out.below st15 (by omega))
  have R15_x1 : Hid (Row 2 w15 (w6.heap.size + 1) (w7.heap.size) (.slice xx1a n1 xx1c) n1 (zs Z1 n1 2)) := Lib.hid (R14_x1.out.below st15 (by omega))
  have R15_x2 : Hid (Row 3 w15 (w7.heap.size) (w8.heap.size) (.slice xx2a n2 xx2c) n2 (zs Z2 n2 3)) := Lib.hid (R14_x2.out.below st15 (by omega))
  have R15_RG : Hid (LRow w15 (w8.heap.size) (w9.heap.size) (.slice RGua nr RGuc) (.slice RGva mr RGvc) nr mr YR ZR) := Lib.hid (R14_RG.out.below st15 (by omega))
  have R15_y2 : Hid (Row 3 w15 (w14.heap.size) (w15.heap.size) xy2 n2 (zs Z2 n2 3)) := Lib.hid (hr)
  have d15_0 : w.heap.size < w15.heap.size := by omega
  have e15_0 : w.heap.size ≠ w15.heap.size := by omega
  have d15_1 : w5.heap.size < w15.heap.size := by omega
  have e15_1 : w5.heap.size ≠ w15.heap.size := by omega
  have d15_2 : w6.heap.size < w15.heap.size := by omega
  have e15_2 : w6.heap.size ≠ w15.heap.size := by omega
  have d15_3 : w9.heap.size < w15.heap.size := by omega
  have e15_3 : w9.heap.size ≠ w15.heap.size := by omega
  clear d14_0 e14_0 d14_1 e14_1 d14_2 e14_2 d14_3 e14_3 c14_0_0 c14_0_1 c14_0_2 c14_0_3 c14_0_4 c14_1_0 c14_1_1 c14_1_2 c14_1_3 c14_1_4 c14_2_0 c14_2_1 c14_2_2 c14_2_3 c14_2_4 c14_3_0 c14_3_1 c14_3_2 c14_3_3 c14_3_4 R14_RW R14_x0 R14_x1 R14_x2 R14_RG B14 st15 hr hb15
  go_wp2_with fail
  go_at_call 40
  refine (eqStubS_same (zs Z2 n2 3) n2 _ _ _ _ _ _ _ R15_x2.out R15_y2.out (by omega) (by omega)).mono ?_
  rintro e w16 ⟨rfl, hb16⟩
  have sz16 : w15.heap.size ≤ w16.heap.size := hb16.size
  have st16 : Below w15.heap.size w15 w16 := hb16
  have c16_0_0 : w16.cell? ⟨w.heap.size, 0, none⟩ = some (.int .i64 o0) := by rw [(bcell st16).1 _ _ (by omega)]; exact c15_0_0
  have c16_0_1 : w16.cell? ⟨w.heap.size, 1, none⟩ = some (.int .i64 s0) := by rw [(bcell st16).1 _ _ (by omega)]; exact c15_0_1
  have c16_0_2 : w16.cell? ⟨w.heap.size, 2, none⟩ = some (.int .i64 g0) := by rw [(bcell st16).1 _ _ (by omega)]; exact c15_0_2
  have c16_0_3 : w16.cell? ⟨w.heap.size, 3, none⟩ = some (.slice ad0 n0 cp0) := by rw [(bcell st16).1 _ _ (by omega)]; exact c15_0_3
  have c16_0_4 : w16.cell? ⟨w.heap.size, 4, none⟩ = some (.slice ae0 m0 cq0) := by rw [(bcell st16).1 _ _ (by omega)]; exact c15_0_4
  have c16_1_0 : w16.cell? ⟨w5.heap.size, 0, none⟩ = some (.int .i64 ro) := by rw [(bcell st16).1 _ _ (by omega)]; exact c15_1_0
  have c16_1_1 : w16.cell? ⟨w5.heap.size, 1, none⟩ = some (.int .i64 rs) := by rw [(bcell st16).1 _ _ (by omega)]; exact c15_1_1
  have c16_1_2 : w16.cell? ⟨w5.heap.size, 2, none⟩ = some (.int .i64 rg) := by rw [(bcell st16).1 _ _ (by omega)]; exact c15_1_2
  have c16_1_3 : w16.cell? ⟨w5.heap.size, 3, none⟩ = some ((.slice RWua nr RWuc)) := by rw [(bcell st16).1 _ _ (by omega)]; exact c15_1_3
  have c16_1_4 : w16.cell? ⟨w5.heap.size, 4, none⟩ = some ((.slice RWva mr RWvc)) := by rw [(bcell st16).1 _ _ (by omega)]; exact c15_1_4
  have c16_2_0 : w16.cell? ⟨w6.heap.size, 0, none⟩ = some (.int .i64 o0) := by rw [(bcell st16).1 _ _ (by omega)]; exact c15_2_0
  have c16_2_1 : w16.cell? ⟨w6.heap.size, 1, none⟩ = some (.int .i64 s0) := by rw [(bcell st16).1 _ _ (by omega)]; exact c15_2_1
  have c16_2_2 : w16.cell? ⟨w6.heap.size, 2, none⟩ = some (.int .i64 g0) := by rw [(bcell st16).1 _ _ (by omega)]; exact c15_2_2
  have c16_2_3 : w16.cell? ⟨w6.heap.size, 3, none⟩ = some ((.slice xx0a n0 xx0c)) := by rw [(bcell st16).1 _ _ (by omega)]; exact c15_2_3
  have c16_2_4 : w16.cell? ⟨w6.heap.size, 4, none⟩ = some ((.slice yx0a m0 yx0c)) := by rw [(bcell st16).1 _ _ (by omega)]; exact c15_2_4
  have c16_3_0 : w16.cell? ⟨w9.heap.size, 0, none⟩ = some (.int .i64 ro) := by rw [(bcell st16).1 _ _ (by omega)]; exact c15_3_0
  have c16_3_1 : w16.cell? ⟨w9.heap.size, 1, none⟩ = some (.int .i64 rs) := by rw [(bcell st16).1 _ _ (by omega)]; exact c15_3_1
  have c16_3_2 : w16.cell? ⟨w9.heap.size, 2, none⟩ = some (.int .i64 rg) := by rw [(bcell st16).1 _ _ (by omega)]; exact c15_3_2
  have c16_3_3 : w16.cell? ⟨w9.heap.size, 3, none⟩ = some ((.slice RGua nr RGuc)) := by rw [(bcell st16).1 _ _ (by omega)]; exact c15_3_3
  have c16_3_4 : w16.cell? ⟨w9.heap.size, 4, none⟩ = some ((.slice RGva mr RGvc)) := by rw [(bcell st16).1 _ _ (by omega)]; exact c15_3_4
  have B16 : Hid (Below w.heap.size w w16) := B15.out.trans (st16.mono (by omega))
  have R16_RW : Hid (LRow w16 (w4.heap.size) (w5.heap.size) (.slice RWua nr RWuc) (.slice RWva mr RWvc) nr mr YR ZR) := Lib.hid (R15_RW.out.below st16 (by omega))
  have R16_x0 : Hid (LRow w16 (w5.heap.size + 1) (w6.heap.size) (.slice xx0a n0 xx0c) (.slice yx0a m0 yx0c) n0 m0 (zs Y0 n0 2) (zs Z0 m0 3)) := Lib.hid (R15_x0.out.below st16 (by omega))
  have R16_x1 : Hid (Row 2 w16 (w6.heap.size + 1) (w7.heap.size) (.slice xx1a n1 xx1c) n1 (zs Z1 n1 2)) := Lib.hid (R15_x1.out.below st16 (by omega))
  have R16_x2 : Hid (Row 3 w16 (w7.heap.size) (w8.heap.size) (.slice xx2a n2 xx2c) n2 (zs Z2 n2 3)) := Lib.hid (R15_x2.out.below st16 (by omega))
  have R16_RG : Hid (LRow w16 (w8.heap.size) (w9.heap.size) (.slice RGua nr RGuc) (.slice RGva mr RGvc) nr mr YR ZR) := Lib.hid (R15_RG.out.below st16 (by omega))
  have R16_y2 : Hid (Row 3 w16 (w14.heap.size) (w15.heap.size) xy2 n2 (zs Z2 n2 3)) := Lib.hid (R15_y2.out.below st16 (by omega))
  have d16_0 : w.heap.size < w16.heap.size := by omega
  have e16_0 : w.heap.size ≠ w16.heap.size := by omega
  have d16_1 : w5.heap.size < w16.heap.size := by omega
  have e16_1 : w5.heap.size ≠ w16.heap.size := by omega
  have d16_2 : w6.heap.size < w16.heap.size := by omega
  have e16_2 : w6.heap.size ≠ w16.heap.size := by omega
  have d16_3 : w9.heap.size < w16.heap.size := by omega
  have e16_3 : w9.heap.size ≠ w16.heap.size := by omega
  clear d15_0 e15_0 d15_1 e15_1 d15_2 e15_2 d15_3 e15_3 c15_0_0 c15_0_1 c15_0_2 c15_0_3 c15_0_4 c15_1_0 c15_1_1 c15_1_2 c15_1_3 c15_1_4 c15_2_0 c15_2_1 c15_2_2 c15_2_3 c15_2_4 c15_3_0 c15_3_1 c15_3_2 c15_3_3 c15_3_4 R15_RW R15_x0 R15_x1 R15_x2 R15_RG R15_y2 B15 st16 hb16
  go_wp2_with fail
  go_at_call 19
  refine (markLsa_K o0 s0 g0 KX0 (zs Y0 n0 2) (zs Z0 m0 3) n0 m0 _ _ _ _ _ HKX0.out R16_x0.out (by omega) (by omega) (by omega)).mono ?_
  rintro e w17 ⟨rfl, hr, hb17⟩
  have sz17 : w16.heap.size ≤ w17.heap.size := hb17.size
  have c17_0_0 : w17.cell? ⟨w.heap.size, 0, none⟩ = some (.int .i64 o0) := by rw [hb17.cell (by omega) (by omega)]; exact c16_0_0
  have c17_0_1 : w17.cell? ⟨w.heap.size, 1, none⟩ = some (.int .i64 s0) := by rw [hb17.cell (by omega) (by omega)]; exact c16_0_1
  have c17_0_2 : w17.cell? ⟨w.heap.size, 2, none⟩ = some (.int .i64 g0) := by rw [hb17.cell (by omega) (by omega)]; exact c16_0_2
  have c17_0_3 : w17.cell? ⟨w.heap.size, 3, none⟩ = some (.slice ad0 n0 cp0) := by rw [hb17.cell (by omega) (by omega)]; exact c16_0_3
  have c17_0_4 : w17.cell? ⟨w.heap.size, 4, none⟩ = some (.slice ae0 m0 cq0) := by rw [hb17.cell (by omega) (by omega)]; exact c16_0_4
  have c17_1_0 : w17.cell? ⟨w5.heap.size, 0, none⟩ = some (.int .i64 ro) := by rw [hb17.cell (by omega) (by omega)]; exact c16_1_0
  have c17_1_1 : w17.cell? ⟨w5.heap.size, 1, none⟩ = some (.int .i64 rs) := by rw [hb17.cell (by omega) (by omega)]; exact c16_1_1
  have c17_1_2 : w17.cell? ⟨w5.heap.size, 2, none⟩ = some (.int .i64 rg) := by rw [hb17.cell (by omega) (by omega)]; exact c16_1_2
  have c17_1_3 : w17.cell? ⟨w5.heap.size, 3, none⟩ = some ((.slice RWua nr RWuc)) := by rw [hb17.cell (by omega) (by omega)]; exact c16_1_3
  have c17_1_4 : w17.cell? ⟨w5.heap.size, 4, none⟩ = some ((.slice RWva mr RWvc)) := by rw [hb17.cell (by omega) (by omega)]; exact c16_1_4
  have c17_2_0 : w17.cell? ⟨w6.heap.size, 0, none⟩ = some (.int .i64 o0) := by rw [hb17.cell (by omega) (by omega)]; exact c16_2_0
  have c17_2_1 : w17.cell? ⟨w6.heap.size, 1, none⟩ = some (.int .i64 s0) := by rw [hb17.cell (by omega) (by omega)]; exact c16_2_1
  have c17_2_2 : w17.cell? ⟨w6.heap.size, 2, none⟩ = some (.int .i64 g0) := by rw [hb17.cell (by omega) (by omega)]; exact c16_2_2
  have c17_2_3 : w17.cell? ⟨w6.heap.size, 3, none⟩ = some ((.slice xx0a n0 xx0c)) := by rw [hb17.cell (by omega) (by omega)]; exact c16_2_3
  have c17_2_4 : w17.cell? ⟨w6.heap.size, 4, none⟩ = some ((.slice yx0a m0 yx0c)) := by rw [hb17.cell (by omega) (by omega)]; exact c16_2_4
  have c17_3_0 : w17.cell? ⟨w9.heap.size, 0, none⟩ = some (.int .i64 ro) := by rw [hb17.cell (by omega) (by omega)]; exact c16_3_0
  have c17_3_1 : w17.cell? ⟨w9.heap.size, 1, none⟩ = some (.int .i64 rs) := by rw [hb17.cell (by omega) (by omega)]; exact c16_3_1
  have c17_3_2 : w17.cell? ⟨w9.heap.size, 2, none⟩ = some (.int .i64 rg) := by rw [hb17.cell (by omega) (by omega)]; exact c16_3_2
  have c17_3_3 : w17.cell? ⟨w9.heap.size, 3, none⟩ = some ((.slice RGua nr RGuc)) := by rw [hb17.cell (by omega) (by omega)]; exact c16_3_3
  have c17_3_4 : w17.cell? ⟨w9.heap.size, 4, none⟩ = some ((.slice RGva mr RGvc)) := by rw [hb17.cell (by omega) (by omega)]; exact c16_3_4
  have B17 : Hid (Below w.heap.size w w17) := B16.out.trans (hb17.below (by omega) (by omega))
  have R17_RW : Hid (LRow w17 (w4.heap.size) (w5.heap.size) (.slice RWua nr RWuc) (.slice RWva mr RWvc) nr mr YR ZR) := Lib.hid (hb17.lrow R16_RW.out (by omega) (by omega))
  have R17_x1 : Hid (Row 2 w17 (w6.heap.size + 1) (w7.heap.size) (.slice xx1a n1 xx1c) n1 (zs Z1 n1 2)) := Lib.hid (hb17.row R16_x1.out (by omega) (by omega))
  have R17_x2 : Hid (Row 3 w17 (w7.heap.size) (w8.heap.size) (.slice xx2a n2 xx2c) n2 (zs Z2 n2 3)) := Lib.hid (hb17.row R16_x2.out (by omega) (by omega))
  have R17_RG : Hid (LRow w17 (w8.heap.size) (w9.heap.size) (.slice RGua nr RGuc) (.slice RGva mr RGvc) nr mr YR ZR) := Lib.hid (hb17.lrow R16_RG.out (by omega) (by omega))
  have R17_x0 : Hid (LRow w17 (w5.heap.size + 1) (w6.heap.size) (.slice xx0a n0 xx0c) (.slice yx0a m0 yx0c) n0 m0 (lmY n0) (lmZ n0 m0)) := Lib.hid (hr)
  have d17_0 : w.heap.size < w17.heap.size := by omega
  have e17_0 : w.heap.size ≠ w17.heap.size := by omega
  have d17_1 : w5.heap.size < w17.heap.size := by omega
  have e17_1 : w5.heap.size ≠ w17.heap.size := by omega
  have d17_2 : w6.heap.size < w17.heap.size := by omega
  have e17_2 : w6.heap.size ≠ w17.heap.size := by omega
  have d17_3 : w9.heap.size < w17.heap.size := by omega
  have e17_3 : w9.heap.size ≠ w17.heap.size := by omega
  clear d16_0 e16_0 d16_1 e16_1 d16_2 e16_2 d16_3 e16_3 c16_0_0 c16_0_1 c16_0_2 c16_0_3 c16_0_4 c16_1_0 c16_1_1 c16_1_2 c16_1_3 c16_1_4 c16_2_0 c16_2_1 c16_2_2 c16_2_3 c16_2_4 c16_3_0 c16_3_1 c16_3_2 c16_3_3 c16_3_4 R16_RW R16_x0 R16_x1 R16_x2 R16_RG B16 hr hb17
  go_wp2_with fail
  go_at_call 41
  refine (markLinkS_K2 KX1 KX0 (zs Z1 n1 2) n1 _ _ _ _ HKX1.out R17_x1.out (by omega) hKX00 (by omega)).mono ?_
  rintro e w18 ⟨rfl, hr, hb18⟩
  have sz18 : w17.heap.size ≤ w18.heap.size := hb18.size
  have c18_0_0 : w18.cell? ⟨w.heap.size, 0, none⟩ = some (.int .i64 o0) := by rw [hb18.cell (by omega) (by omega)]; exact c17_0_0
  have c18_0_1 : w18.cell? ⟨w.heap.size, 1, none⟩ = some (.int .i64 s0) := by rw [hb18.cell (by omega) (by omega)]; exact c17_0_1
  have c18_0_2 : w18.cell? ⟨w.heap.size, 2, none⟩ = some (.int .i64 g0) := by rw [hb18.cell (by omega) (by omega)]; exact c17_0_2
  have c18_0_3 : w18.cell? ⟨w.heap.size, 3, none⟩ = some (.slice ad0 n0 cp0) := by rw [hb18.cell (by omega) (by omega)]; exact c17_0_3
  have c18_0_4 : w18.cell? ⟨w.heap.size, 4, none⟩ = some (.slice ae0 m0 cq0) := by rw [hb18.cell (by omega) (by omega)]; exact c17_0_4
  have c18_1_0 : w18.cell? ⟨w5.heap.size, 0, none⟩ = some (.int .i64 ro) := by rw [hb18.cell (by omega) (by omega)]; exact c17_1_0
  have c18_1_1 : w18.cell? ⟨w5.heap.size, 1, none⟩ = some (.int .i64 rs) := by rw [hb18.cell (by omega) (by omega)]; exact c17_1_1
  have c18_1_2 : w18.cell? ⟨w5.heap.size, 2, none⟩ = some (.int .i64 rg) := by rw [hb18.cell (by omega) (by omega)]; exact c17_1_2
  have c18_1_3 : w18.cell? ⟨w5.heap.size, 3, none⟩ = some ((.slice RWua nr RWuc)) := by rw [hb18.cell (by omega) (by omega)]; exact c17_1_3
  have c18_1_4 : w18.cell? ⟨w5.heap.size, 4, none⟩ = some ((.slice RWva mr RWvc)) := by rw [hb18.cell (by omega) (by omega)]; exact c17_1_4
  have c18_2_0 : w18.cell? ⟨w6.heap.size, 0, none⟩ = some (.int .i64 o0) := by rw [hb18.cell (by omega) (by omega)]; exact c17_2_0
  have c18_2_1 : w18.cell? ⟨w6.heap.size, 1, none⟩ = some (.int .i64 s0) := by rw [hb18.cell (by omega) (by omega)]; exact c17_2_1
  have c18_2_2 : w18.cell? ⟨w6.heap.size, 2, none⟩ = some (.int .i64 g0) := by rw [hb18.cell (by omega) (by omega)]; exact c17_2_2
  have c18_2_3 : w18.cell? ⟨w6.heap.size, 3, none⟩ = some ((.slice xx0a n0 xx0c)) := by rw [hb18.cell (by omega) (by omega)]; exact c17_2_3
  have c18_2_4 : w18.cell? ⟨w6.heap.size, 4, none⟩ = some ((.slice yx0a m0 yx0c)) := by rw [hb18.cell (by omega) (by omega)]; exact c17_2_4
  have c18_3_0 : w18.cell? ⟨w9.heap.size, 0, none⟩ = some (.int .i64 ro) := by rw [hb18.cell (by omega) (by omega)]; exact c17_3_0
  have c18_3_1 : w18.cell? ⟨w9.heap.size, 1, none⟩ = some (.int .i64 rs) := by rw [hb18.cell (by omega) (by omega)]; exact c17_3_1
  have c18_3_2 : w18.cell? ⟨w9.heap.size, 2, none⟩ = some (.int .i64 rg) := by rw [hb18.cell (by omega) (by omega)]; exact c17_3_2
  have c18_3_3 : w18.cell? ⟨w9.heap.size, 3, none⟩ = some ((.slice RGua nr RGuc)) := by rw [hb18.cell (by omega) (by omega)]; exact c17_3_3
  have c18_3_4 : w18.cell? ⟨w9.heap.size, 4, none⟩ = some ((.slice RGva mr RGvc)) := by rw [hb18.cell (by omega) (by omega)]; exact c17_3_4
  have B18 : Hid (Below w.heap.size w w18) := B17.out.trans (hb18.below (by omega) (by omega))
  have R18_RW : Hid (LRow w18 (w4.heap.size) (w5.heap.size) (.slice RWua nr RWuc) (.slice RWva mr RWvc) nr mr YR ZR) := Lib.hid (hb18.lrow R17_RW.out (by omega) (by omega))
  have R18_x2 : Hid (Row 3 w18 (w7.heap.size) (w8.heap.size) (.slice xx2a n2 xx2c) n2 (zs Z2 n2 3)) := Lib.hid (hb18.row R17_x2.out (by omega) (by omega))
  have R18_RG : Hid (LRow w18 (w8.heap.size) (w9.heap.size) (.slice RGua nr RGuc) (.slice RGva mr RGvc) nr mr YR ZR) := Lib.hid (hb18.lrow R17_RG.out (by omega) (by omega))
  have R18_x0 : Hid (LRow w18 (w5.heap.size + 1) (w6.heap.size) (.slice xx0a n0 xx0c) (.slice yx0a m0 yx0c) n0 m0 (lmY n0) (lmZ n0 m0)) := Lib.hid (hb18.lrow R17_x0.out (by omega) (by omega))
  have R18_x1 : Hid (Row 2 w18 (w6.heap.size + 1) (w7.heap.size) (.slice xx1a n1 xx1c) n1 (marks KX0 (n1 * 2))) := Lib.hid (hr)
  have d18_0 : w.heap.size < w18.heap.size := by omega
  have e18_0 : w.heap.size ≠ w18.heap.size := by omega
  have d18_1 : w5.heap.size < w18.heap.size := by omega
  have e18_1 : w5.heap.size ≠ w18.heap.size := by omega
  have d18_2 : w6.heap.size < w18.heap.size := by omega
  have e18_2 : w6.heap.size ≠ w18.heap.size := by omega
  have d18_3 : w9.heap.size < w18.heap.size := by omega
  have e18_3 : w9.heap.size ≠ w18.heap.size := by omega
  clear d17_0 e17_0 d17_1 e17_1 d17_2 e17_2 d17_3 e17_3 c17_0_0 c17_0_1 c17_0_2 c17_0_3 c17_0_4 c17_1_0 c17_1_1 c17_1_2 c17_1_3 c17_1_4 c17_2_0 c17_2_1 c17_2_2 c17_2_3 c17_2_4 c17_3_0 c17_3_1 c17_3_2 c17_3_3 c17_3_4 R17_RW R17_x1 R17_x2 R17_RG R17_x0 B17 hr hb18
  go_wp2_with fail
  go_at_call 42
  refine (markStubS_K2 KX2 KX1 (zs Z2 n2 3) n2 _ _ _ _ HKX2.out R18_x2.out (by omega) hKX10 (by omega)).mono ?_
  rintro e w19 ⟨rfl, hr, hb19⟩
  have sz19 : w18.heap.size ≤ w19.heap.size := hb19.size
  have c19_0_0 : w19.cell? ⟨w.heap.size, 0, none⟩ = some (.int .i64 o0) := by rw [hb19.cell (by omega) (by omega)]; exact c18_0_0
  have c19_0_1 : w19.cell? ⟨w.heap.size, 1, none⟩ = some (.int .i64 s0) := by rw [hb19.cell (by omega) (by omega)]; exact c18_0_1
  have c19_0_2 : w19.cell? ⟨w.heap.size, 2, none⟩ = some (.int .i64 g0) := by rw [hb19.cell (by omega) (by omega)]; exact c18_0_2
  have c19_0_3 : w19.cell? ⟨w.heap.size, 3, none⟩ = some (.slice ad0 n0 cp0) := by rw [hb19.cell (by omega) (by omega)]; exact c18_0_3
  have c19_0_4 : w19.cell? ⟨w.heap.size, 4, none⟩ = some (.slice ae0 m0 cq0) := by rw [hb19.cell (by omega) (by omega)]; exact c18_0_4
  have c19_1_0 : w19.cell? ⟨w5.heap.size, 0, none⟩ = some (.int .i64 ro) := by rw [hb19.cell (by omega) (by omega)]; exact c18_1_0
  have c19_1_1 : w19.cell? ⟨w5.heap.size, 1, none⟩ = some (.int .i64 rs) := by rw [hb19.cell (by omega) (by omega)]; exact c18_1_1
  have c19_1_2 : w19.cell? ⟨w5.heap.size, 2, none⟩ = some (.int .i64 rg) := by rw [hb19.cell (by omega) (by omega)]; exact c18_1_2
  have c19_1_3 : w19.cell? ⟨w5.heap.size, 3, none⟩ = some ((.slice RWua nr RWuc)) := by rw [hb19.cell (by omega) (by omega)]; exact c18_1_3
  have c19_1_4 : w19.cell? ⟨w5.heap.size, 4, none⟩ = some ((.slice RWva mr RWvc)) := by rw [hb19.cell (by omega) (by omega)]; exact c18_1_4
  have c19_2_0 : w19.cell? ⟨w6.heap.size, 0, none⟩ = some (.int .i64 o0) := by rw [hb19.cell (by omega) (by omega)]; exact c18_2_0
  have c19_2_1 : w19.cell? ⟨w6.heap.size, 1, none⟩ = some (.int .i64 s0) := by rw [hb19.cell (by omega) (by omega)]; exact c18_2_1
  have c19_2_2 : w19.cell? ⟨w6.heap.size, 2, none⟩ = some (.int .i64 g0) := by rw [hb19.cell (by omega) (by omega)]; exact c18_2_2
  have c19_2_3 : w19.cell? ⟨w6.heap.size, 3, none⟩ = some ((.slice xx0a n0 xx0c)) := by rw [hb19.cell (by omega) (by omega)]; exact c18_2_3
  have c19_2_4 : w19.cell? ⟨w6.heap.size, 4, none⟩ = some ((.slice yx0a m0 yx0c)) := by rw [hb19.cell (by omega) (by omega)]; exact c18_2_4
  have c19_3_0 : w19.cell? ⟨w9.heap.size, 0, none⟩ = some (.int .i64 ro) := by rw [hb19.cell (by omega) (by omega)]; exact c18_3_0
  have c19_3_1 : w19.cell? ⟨w9.heap.size, 1, none⟩ = some (.int .i64 rs) := by rw [hb19.cell (by omega) (by omega)]; exact c18_3_1
  have c19_3_2 : w19.cell? ⟨w9.heap.size, 2, none⟩ = some (.int .i64 rg) := by rw [hb19.cell (by omega) (by omega)]; exact c18_3_2
  have c19_3_3 : w19.cell? ⟨w9.heap.size, 3, none⟩ = some ((.slice RGua nr RGuc)) := by rw [hb19.cell (by omega) (by omega)]; exact c18_3_3
  have c19_3_4 : w19.cell? ⟨w9.heap.size, 4, none⟩ = some ((.slice RGva mr RGvc)) := by rw [hb19.cell (by omega) (by omega)]; exact c18_3_4
  have B19 : Hid (Below w.heap.size w w19) := B18.out.trans (hb19.below (by omega) (by omega))
  have R19_RW : Hid (LRow w19 (w4.heap.size) (w5.heap.size) (.slice RWua nr RWuc) (.slice RWva mr RWvc) nr mr YR ZR) := Lib.hid (hb19.lrow R18_RW.out (by omega) (by omega))
  have R19_RG : Hid (LRow w19 (w8.heap.size) (w9.heap.size) (.slice RGua nr RGuc) (.slice RGva mr RGvc) nr mr YR ZR) := Lib.hid (hb19.lrow R18_RG.out (by omega) (by omega))
  have R19_x0 : Hid (LRow w19 (w5.heap.size + 1) (w6.heap.size) (.slice xx0a n0 xx0c) (.slice yx0a m0 yx0c) n0 m0 (lmY n0) (lmZ n0 m0)) := Lib.hid (hb19.lrow R18_x0.out (by omega) (by omega))
  have R19_x1 : Hid (Row 2 w19 (w6.heap.size + 1) (w7.heap.size) (.slice xx1a n1 xx1c) n1 (marks KX0 (n1 * 2))) := Lib.hid (hb19.row R18_x1.out (by omega) (by omega))
  have R19_x2 : Hid (Row 3 w19 (w7.heap.size) (w8.heap.size) (.slice xx2a n2 xx2c) n2 (marks KX1 (n2 * 3))) := Lib.hid (hr)
  have d19_0 : w.heap.size < w19.heap.size := by omega
  have e19_0 : w.heap.size ≠ w19.heap.size := by omega
  have d19_1 : w5.heap.size < w19.heap.size := by omega
  have e19_1 : w5.heap.size ≠ w19.heap.size := by omega
  have d19_2 : w6.heap.size < w19.heap.size := by omega
  have e19_2 : w6.heap.size ≠ w19.heap.size := by omega
  have d19_3 : w9.heap.size < w19.heap.size := by omega
  have e19_3 : w9.heap.size ≠ w19.heap.size := by omega
  clear d18_0 e18_0 d18_1 e18_1 d18_2 e18_2 d18_3 e18_3 c18_0_0 c18_0_1 c18_0_2 c18_0_3 c18_0_4 c18_1_0 c18_1_1 c18_1_2 c18_1_3 c18_1_4 c18_2_0 c18_2_1 c18_2_2 c18_2_3 c18_2_4 c18_3_0 c18_3_1 c18_3_2 c18_3_3 c18_3_4 R18_RW R18_x2 R18_RG R18_x0 R18_x1 B18 hr hb19
  go_wp2_with fail
  go_at_call 15
  refine (eqLsa_same ro rs rg YR ZR nr mr _ _ _ _ _ _ _ _ _ R19_RG.out R19_RW.out (by first | omega | (simp; omega) | simp) (by first | omega | (simp; omega) | simp)).mono ?_
  rintro e w20 ⟨rfl, hb20⟩
  have sz20 : w19.heap.size ≤ w20.heap.size := hb20.size
  have st20 : Below w19.heap.size w19 w20 := hb20
  have c20_0_0 : w20.cell? ⟨w.heap.size, 0, none⟩ = some (.int .i64 o0) := by rw [(bcell st20).1 _ _ (by omega)]; exact c19_0_0
  have c20_0_1 : w20.cell? ⟨w.heap.size, 1, none⟩ = some (.int .i64 s0) := by rw [(bcell st20).1 _ _ (by omega)]; exact c19_0_1
  have c20_0_2 : w20.cell? ⟨w.heap.size, 2, none⟩ = some (.int .i64 g0) := by rw [(bcell st20).1 _ _ (by omega)]; exact c19_0_2
  have c20_0_3 : w20.cell? ⟨w.heap.size, 3, none⟩ = some (.slice ad0 n0 cp0) := by rw [(bcell st20).1 _ _ (by omega)]; exact c19_0_3
  have c20_0_4 : w20.cell? ⟨w.heap.size, 4, none⟩ = some (.slice ae0 m0 cq0) := by rw [(bcell st20).1 _ _ (by omega)]; exact c19_0_4
  have c20_1_0 : w20.cell? ⟨w5.heap.size, 0, none⟩ = some (.int .i64 ro) := by rw [(bcell st20).1 _ _ (by omega)]; exact c19_1_0
  have c20_1_1 : w20.cell? ⟨w5.heap.size, 1, none⟩ = some (.int .i64 rs) := by rw [(bcell st20).1 _ _ (by omega)]; exact c19_1_1
  have c20_1_2 : w20.cell? ⟨w5.heap.size, 2, none⟩ = some (.int .i64 rg) := by rw [(bcell st20).1 _ _ (by omega)]; exact c19_1_2
  have c20_1_3 : w20.cell? ⟨w5.heap.size, 3, none⟩ = some ((.slice RWua nr RWuc)) := by rw [(bcell st20).1 _ _ (by omega)]; exact c19_1_3
  have c20_1_4 : w20.cell? ⟨w5.heap.size, 4, none⟩ = some ((.slice RWva mr RWvc)) := by rw [(bcell st20).1 _ _ (by omega)]; exact c19_1_4
  have c20_2_0 : w20.cell? ⟨w6.heap.size, 0, none⟩ = some (.int .i64 o0) := by rw [(bcell st20).1 _ _ (by omega)]; exact c19_2_0
  have c20_2_1 : w20.cell? ⟨w6.heap.size, 1, none⟩ = some (.int .i64 s0) := by rw [(bcell st20).1 _ _ (by omega)]; exact c19_2_1
  have c20_2_2 : w20.cell? ⟨w6.heap.size, 2, none⟩ = some (.int .i64 g0) := by rw [(bcell st20).1 _ _ (by omega)]; exact c19_2_2
  have c20_2_3 : w20.cell? ⟨w6.heap.size, 3, none⟩ = some ((.slice xx0a n0 xx0c)) := by rw [(bcell st20).1 _ _ (by omega)]; exact c19_2_3
  have c20_2_4 : w20.cell? ⟨w6.heap.size, 4, none⟩ = some ((.slice yx0a m0 yx0c)) := by rw [(bcell st20).1 _ _ (by omega)]; exact c19_2_4
  have c20_3_0 : w20.cell? ⟨w9.heap.size, 0, none⟩ = some (.int .i64 ro) := by rw [(bcell st20).1 _ _ (by omega)]; exact c19_3_0
  have c20_3_1 : w20.cell? ⟨w9.heap.size, 1, none⟩ = some (.int .i64 rs) := by rw [(bcell st20).1 _ _ (by omega)]; exact c19_3_1
  have c20_3_2 : w20.cell? ⟨w9.heap.size, 2, none⟩ = some (.int .i64 rg) := by rw [(bcell st20).1 _ _ (by omega)]; exact c19_3_2
  have c20_3_3 : w20.cell? ⟨w9.heap.size, 3, none⟩ = some ((.slice RGua nr RGuc)) := by rw [(bcell st20).1 _ _ (by omega)]; exact c19_3_3
  have c20_3_4 : w20.cell? ⟨w9.heap.size, 4, none⟩ = some ((.slice RGva mr RGvc)) := by rw [(bcell st20).1 _ _ (by omega)]; exact c19_3_4
  have B20 : Hid (Below w.heap.size w w20) := B19.out.trans (st20.mono (by omega))
  have R20_RW : Hid (LRow w20 (w4.heap.size) (w5.heap.size) (.slice RWua nr RWuc) (.slice RWva mr RWvc) nr mr YR ZR) := Lib.hid (R19_RW.out.below st20 (by omega))
  have R20_RG : Hid (LRow w20 (w8.heap.size) (w9.heap.size) (.slice RGua nr RGuc) (.slice RGva mr RGvc) nr mr YR ZR) := Lib.hid (R19_RG.out.below st20 (by omega))
  have R20_x0 : Hid (LRow w20 (w5.heap.size + 1) (w6.heap.size) (.slice xx0a n0 xx0c) (.slice yx0a m0 yx0c) n0 m0 (lmY n0) (lmZ n0 m0)) := Lib.hid (R19_x0.out.below st20 (by omega))
  have R20_x1 : Hid (Row 2 w20 (w6.heap.size + 1) (w7.heap.size) (.slice xx1a n1 xx1c) n1 (marks KX0 (n1 * 2))) := Lib.hid (R19_x1.out.below st20 (by omega))
  have R20_x2 : Hid (Row 3 w20 (w7.heap.size) (w8.heap.size) (.slice xx2a n2 xx2c) n2 (marks KX1 (n2 * 3))) := Lib.hid (R19_x2.out.below st20 (by omega))
  have d20_0 : w.heap.size < w20.heap.size := by omega
  have e20_0 : w.heap.size ≠ w20.heap.size := by omega
  have d20_1 : w5.heap.size < w20.heap.size := by omega
  have e20_1 : w5.heap.size ≠ w20.heap.size := by omega
  have d20_2 : w6.heap.size < w20.heap.size := by omega
  have e20_2 : w6.heap.size ≠ w20.heap.size := by omega
  have d20_3 : w9.heap.size < w20.heap.size := by omega
  have e20_3 : w9.heap.size ≠ w20.heap.size := by omega
  clear d19_0 e19_0 d19_1 e19_1 d19_2 e19_2 d19_3 e19_3 c19_0_0 c19_0_1 c19_0_2 c19_0_3 c19_0_4 c19_1_0 c19_1_1 c19_1_2 c19_1_3 c19_1_4 c19_2_0 c19_2_1 c19_2_2 c19_2_3 c19_2_4 c19_3_0 c19_3_1 c19_3_2 c19_3_3 c19_3_4 R19_RW R19_RG R19_x0 R19_x1 R19_x2 B19 st20 hb20
  go_wp2_with fail
  go_at_call 19
  refine (markLsa_K ro rs rg KG YR ZR nr mr _ _ _ _ _ HKG.out R20_RG.out (by omega) (by omega) (by omega)).mono ?_
  rintro e w21 ⟨rfl, hr, hb21⟩
  have sz21 : w20.heap.size ≤ w21.heap.size := hb21.size
  have c21_0_0 : w21.cell? ⟨w.heap.size, 0, none⟩ = some (.int .i64 o0) := by rw [hb21.cell (by omega) (by omega)]; exact c20_0_0
  have c21_0_1 : w21.cell? ⟨w.heap.size, 1, none⟩ = some (.int .i64 s0) := by rw [hb21.cell (by omega) (by omega)]; exact c20_0_1
  have c21_0_2 : w21.cell? ⟨w.heap.size, 2, none⟩ = some (.int .i64 g0) := by rw [hb21.cell (by omega) (by omega)]; exact c20_0_2
  have c21_0_3 : w21.cell? ⟨w.heap.size, 3, none⟩ = some (.slice ad0 n0 cp0) := by rw [hb21.cell (by omega) (by omega)]; exact c20_0_3
  have c21_0_4 : w21.cell? ⟨w.heap.size, 4, none⟩ = some (.slice ae0 m0 cq0) := by rw [hb21.cell (by omega) (by omega)]; exact c20_0_4
  have c21_1_0 : w21.cell? ⟨w5.heap.size, 0, none⟩ = some (.int .i64 ro) := by rw [hb21.cell (by omega) (by omega)]; exact c20_1_0
  have c21_1_1 : w21.cell? ⟨w5.heap.size, 1, none⟩ = some (.int .i64 rs) := by rw [hb21.cell (by omega) (by omega)]; exact c20_1_1
  have c21_1_2 : w21.cell? ⟨w5.heap.size, 2, none⟩ = some (.int .i64 rg) := by rw [hb21.cell (by omega) (by omega)]; exact c20_1_2
  have c21_1_3 : w21.cell? ⟨w5.heap.size, 3, none⟩ = some ((.slice RWua nr RWuc)) := by rw [hb21.cell (by omega) (by omega)]; exact c20_1_3
  have c21_1_4 : w21.cell? ⟨w5.heap.size, 4, none⟩ = some ((.slice RWva mr RWvc)) := by rw [hb21.cell (by omega) (by omega)]; exact c20_1_4
  have c21_2_0 : w21.cell? ⟨w6.heap.size, 0, none⟩ = some (.int .i64 o0) := by rw [hb21.cell (by omega) (by omega)]; exact c20_2_0
  have c21_2_1 : w21.cell? ⟨w6.heap.size, 1, none⟩ = some (.int .i64 s0) := by rw [hb21.cell (by omega) (by omega)]; exact c20_2_1
  have c21_2_2 : w21.cell? ⟨w6.heap.size, 2, none⟩ = some (.int .i64 g0) := by rw [hb21.cell (by omega) (by omega)]; exact c20_2_2
  have c21_2_3 : w21.cell? ⟨w6.heap.size, 3, none⟩ = some ((.slice xx0a n0 xx0c)) := by rw [hb21.cell (by omega) (by omega)]; exact c20_2_3
  have c21_2_4 : w21.cell? ⟨w6.heap.size, 4, none⟩ = some ((.slice yx0a m0 yx0c)) := by rw [hb21.cell (by omega) (by omega)]; exact c20_2_4
  have c21_3_0 : w21.cell? ⟨w9.heap.size, 0, none⟩ = some (.int .i64 ro) := by rw [hb21.cell (by omega) (by omega)]; exact c20_3_0
  have c21_3_1 : w21.cell? ⟨w9.heap.size, 1, none⟩ = some (.int .i64 rs) := by rw [hb21.cell (by omega) (by omega)]; exact c20_3_1
  have c21_3_2 : w21.cell? ⟨w9.heap.size, 2, none⟩ = some (.int .i64 rg) := by rw [hb21.cell (by omega) (by omega)]; exact c20_3_2
  have c21_3_3 : w21.cell? ⟨w9.heap.size, 3, none⟩ = some ((.slice RGua nr RGuc)) := by rw [hb21.cell (by omega) (by omega)]; exact c20_3_3
  have c21_3_4 : w21.cell? ⟨w9.heap.size, 4, none⟩ = some ((.slice RGva mr RGvc)) := by rw [hb21.cell (by omega) (by omega)]; exact c20_3_4
  have B21 : Hid (Below w.heap.size w w21) := B20.out.trans (hb21.below (by omega) (by omega))
  have R21_RW : Hid (LRow w21 (w4.heap.size) (w5.heap.size) (.slice RWua nr RWuc) (.slice RWva mr RWvc) nr mr YR ZR) := Lib.hid (hb21.lrow R20_RW.out (by omega) (by omega))
  have R21_x0 : Hid (LRow w21 (w5.heap.size + 1) (w6.heap.size) (.slice xx0a n0 xx0c) (.slice yx0a m0 yx0c) n0 m0 (lmY n0) (lmZ n0 m0)) := Lib.hid (hb21.lrow R20_x0.out (by omega) (by omega))
  have R21_x1 : Hid (Row 2 w21 (w6.heap.size + 1) (w7.heap.size) (.slice xx1a n1 xx1c) n1 (marks KX0 (n1 * 2))) := Lib.hid (hb21.row R20_x1.out (by omega) (by omega))
  have R21_x2 : Hid (Row 3 w21 (w7.heap.size) (w8.heap.size) (.slice xx2a n2 xx2c) n2 (marks KX1 (n2 * 3))) := Lib.hid (hb21.row R20_x2.out (by omega) (by omega))
  have R21_RG : Hid (LRow w21 (w8.heap.size) (w9.heap.size) (.slice RGua nr RGuc) (.slice RGva mr RGvc) nr mr (lmY nr) (lmZ nr mr)) := Lib.hid (hr)
  have d21_0 : w.heap.size < w21.heap.size := by omega
  have e21_0 : w.heap.size ≠ w21.heap.size := by omega
  have d21_1 : w5.heap.size < w21.heap.size := by omega
  have e21_1 : w5.heap.size ≠ w21.heap.size := by omega
  have d21_2 : w6.heap.size < w21.heap.size := by omega
  have e21_2 : w6.heap.size ≠ w21.heap.size := by omega
  have d21_3 : w9.heap.size < w21.heap.size := by omega
  have e21_3 : w9.heap.size ≠ w21.heap.size := by omega
  clear d20_0 e20_0 d20_1 e20_1 d20_2 e20_2 d20_3 e20_3 c20_0_0 c20_0_1 c20_0_2 c20_0_3 c20_0_4 c20_1_0 c20_1_1 c20_1_2 c20_1_3 c20_1_4 c20_2_0 c20_2_1 c20_2_2 c20_2_3 c20_2_4 c20_3_0 c20_3_1 c20_3_2 c20_3_3 c20_3_4 R20_RW R20_RG R20_x0 R20_x1 R20_x2 B20 hr hb21
  go_wp2_with fail
  go_at_call 30
  refine (heldLsa_K ro rs rg KG nr mr _ _ _ _ _ HKG.out R21_RG.out (by omega) (by omega) (by omega)).mono ?_
  rintro e w22 ⟨rfl, hb22⟩
  have sz22 : w21.heap.size ≤ w22.heap.size := hb22.size
  have st22 : Below w21.heap.size w21 w22 := hb22
  have c22_0_0 : w22.cell? ⟨w.heap.size, 0, none⟩ = some (.int .i64 o0) := by rw [(bcell st22).1 _ _ (by omega)]; exact c21_0_0
  have c22_0_1 : w22.cell? ⟨w.heap.size, 1, none⟩ = some (.int .i64 s0) := by rw [(bcell st22).1 _ _ (by omega)]; exact c21_0_1
  have c22_0_2 : w22.cell? ⟨w.heap.size, 2, none⟩ = some (.int .i64 g0) := by rw [(bcell st22).1 _ _ (by omega)]; exact c21_0_2
  have c22_0_3 : w22.cell? ⟨w.heap.size, 3, none⟩ = some (.slice ad0 n0 cp0) := by rw [(bcell st22).1 _ _ (by omega)]; exact c21_0_3
  have c22_0_4 : w22.cell? ⟨w.heap.size, 4, none⟩ = some (.slice ae0 m0 cq0) := by rw [(bcell st22).1 _ _ (by omega)]; exact c21_0_4
  have c22_1_0 : w22.cell? ⟨w5.heap.size, 0, none⟩ = some (.int .i64 ro) := by rw [(bcell st22).1 _ _ (by omega)]; exact c21_1_0
  have c22_1_1 : w22.cell? ⟨w5.heap.size, 1, none⟩ = some (.int .i64 rs) := by rw [(bcell st22).1 _ _ (by omega)]; exact c21_1_1
  have c22_1_2 : w22.cell? ⟨w5.heap.size, 2, none⟩ = some (.int .i64 rg) := by rw [(bcell st22).1 _ _ (by omega)]; exact c21_1_2
  have c22_1_3 : w22.cell? ⟨w5.heap.size, 3, none⟩ = some ((.slice RWua nr RWuc)) := by rw [(bcell st22).1 _ _ (by omega)]; exact c21_1_3
  have c22_1_4 : w22.cell? ⟨w5.heap.size, 4, none⟩ = some ((.slice RWva mr RWvc)) := by rw [(bcell st22).1 _ _ (by omega)]; exact c21_1_4
  have c22_2_0 : w22.cell? ⟨w6.heap.size, 0, none⟩ = some (.int .i64 o0) := by rw [(bcell st22).1 _ _ (by omega)]; exact c21_2_0
  have c22_2_1 : w22.cell? ⟨w6.heap.size, 1, none⟩ = some (.int .i64 s0) := by rw [(bcell st22).1 _ _ (by omega)]; exact c21_2_1
  have c22_2_2 : w22.cell? ⟨w6.heap.size, 2, none⟩ = some (.int .i64 g0) := by rw [(bcell st22).1 _ _ (by omega)]; exact c21_2_2
  have c22_2_3 : w22.cell? ⟨w6.heap.size, 3, none⟩ = some ((.slice xx0a n0 xx0c)) := by rw [(bcell st22).1 _ _ (by omega)]; exact c21_2_3
  have c22_2_4 : w22.cell? ⟨w6.heap.size, 4, none⟩ = some ((.slice yx0a m0 yx0c)) := by rw [(bcell st22).1 _ _ (by omega)]; exact c21_2_4
  have c22_3_0 : w22.cell? ⟨w9.heap.size, 0, none⟩ = some (.int .i64 ro) := by rw [(bcell st22).1 _ _ (by omega)]; exact c21_3_0
  have c22_3_1 : w22.cell? ⟨w9.heap.size, 1, none⟩ = some (.int .i64 rs) := by rw [(bcell st22).1 _ _ (by omega)]; exact c21_3_1
  have c22_3_2 : w22.cell? ⟨w9.heap.size, 2, none⟩ = some (.int .i64 rg) := by rw [(bcell st22).1 _ _ (by omega)]; exact c21_3_2
  have c22_3_3 : w22.cell? ⟨w9.heap.size, 3, none⟩ = some ((.slice RGua nr RGuc)) := by rw [(bcell st22).1 _ _ (by omega)]; exact c21_3_3
  have c22_3_4 : w22.cell? ⟨w9.heap.size, 4, none⟩ = some ((.slice RGva mr RGvc)) := by rw [(bcell st22).1 _ _ (by omega)]; exact c21_3_4
  have B22 : Hid (Below w.heap.size w w22) := B21.out.trans (st22.mono (by omega))
  have R22_RW : Hid (LRow w22 (w4.heap.size) (w5.heap.size) (.slice RWua nr RWuc) (.slice RWva mr RWvc) nr mr YR ZR) := Lib.hid (R21_RW.out.below st22 (by omega))
  have R22_x0 : Hid (LRow w22 (w5.heap.size + 1) (w6.heap.size) (.slice xx0a n0 xx0c) (.slice yx0a m0 yx0c) n0 m0 (lmY n0) (lmZ n0 m0)) := Lib.hid (R21_x0.out.below st22 (by omega))
  have R22_x1 : Hid (Row 2 w22 (w6.heap.size + 1) (w7.heap.size) (.slice xx1a n1 xx1c) n1 (marks KX0 (n1 * 2))) := Lib.hid (R21_x1.out.below st22 (by omega))
  have R22_x2 : Hid (Row 3 w22 (w7.heap.size) (w8.heap.size) (.slice xx2a n2 xx2c) n2 (marks KX1 (n2 * 3))) := Lib.hid (R21_x2.out.below st22 (by omega))
  have R22_RG : Hid (LRow w22 (w8.heap.size) (w9.heap.size) (.slice RGua nr RGuc) (.slice RGva mr RGvc) nr mr (lmY nr) (lmZ nr mr)) := Lib.hid (R21_RG.out.below st22 (by omega))
  have d22_0 : w.heap.size < w22.heap.size := by omega
  have e22_0 : w.heap.size ≠ w22.heap.size := by omega
  have d22_1 : w5.heap.size < w22.heap.size := by omega
  have e22_1 : w5.heap.size ≠ w22.heap.size := by omega
  have d22_2 : w6.heap.size < w22.heap.size := by omega
  have e22_2 : w6.heap.size ≠ w22.heap.size := by omega
  have d22_3 : w9.heap.size < w22.heap.size := by omega
  have e22_3 : w9.heap.size ≠ w22.heap.size := by omega
  clear d21_0 e21_0 d21_1 e21_1 d21_2 e21_2 d21_3 e21_3 c21_0_0 c21_0_1 c21_0_2 c21_0_3 c21_0_4 c21_1_0 c21_1_1 c21_1_2 c21_1_3 c21_1_4 c21_2_0 c21_2_1 c21_2_2 c21_2_3 c21_2_4 c21_3_0 c21_3_1 c21_3_2 c21_3_3 c21_3_4 R21_RW R21_x0 R21_x1 R21_x2 R21_RG B21 st22 hb22
  go_wp2_with fail
  go_at_call 13
  refine (toLsa_any o0 s0 g0 _ _ n0 m0 Y0 Z0 _ (HA0.out.below B22.out) (by omega) (by omega)).mono ?_
  rintro e w23 ⟨xh0, yh0, rfl, hr, hb23⟩
  have sz23 : w22.heap.size ≤ w23.heap.size := hb23.size
  have st23 : Below w22.heap.size w22 w23 := hb23
  have c23_0_0 : w23.cell? ⟨w.heap.size, 0, none⟩ = some (.int .i64 o0) := by rw [(bcell st23).1 _ _ (by omega)]; exact c22_0_0
  have c23_0_1 : w23.cell? ⟨w.heap.size, 1, none⟩ = some (.int .i64 s0) := by rw [(bcell st23).1 _ _ (by omega)]; exact c22_0_1
  have c23_0_2 : w23.cell? ⟨w.heap.size, 2, none⟩ = some (.int .i64 g0) := by rw [(bcell st23).1 _ _ (by omega)]; exact c22_0_2
  have c23_0_3 : w23.cell? ⟨w.heap.size, 3, none⟩ = some (.slice ad0 n0 cp0) := by rw [(bcell st23).1 _ _ (by omega)]; exact c22_0_3
  have c23_0_4 : w23.cell? ⟨w.heap.size, 4, none⟩ = some (.slice ae0 m0 cq0) := by rw [(bcell st23).1 _ _ (by omega)]; exact c22_0_4
  have c23_1_0 : w23.cell? ⟨w5.heap.size, 0, none⟩ = some (.int .i64 ro) := by rw [(bcell st23).1 _ _ (by omega)]; exact c22_1_0
  have c23_1_1 : w23.cell? ⟨w5.heap.size, 1, none⟩ = some (.int .i64 rs) := by rw [(bcell st23).1 _ _ (by omega)]; exact c22_1_1
  have c23_1_2 : w23.cell? ⟨w5.heap.size, 2, none⟩ = some (.int .i64 rg) := by rw [(bcell st23).1 _ _ (by omega)]; exact c22_1_2
  have c23_1_3 : w23.cell? ⟨w5.heap.size, 3, none⟩ = some ((.slice RWua nr RWuc)) := by rw [(bcell st23).1 _ _ (by omega)]; exact c22_1_3
  have c23_1_4 : w23.cell? ⟨w5.heap.size, 4, none⟩ = some ((.slice RWva mr RWvc)) := by rw [(bcell st23).1 _ _ (by omega)]; exact c22_1_4
  have c23_2_0 : w23.cell? ⟨w6.heap.size, 0, none⟩ = some (.int .i64 o0) := by rw [(bcell st23).1 _ _ (by omega)]; exact c22_2_0
  have c23_2_1 : w23.cell? ⟨w6.heap.size, 1, none⟩ = some (.int .i64 s0) := by rw [(bcell st23).1 _ _ (by omega)]; exact c22_2_1
  have c23_2_2 : w23.cell? ⟨w6.heap.size, 2, none⟩ = some (.int .i64 g0) := by rw [(bcell st23).1 _ _ (by omega)]; exact c22_2_2
  have c23_2_3 : w23.cell? ⟨w6.heap.size, 3, none⟩ = some ((.slice xx0a n0 xx0c)) := by rw [(bcell st23).1 _ _ (by omega)]; exact c22_2_3
  have c23_2_4 : w23.cell? ⟨w6.heap.size, 4, none⟩ = some ((.slice yx0a m0 yx0c)) := by rw [(bcell st23).1 _ _ (by omega)]; exact c22_2_4
  have c23_3_0 : w23.cell? ⟨w9.heap.size, 0, none⟩ = some (.int .i64 ro) := by rw [(bcell st23).1 _ _ (by omega)]; exact c22_3_0
  have c23_3_1 : w23.cell? ⟨w9.heap.size, 1, none⟩ = some (.int .i64 rs) := by rw [(bcell st23).1 _ _ (by omega)]; exact c22_3_1
  have c23_3_2 : w23.cell? ⟨w9.heap.size, 2, none⟩ = some (.int .i64 rg) := by rw [(bcell st23).1 _ _ (by omega)]; exact c22_3_2
  have c23_3_3 : w23.cell? ⟨w9.heap.size, 3, none⟩ = some ((.slice RGua nr RGuc)) := by rw [(bcell st23).1 _ _ (by omega)]; exact c22_3_3
  have c23_3_4 : w23.cell? ⟨w9.heap.size, 4, none⟩ = some ((.slice RGva mr RGvc)) := by rw [(bcell st23).1 _ _ (by omega)]; exact c22_3_4
  have B23 : Hid (Below w.heap.size w w23) := B22.out.trans (st23.mono (by omega))
  have R23_RW : Hid (LRow w23 (w4.heap.size) (w5.heap.size) (.slice RWua nr RWuc) (.slice RWva mr RWvc) nr mr YR ZR) := Lib.hid (R22_RW.out.below st23 (by omega))
  have R23_x0 : Hid (LRow w23 (w5.heap.size + 1) (w6.heap.size) (.slice xx0a n0 xx0c) (.slice yx0a m0 yx0c) n0 m0 (lmY n0) (lmZ n0 m0)) := Lib.hid (R22_x0.out.below st23 (by omega))
  have R23_x1 : Hid (Row 2 w23 (w6.heap.size + 1) (w7.heap.size) (.slice xx1a n1 xx1c) n1 (marks KX0 (n1 * 2))) := Lib.hid (R22_x1.out.below st23 (by omega))
  have R23_x2 : Hid (Row 3 w23 (w7.heap.size) (w8.heap.size) (.slice xx2a n2 xx2c) n2 (marks KX1 (n2 * 3))) := Lib.hid (R22_x2.out.below st23 (by omega))
  have R23_RG : Hid (LRow w23 (w8.heap.size) (w9.heap.size) (.slice RGua nr RGuc) (.slice RGva mr RGvc) nr mr (lmY nr) (lmZ nr mr)) := Lib.hid (R22_RG.out.below st23 (by omega))
  have R23_h0 : Hid (LRow w23 (w22.heap.size) (w23.heap.size) xh0 yh0 n0 m0 (zs Y0 n0 2) (zs Z0 m0 3)) := Lib.hid (hr)
  have d23_0 : w.heap.size < w23.heap.size := by omega
  have e23_0 : w.heap.size ≠ w23.heap.size := by omega
  have d23_1 : w5.heap.size < w23.heap.size := by omega
  have e23_1 : w5.heap.size ≠ w23.heap.size := by omega
  have d23_2 : w6.heap.size < w23.heap.size := by omega
  have e23_2 : w6.heap.size ≠ w23.heap.size := by omega
  have d23_3 : w9.heap.size < w23.heap.size := by omega
  have e23_3 : w9.heap.size ≠ w23.heap.size := by omega
  clear d22_0 e22_0 d22_1 e22_1 d22_2 e22_2 d22_3 e22_3 c22_0_0 c22_0_1 c22_0_2 c22_0_3 c22_0_4 c22_1_0 c22_1_1 c22_1_2 c22_1_3 c22_1_4 c22_2_0 c22_2_1 c22_2_2 c22_2_3 c22_2_4 c22_3_0 c22_3_1 c22_3_2 c22_3_3 c22_3_4 R22_RW R22_x0 R22_x1 R22_x2 R22_RG B22 st23 hr hb23
  go_wp2_with fail
  go_at_call 36
  refine (toLinkS_any _ n1 Z1 _ (HA1.out.below B23.out) (by omega)).mono ?_
  rintro e w24 ⟨xh1, rfl, hr, hb24⟩
  have sz24 : w23.heap.size ≤ w24.heap.size := hb24.size
  have st24 : Below w23.heap.size w23 w24 := hb24
  have c24_0_0 : w24.cell? ⟨w.heap.size, 0, none⟩ = some (.int .i64 o0) := by rw [(bcell st24).1 _ _ (by omega)]; exact c23_0_0
  have c24_0_1 : w24.cell? ⟨w.heap.size, 1, none⟩ = some (.int .i64 s0) := by rw [(bcell st24).1 _ _ (by omega)]; exact c23_0_1
  have c24_0_2 : w24.cell? ⟨w.heap.size, 2, none⟩ = some (.int .i64 g0) := by rw [(bcell st24).1 _ _ (by omega)]; exact c23_0_2
  have c24_0_3 : w24.cell? ⟨w.heap.size, 3, none⟩ = some (.slice ad0 n0 cp0) := by rw [(bcell st24).1 _ _ (by omega)]; exact c23_0_3
  have c24_0_4 : w24.cell? ⟨w.heap.size, 4, none⟩ = some (.slice ae0 m0 cq0) := by rw [(bcell st24).1 _ _ (by omega)]; exact c23_0_4
  have c24_1_0 : w24.cell? ⟨w5.heap.size, 0, none⟩ = some (.int .i64 ro) := by rw [(bcell st24).1 _ _ (by omega)]; exact c23_1_0
  have c24_1_1 : w24.cell? ⟨w5.heap.size, 1, none⟩ = some (.int .i64 rs) := by rw [(bcell st24).1 _ _ (by omega)]; exact c23_1_1
  have c24_1_2 : w24.cell? ⟨w5.heap.size, 2, none⟩ = some (.int .i64 rg) := by rw [(bcell st24).1 _ _ (by omega)]; exact c23_1_2
  have c24_1_3 : w24.cell? ⟨w5.heap.size, 3, none⟩ = some ((.slice RWua nr RWuc)) := by rw [(bcell st24).1 _ _ (by omega)]; exact c23_1_3
  have c24_1_4 : w24.cell? ⟨w5.heap.size, 4, none⟩ = some ((.slice RWva mr RWvc)) := by rw [(bcell st24).1 _ _ (by omega)]; exact c23_1_4
  have c24_2_0 : w24.cell? ⟨w6.heap.size, 0, none⟩ = some (.int .i64 o0) := by rw [(bcell st24).1 _ _ (by omega)]; exact c23_2_0
  have c24_2_1 : w24.cell? ⟨w6.heap.size, 1, none⟩ = some (.int .i64 s0) := by rw [(bcell st24).1 _ _ (by omega)]; exact c23_2_1
  have c24_2_2 : w24.cell? ⟨w6.heap.size, 2, none⟩ = some (.int .i64 g0) := by rw [(bcell st24).1 _ _ (by omega)]; exact c23_2_2
  have c24_2_3 : w24.cell? ⟨w6.heap.size, 3, none⟩ = some ((.slice xx0a n0 xx0c)) := by rw [(bcell st24).1 _ _ (by omega)]; exact c23_2_3
  have c24_2_4 : w24.cell? ⟨w6.heap.size, 4, none⟩ = some ((.slice yx0a m0 yx0c)) := by rw [(bcell st24).1 _ _ (by omega)]; exact c23_2_4
  have c24_3_0 : w24.cell? ⟨w9.heap.size, 0, none⟩ = some (.int .i64 ro) := by rw [(bcell st24).1 _ _ (by omega)]; exact c23_3_0
  have c24_3_1 : w24.cell? ⟨w9.heap.size, 1, none⟩ = some (.int .i64 rs) := by rw [(bcell st24).1 _ _ (by omega)]; exact c23_3_1
  have c24_3_2 : w24.cell? ⟨w9.heap.size, 2, none⟩ = some (.int .i64 rg) := by rw [(bcell st24).1 _ _ (by omega)]; exact c23_3_2
  have c24_3_3 : w24.cell? ⟨w9.heap.size, 3, none⟩ = some ((.slice RGua nr RGuc)) := by rw [(bcell st24).1 _ _ (by omega)]; exact c23_3_3
  have c24_3_4 : w24.cell? ⟨w9.heap.size, 4, none⟩ = some ((.slice RGva mr RGvc)) := by rw [(bcell st24).1 _ _ (by omega)]; exact c23_3_4
  have B24 : Hid (Below w.heap.size w w24) := B23.out.trans (st24.mono (by omega))
  have R24_RW : Hid (LRow w24 (w4.heap.size) (w5.heap.size) (.slice RWua nr RWuc) (.slice RWva mr RWvc) nr mr YR ZR) := Lib.hid (R23_RW.out.below st24 (by omega))
  have R24_x0 : Hid (LRow w24 (w5.heap.size + 1) (w6.heap.size) (.slice xx0a n0 xx0c) (.slice yx0a m0 yx0c) n0 m0 (lmY n0) (lmZ n0 m0)) := Lib.hid (R23_x0.out.below st24 (by omega))
  have R24_x1 : Hid (Row 2 w24 (w6.heap.size + 1) (w7.heap.size) (.slice xx1a n1 xx1c) n1 (marks KX0 (n1 * 2))) := Lib.hid (R23_x1.out.below st24 (by omega))
  have R24_x2 : Hid (Row 3 w24 (w7.heap.size) (w8.heap.size) (.slice xx2a n2 xx2c) n2 (marks KX1 (n2 * 3))) := Lib.hid (R23_x2.out.below st24 (by omega))
  have R24_RG : Hid (LRow w24 (w8.heap.size) (w9.heap.size) (.slice RGua nr RGuc) (.slice RGva mr RGvc) nr mr (lmY nr) (lmZ nr mr)) := Lib.hid (R23_RG.out.below st24 (by omega))
  have R24_h0 : Hid (LRow w24 (w22.heap.size) (w23.heap.size) xh0 yh0 n0 m0 (zs Y0 n0 2) (zs Z0 m0 3)) := Lib.hid (R23_h0.out.below st24 (by omega))
  have R24_h1 : Hid (Row 2 w24 (w23.heap.size) (w24.heap.size) xh1 n1 (zs Z1 n1 2)) := Lib.hid (hr)
  have d24_0 : w.heap.size < w24.heap.size := by omega
  have e24_0 : w.heap.size ≠ w24.heap.size := by omega
  have d24_1 : w5.heap.size < w24.heap.size := by omega
  have e24_1 : w5.heap.size ≠ w24.heap.size := by omega
  have d24_2 : w6.heap.size < w24.heap.size := by omega
  have e24_2 : w6.heap.size ≠ w24.heap.size := by omega
  have d24_3 : w9.heap.size < w24.heap.size := by omega
  have e24_3 : w9.heap.size ≠ w24.heap.size := by omega
  clear d23_0 e23_0 d23_1 e23_1 d23_2 e23_2 d23_3 e23_3 c23_0_0 c23_0_1 c23_0_2 c23_0_3 c23_0_4 c23_1_0 c23_1_1 c23_1_2 c23_1_3 c23_1_4 c23_2_0 c23_2_1 c23_2_2 c23_2_3 c23_2_4 c23_3_0 c23_3_1 c23_3_2 c23_3_3 c23_3_4 R23_RW R23_x0 R23_x1 R23_x2 R23_RG R23_h0 B23 st24 hr hb24
  go_wp2_with fail
  go_at_call 37
  refine (toStubS_any _ n2 Z2 _ (HA2.out.below B24.out) (by omega)).mono ?_
  rintro e w25 ⟨xh2, rfl, hr, hb25⟩
  have sz25 : w24.heap.size ≤ w25.heap.size := hb25.size
  have st25 : Below w24.heap.size w24 w25 := hb25
  have c25_0_0 : w25.cell? ⟨w.heap.size, 0, none⟩ = some (.int .i64 o0) := by rw [(bcell st25).1 _ _ (by omega)]; exact c24_0_0
  have c25_0_1 : w25.cell? ⟨w.heap.size, 1, none⟩ = some (.int .i64 s0) := by rw [(bcell st25).1 _ _ (by omega)]; exact c24_0_1
  have c25_0_2 : w25.cell? ⟨w.heap.size, 2, none⟩ = some (.int .i64 g0) := by rw [(bcell st25).1 _ _ (by omega)]; exact c24_0_2
  have c25_0_3 : w25.cell? ⟨w.heap.size, 3, none⟩ = some (.slice ad0 n0 cp0) := by rw [(bcell st25).1 _ _ (by omega)]; exact c24_0_3
  have c25_0_4 : w25.cell? ⟨w.heap.size, 4, none⟩ = some (.slice ae0 m0 cq0) := by rw [(bcell st25).1 _ _ (by omega)]; exact c24_0_4
  have c25_1_0 : w25.cell? ⟨w5.heap.size, 0, none⟩ = some (.int .i64 ro) := by rw [(bcell st25).1 _ _ (by omega)]; exact c24_1_0
  have c25_1_1 : w25.cell? ⟨w5.heap.size, 1, none⟩ = some (.int .i64 rs) := by rw [(bcell st25).1 _ _ (by omega)]; exact c24_1_1
  have c25_1_2 : w25.cell? ⟨w5.heap.size, 2, none⟩ = some (.int .i64 rg) := by rw [(bcell st25).1 _ _ (by omega)]; exact c24_1_2
  have c25_1_3 : w25.cell? ⟨w5.heap.size, 3, none⟩ = some ((.slice RWua nr RWuc)) := by rw [(bcell st25).1 _ _ (by omega)]; exact c24_1_3
  have c25_1_4 : w25.cell? ⟨w5.heap.size, 4, none⟩ = some ((.slice RWva mr RWvc)) := by rw [(bcell st25).1 _ _ (by omega)]; exact c24_1_4
  have c25_2_0 : w25.cell? ⟨w6.heap.size, 0, none⟩ = some (.int .i64 o0) := by rw [(bcell st25).1 _ _ (by omega)]; exact c24_2_0
  have c25_2_1 : w25.cell? ⟨w6.heap.size, 1, none⟩ = some (.int .i64 s0) := by rw [(bcell st25).1 _ _ (by omega)]; exact c24_2_1
  have c25_2_2 : w25.cell? ⟨w6.heap.size, 2, none⟩ = some (.int .i64 g0) := by rw [(bcell st25).1 _ _ (by omega)]; exact c24_2_2
  have c25_2_3 : w25.cell? ⟨w6.heap.size, 3, none⟩ = some ((.slice xx0a n0 xx0c)) := by rw [(bcell st25).1 _ _ (by omega)]; exact c24_2_3
  have c25_2_4 : w25.cell? ⟨w6.heap.size, 4, none⟩ = some ((.slice yx0a m0 yx0c)) := by rw [(bcell st25).1 _ _ (by omega)]; exact c24_2_4
  have c25_3_0 : w25.cell? ⟨w9.heap.size, 0, none⟩ = some (.int .i64 ro) := by rw [(bcell st25).1 _ _ (by omega)]; exact c24_3_0
  have c25_3_1 : w25.cell? ⟨w9.heap.size, 1, none⟩ = some (.int .i64 rs) := by rw [(bcell st25).1 _ _ (by omega)]; exact c24_3_1
  have c25_3_2 : w25.cell? ⟨w9.heap.size, 2, none⟩ = some (.int .i64 rg) := by rw [(bcell st25).1 _ _ (by omega)]; exact c24_3_2
  have c25_3_3 : w25.cell? ⟨w9.heap.size, 3, none⟩ = some ((.slice RGua nr RGuc)) := by rw [(bcell st25).1 _ _ (by omega)]; exact c24_3_3
  have c25_3_4 : w25.cell? ⟨w9.heap.size, 4, none⟩ = some ((.slice RGva mr RGvc)) := by rw [(bcell st25).1 _ _ (by omega)]; exact c24_3_4
  have B25 : Hid (Below w.heap.size w w25) := B24.out.trans (st25.mono (by omega))
  have R25_RW : Hid (LRow w25 (w4.heap.size) (w5.heap.size) (.slice RWua nr RWuc) (.slice RWva mr RWvc) nr mr YR ZR) := Lib.hid (R24_RW.out.below st25 (by omega))
  have R25_x0 : Hid (LRow w25 (w5.heap.size + 1) (w6.heap.size) (.slice xx0a n0 xx0c) (.slice yx0a m0 yx0c) n0 m0 (lmY n0) (lmZ n0 m0)) := Lib.hid (R24_x0.out.below st25 (by omega))
  have R25_x1 : Hid (Row 2 w25 (w6.heap.size + 1) (w7.heap.size) (.slice xx1a n1 xx1c) n1 (marks KX0 (n1 * 2))) := Lib.hid (R24_x1.out.below st25 (by omega))
  have R25_x2 : Hid (Row 3 w25 (w7.heap.size) (w8.heap.size) (.slice xx2a n2 xx2c) n2 (marks KX1 (n2 * 3))) := Lib.hid (R24_x2.out.below st25 (by omega))
  have R25_RG : Hid (LRow w25 (w8.heap.size) (w9.heap.size) (.slice RGua nr RGuc) (.slice RGva mr RGvc) nr mr (lmY nr) (lmZ nr mr)) := Lib.hid (R24_RG.out.below st25 (by omega))
  have R25_h0 : Hid (LRow w25 (w22.heap.size) (w23.heap.size) xh0 yh0 n0 m0 (zs Y0 n0 2) (zs Z0 m0 3)) := Lib.hid (R24_h0.out.below st25 (by omega))
  have R25_h1 : Hid (Row 2 w25 (w23.heap.size) (w24.heap.size) xh1 n1 (zs Z1 n1 2)) := Lib.hid (R24_h1.out.below st25 (by omega))
  have R25_h2 : Hid (Row 3 w25 (w24.heap.size) (w25.heap.size) xh2 n2 (zs Z2 n2 3)) := Lib.hid (hr)
  have d25_0 : w.heap.size < w25.heap.size := by omega
  have e25_0 : w.heap.size ≠ w25.heap.size := by omega
  have d25_1 : w5.heap.size < w25.heap.size := by omega
  have e25_1 : w5.heap.size ≠ w25.heap.size := by omega
  have d25_2 : w6.heap.size < w25.heap.size := by omega
  have e25_2 : w6.heap.size ≠ w25.heap.size := by omega
  have d25_3 : w9.heap.size < w25.heap.size := by omega
  have e25_3 : w9.heap.size ≠ w25.heap.size := by omega
  clear d24_0 e24_0 d24_1 e24_1 d24_2 e24_2 d24_3 e24_3 c24_0_0 c24_0_1 c24_0_2 c24_0_3 c24_0_4 c24_1_0 c24_1_1 c24_1_2 c24_1_3 c24_1_4 c24_2_0 c24_2_1 c24_2_2 c24_2_3 c24_2_4 c24_3_0 c24_3_1 c24_3_2 c24_3_3 c24_3_4 R24_RW R24_x0 R24_x1 R24_x2 R24_RG R24_h0 R24_h1 B24 st25 hr hb25
  go_wp2_with fail
  go_at_call 38
  refine (Hi.out _ _ xh0 yh0 _ _ xh1 _ _ xh2 _ R25_h0.out (by first | omega | (simp; omega) | simp) R25_h1.out (by first | omega | (simp; omega) | simp) R25_h2.out (by first | omega | (simp; omega) | simp) (by first | omega | (simp; omega) | simp)).mono ?_
  rintro e w26 ⟨RHu, RHv, rfl, hr, hb26⟩
  have sz26 : w25.heap.size ≤ w26.heap.size := hb26.size
  have st26 : Below w25.heap.size w25 w26 := hb26
  have c26_0_0 : w26.cell? ⟨w.heap.size, 0, none⟩ = some (.int .i64 o0) := by rw [(bcell st26).1 _ _ (by omega)]; exact c25_0_0
  have c26_0_1 : w26.cell? ⟨w.heap.size, 1, none⟩ = some (.int .i64 s0) := by rw [(bcell st26).1 _ _ (by omega)]; exact c25_0_1
  have c26_0_2 : w26.cell? ⟨w.heap.size, 2, none⟩ = some (.int .i64 g0) := by rw [(bcell st26).1 _ _ (by omega)]; exact c25_0_2
  have c26_0_3 : w26.cell? ⟨w.heap.size, 3, none⟩ = some (.slice ad0 n0 cp0) := by rw [(bcell st26).1 _ _ (by omega)]; exact c25_0_3
  have c26_0_4 : w26.cell? ⟨w.heap.size, 4, none⟩ = some (.slice ae0 m0 cq0) := by rw [(bcell st26).1 _ _ (by omega)]; exact c25_0_4
  have c26_1_0 : w26.cell? ⟨w5.heap.size, 0, none⟩ = some (.int .i64 ro) := by rw [(bcell st26).1 _ _ (by omega)]; exact c25_1_0
  have c26_1_1 : w26.cell? ⟨w5.heap.size, 1, none⟩ = some (.int .i64 rs) := by rw [(bcell st26).1 _ _ (by omega)]; exact c25_1_1
  have c26_1_2 : w26.cell? ⟨w5.heap.size, 2, none⟩ = some (.int .i64 rg) := by rw [(bcell st26).1 _ _ (by omega)]; exact c25_1_2
  have c26_1_3 : w26.cell? ⟨w5.heap.size, 3, none⟩ = some ((.slice RWua nr RWuc)) := by rw [(bcell st26).1 _ _ (by omega)]; exact c25_1_3
  have c26_1_4 : w26.cell? ⟨w5.heap.size, 4, none⟩ = some ((.slice RWva mr RWvc)) := by rw [(bcell st26).1 _ _ (by omega)]; exact c25_1_4
  have c26_2_0 : w26.cell? ⟨w6.heap.size, 0, none⟩ = some (.int .i64 o0) := by rw [(bcell st26).1 _ _ (by omega)]; exact c25_2_0
  have c26_2_1 : w26.cell? ⟨w6.heap.size, 1, none⟩ = some (.int .i64 s0) := by rw [(bcell st26).1 _ _ (by omega)]; exact c25_2_1
  have c26_2_2 : w26.cell? ⟨w6.heap.size, 2, none⟩ = some (.int .i64 g0) := by rw [(bcell st26).1 _ _ (by omega)]; exact c25_2_2
  have c26_2_3 : w26.cell? ⟨w6.heap.size, 3, none⟩ = some ((.slice xx0a n0 xx0c)) := by rw [(bcell st26).1 _ _ (by omega)]; exact c25_2_3
  have c26_2_4 : w26.cell? ⟨w6.heap.size, 4, none⟩ = some ((.slice yx0a m0 yx0c)) := by rw [(bcell st26).1 _ _ (by omega)]; exact c25_2_4
  have c26_3_0 : w26.cell? ⟨w9.heap.size, 0, none⟩ = some (.int .i64 ro) := by rw [(bcell st26).1 _ _ (by omega)]; exact c25_3_0
  have c26_3_1 : w26.cell? ⟨w9.heap.size, 1, none⟩ = some (.int .i64 rs) := by rw [(bcell st26).1 _ _ (by omega)]; exact c25_3_1
  have c26_3_2 : w26.cell? ⟨w9.heap.size, 2, none⟩ = some (.int .i64 rg) := by rw [(bcell st26).1 _ _ (by omega)]; exact c25_3_2
  have c26_3_3 : w26.cell? ⟨w9.heap.size, 3, none⟩ = some ((.slice RGua nr RGuc)) := by rw [(bcell st26).1 _ _ (by omega)]; exact c25_3_3
  have c26_3_4 : w26.cell? ⟨w9.heap.size, 4, none⟩ = some ((.slice RGva mr RGvc)) := by rw [(bcell st26).1 _ _ (by omega)]; exact c25_3_4
  have B26 : Hid (Below w.heap.size w w26) := B25.out.trans (st26.mono (by omega))
  have R26_RW : Hid (LRow w26 (w4.heap.size) (w5.heap.size) (.slice RWua nr RWuc) (.slice RWva mr RWvc) nr mr YR ZR) := Lib.hid (R25_RW.out.below st26 (by omega))
  have R26_x0 : Hid (LRow w26 (w5.heap.size + 1) (w6.heap.size) (.slice xx0a n0 xx0c) (.slice yx0a m0 yx0c) n0 m0 (lmY n0) (lmZ n0 m0)) := Lib.hid (R25_x0.out.below st26 (by omega))
  have R26_x1 : Hid (Row 2 w26 (w6.heap.size + 1) (w7.heap.size) (.slice xx1a n1 xx1c) n1 (marks KX0 (n1 * 2))) := Lib.hid (R25_x1.out.below st26 (by omega))
  have R26_x2 : Hid (Row 3 w26 (w7.heap.size) (w8.heap.size) (.slice xx2a n2 xx2c) n2 (marks KX1 (n2 * 3))) := Lib.hid (R25_x2.out.below st26 (by omega))
  have R26_RG : Hid (LRow w26 (w8.heap.size) (w9.heap.size) (.slice RGua nr RGuc) (.slice RGva mr RGvc) nr mr (lmY nr) (lmZ nr mr)) := Lib.hid (R25_RG.out.below st26 (by omega))
  have R26_h0 : Hid (LRow w26 (w22.heap.size) (w23.heap.size) xh0 yh0 n0 m0 (zs Y0 n0 2) (zs Z0 m0 3)) := Lib.hid (R25_h0.out.below st26 (by omega))
  have R26_h1 : Hid (Row 2 w26 (w23.heap.size) (w24.heap.size) xh1 n1 (zs Z1 n1 2)) := Lib.hid (R25_h1.out.below st26 (by omega))
  have R26_h2 : Hid (Row 3 w26 (w24.heap.size) (w25.heap.size) xh2 n2 (zs Z2 n2 3)) := Lib.hid (R25_h2.out.below st26 (by omega))
  have R26_RH : Hid (LRow w26 (w25.heap.size) (w26.heap.size) RHu RHv nr mr YR ZR) := Lib.hid (hr)
  have d26_0 : w.heap.size < w26.heap.size := by omega
  have e26_0 : w.heap.size ≠ w26.heap.size := by omega
  have d26_1 : w5.heap.size < w26.heap.size := by omega
  have e26_1 : w5.heap.size ≠ w26.heap.size := by omega
  have d26_2 : w6.heap.size < w26.heap.size := by omega
  have e26_2 : w6.heap.size ≠ w26.heap.size := by omega
  have d26_3 : w9.heap.size < w26.heap.size := by omega
  have e26_3 : w9.heap.size ≠ w26.heap.size := by omega
  clear d25_0 e25_0 d25_1 e25_1 d25_2 e25_2 d25_3 e25_3 c25_0_0 c25_0_1 c25_0_2 c25_0_3 c25_0_4 c25_1_0 c25_1_1 c25_1_2 c25_1_3 c25_1_4 c25_2_0 c25_2_1 c25_2_2 c25_2_3 c25_2_4 c25_3_0 c25_3_1 c25_3_2 c25_3_3 c25_3_4 R25_RW R25_x0 R25_x1 R25_x2 R25_RG R25_h0 R25_h1 R25_h2 B25 st26 hr hb26
  obtain ⟨RHua, RHuc, RHva, RHvc, rfl, rfl⟩ := R26_RH.out.slice
  go_wp2_with fail
  go_at_call 15
  refine (eqLsa_same ro rs rg YR ZR nr mr _ _ _ _ _ _ _ _ _ (R26_RH.out.below (B := w26.heap.size) (by go_grown) (by omega)) (R26_RW.out.below (B := w26.heap.size) (by go_grown) (by omega)) (by first | omega | (simp; omega) | simp) (by first | omega | (simp; omega) | simp)).mono ?_
  rintro e w27 ⟨rfl, hb27⟩
  have sz27 : w26.heap.size + 1 ≤ w27.heap.size := by have hh := hb27.size; simp at hh; omega
  have st27 : Below w26.heap.size w26 w27 := Below.trans (by go_grown) (hb27.mono (by simp))
  have c27_0_0 : w27.cell? ⟨w.heap.size, 0, none⟩ = some (.int .i64 o0) := by rw [(bcell st27).1 _ _ (by omega)]; exact c26_0_0
  have c27_0_1 : w27.cell? ⟨w.heap.size, 1, none⟩ = some (.int .i64 s0) := by rw [(bcell st27).1 _ _ (by omega)]; exact c26_0_1
  have c27_0_2 : w27.cell? ⟨w.heap.size, 2, none⟩ = some (.int .i64 g0) := by rw [(bcell st27).1 _ _ (by omega)]; exact c26_0_2
  have c27_0_3 : w27.cell? ⟨w.heap.size, 3, none⟩ = some (.slice ad0 n0 cp0) := by rw [(bcell st27).1 _ _ (by omega)]; exact c26_0_3
  have c27_0_4 : w27.cell? ⟨w.heap.size, 4, none⟩ = some (.slice ae0 m0 cq0) := by rw [(bcell st27).1 _ _ (by omega)]; exact c26_0_4
  have c27_1_0 : w27.cell? ⟨w5.heap.size, 0, none⟩ = some (.int .i64 ro) := by rw [(bcell st27).1 _ _ (by omega)]; exact c26_1_0
  have c27_1_1 : w27.cell? ⟨w5.heap.size, 1, none⟩ = some (.int .i64 rs) := by rw [(bcell st27).1 _ _ (by omega)]; exact c26_1_1
  have c27_1_2 : w27.cell? ⟨w5.heap.size, 2, none⟩ = some (.int .i64 rg) := by rw [(bcell st27).1 _ _ (by omega)]; exact c26_1_2
  have c27_1_3 : w27.cell? ⟨w5.heap.size, 3, none⟩ = some ((.slice RWua nr RWuc)) := by rw [(bcell st27).1 _ _ (by omega)]; exact c26_1_3
  have c27_1_4 : w27.cell? ⟨w5.heap.size, 4, none⟩ = some ((.slice RWva mr RWvc)) := by rw [(bcell st27).1 _ _ (by omega)]; exact c26_1_4
  have c27_2_0 : w27.cell? ⟨w6.heap.size, 0, none⟩ = some (.int .i64 o0) := by rw [(bcell st27).1 _ _ (by omega)]; exact c26_2_0
  have c27_2_1 : w27.cell? ⟨w6.heap.size, 1, none⟩ = some (.int .i64 s0) := by rw [(bcell st27).1 _ _ (by omega)]; exact c26_2_1
  have c27_2_2 : w27.cell? ⟨w6.heap.size, 2, none⟩ = some (.int .i64 g0) := by rw [(bcell st27).1 _ _ (by omega)]; exact c26_2_2
  have c27_2_3 : w27.cell? ⟨w6.heap.size, 3, none⟩ = some ((.slice xx0a n0 xx0c)) := by rw [(bcell st27).1 _ _ (by omega)]; exact c26_2_3
  have c27_2_4 : w27.cell? ⟨w6.heap.size, 4, none⟩ = some ((.slice yx0a m0 yx0c)) := by rw [(bcell st27).1 _ _ (by omega)]; exact c26_2_4
  have c27_3_0 : w27.cell? ⟨w9.heap.size, 0, none⟩ = some (.int .i64 ro) := by rw [(bcell st27).1 _ _ (by omega)]; exact c26_3_0
  have c27_3_1 : w27.cell? ⟨w9.heap.size, 1, none⟩ = some (.int .i64 rs) := by rw [(bcell st27).1 _ _ (by omega)]; exact c26_3_1
  have c27_3_2 : w27.cell? ⟨w9.heap.size, 2, none⟩ = some (.int .i64 rg) := by rw [(bcell st27).1 _ _ (by omega)]; exact c26_3_2
  have c27_3_3 : w27.cell? ⟨w9.heap.size, 3, none⟩ = some ((.slice RGua nr RGuc)) := by rw [(bcell st27).1 _ _ (by omega)]; exact c26_3_3
  have c27_3_4 : w27.cell? ⟨w9.heap.size, 4, none⟩ = some ((.slice RGva mr RGvc)) := by rw [(bcell st27).1 _ _ (by omega)]; exact c26_3_4
  have c27_4_0 : w27.cell? ⟨w26.heap.size, 0, none⟩ = some (.int .i64 ro) := by rw [(bcell hb27).1 _ _ (by simp), new_at (by simp)]; rfl
  have c27_4_1 : w27.cell? ⟨w26.heap.size, 1, none⟩ = some (.int .i64 rs) := by rw [(bcell hb27).1 _ _ (by simp), new_at (by simp)]; rfl
  have c27_4_2 : w27.cell? ⟨w26.heap.size, 2, none⟩ = some (.int .i64 rg) := by rw [(bcell hb27).1 _ _ (by simp), new_at (by simp)]; rfl
  have c27_4_3 : w27.cell? ⟨w26.heap.size, 3, none⟩ = some ((.slice RHua nr RHuc)) := by rw [(bcell hb27).1 _ _ (by simp), new_at (by simp)]; rfl
  have c27_4_4 : w27.cell? ⟨w26.heap.size, 4, none⟩ = some ((.slice RHva mr RHvc)) := by rw [(bcell hb27).1 _ _ (by simp), new_at (by simp)]; rfl
  have B27 : Hid (Below w.heap.size w w27) := B26.out.trans (st27.mono (by omega))
  have R27_RW : Hid (LRow w27 (w4.heap.size) (w5.heap.size) (.slice RWua nr RWuc) (.slice RWva mr RWvc) nr mr YR ZR) := Lib.hid (R26_RW.out.below st27 (by omega))
  have R27_x0 : Hid (LRow w27 (w5.heap.size + 1) (w6.heap.size) (.slice xx0a n0 xx0c) (.slice yx0a m0 yx0c) n0 m0 (lmY n0) (lmZ n0 m0)) := Lib.hid (R26_x0.out.below st27 (by omega))
  have R27_x1 : Hid (Row 2 w27 (w6.heap.size + 1) (w7.heap.size) (.slice xx1a n1 xx1c) n1 (marks KX0 (n1 * 2))) := Lib.hid (R26_x1.out.below st27 (by omega))
  have R27_x2 : Hid (Row 3 w27 (w7.heap.size) (w8.heap.size) (.slice xx2a n2 xx2c) n2 (marks KX1 (n2 * 3))) := Lib.hid (R26_x2.out.below st27 (by omega))
  have R27_RG : Hid (LRow w27 (w8.heap.size) (w9.heap.size) (.slice RGua nr RGuc) (.slice RGva mr RGvc) nr mr (lmY nr) (lmZ nr mr)) := Lib.hid (R26_RG.out.below st27 (by omega))
  have R27_RH : Hid (LRow w27 (w25.heap.size) (w26.heap.size) (.slice RHua nr RHuc) (.slice RHva mr RHvc) nr mr YR ZR) := Lib.hid (R26_RH.out.below st27 (by omega))
  have d27_0 : w.heap.size < w27.heap.size := by omega
  have e27_0 : w.heap.size ≠ w27.heap.size := by omega
  have d27_1 : w5.heap.size < w27.heap.size := by omega
  have e27_1 : w5.heap.size ≠ w27.heap.size := by omega
  have d27_2 : w6.heap.size < w27.heap.size := by omega
  have e27_2 : w6.heap.size ≠ w27.heap.size := by omega
  have d27_3 : w9.heap.size < w27.heap.size := by omega
  have e27_3 : w9.heap.size ≠ w27.heap.size := by omega
  have d27_4 : w26.heap.size < w27.heap.size := by omega
  have e27_4 : w26.heap.size ≠ w27.heap.size := by omega
  clear d26_0 e26_0 d26_1 e26_1 d26_2 e26_2 d26_3 e26_3 c26_0_0 c26_0_1 c26_0_2 c26_0_3 c26_0_4 c26_1_0 c26_1_1 c26_1_2 c26_1_3 c26_1_4 c26_2_0 c26_2_1 c26_2_2 c26_2_3 c26_2_4 c26_3_0 c26_3_1 c26_3_2 c26_3_3 c26_3_4 R26_RW R26_x0 R26_x1 R26_x2 R26_RG R26_RH B26 st27 hb27
  go_wp2_with fail
  go_at_call 30
  refine (heldLsa_K ro rs rg KG nr mr _ _ _ _ _ HKG.out R27_RG.out (by omega) (by omega) (by omega)).mono ?_
  rintro e w28 ⟨rfl, hb28⟩
  have sz28 : w27.heap.size ≤ w28.heap.size := hb28.size
  have st28 : Below w27.heap.size w27 w28 := hb28
  have c28_0_0 : w28.cell? ⟨w.heap.size, 0, none⟩ = some (.int .i64 o0) := by rw [(bcell st28).1 _ _ (by omega)]; exact c27_0_0
  have c28_0_1 : w28.cell? ⟨w.heap.size, 1, none⟩ = some (.int .i64 s0) := by rw [(bcell st28).1 _ _ (by omega)]; exact c27_0_1
  have c28_0_2 : w28.cell? ⟨w.heap.size, 2, none⟩ = some (.int .i64 g0) := by rw [(bcell st28).1 _ _ (by omega)]; exact c27_0_2
  have c28_0_3 : w28.cell? ⟨w.heap.size, 3, none⟩ = some (.slice ad0 n0 cp0) := by rw [(bcell st28).1 _ _ (by omega)]; exact c27_0_3
  have c28_0_4 : w28.cell? ⟨w.heap.size, 4, none⟩ = some (.slice ae0 m0 cq0) := by rw [(bcell st28).1 _ _ (by omega)]; exact c27_0_4
  have c28_1_0 : w28.cell? ⟨w5.heap.size, 0, none⟩ = some (.int .i64 ro) := by rw [(bcell st28).1 _ _ (by omega)]; exact c27_1_0
  have c28_1_1 : w28.cell? ⟨w5.heap.size, 1, none⟩ = some (.int .i64 rs) := by rw [(bcell st28).1 _ _ (by omega)]; exact c27_1_1
  have c28_1_2 : w28.cell? ⟨w5.heap.size, 2, none⟩ = some (.int .i64 rg) := by rw [(bcell st28).1 _ _ (by omega)]; exact c27_1_2
  have c28_1_3 : w28.cell? ⟨w5.heap.size, 3, none⟩ = some ((.slice RWua nr RWuc)) := by rw [(bcell st28).1 _ _ (by omega)]; exact c27_1_3
  have c28_1_4 : w28.cell? ⟨w5.heap.size, 4, none⟩ = some ((.slice RWva mr RWvc)) := by rw [(bcell st28).1 _ _ (by omega)]; exact c27_1_4
  have c28_2_0 : w28.cell? ⟨w6.heap.size, 0, none⟩ = some (.int .i64 o0) := by rw [(bcell st28).1 _ _ (by omega)]; exact c27_2_0
  have c28_2_1 : w28.cell? ⟨w6.heap.size, 1, none⟩ = some (.int .i64 s0) := by rw [(bcell st28).1 _ _ (by omega)]; exact c27_2_1
  have c28_2_2 : w28.cell? ⟨w6.heap.size, 2, none⟩ = some (.int .i64 g0) := by rw [(bcell st28).1 _ _ (by omega)]; exact c27_2_2
  have c28_2_3 : w28.cell? ⟨w6.heap.size, 3, none⟩ = some ((.slice xx0a n0 xx0c)) := by rw [(bcell st28).1 _ _ (by omega)]; exact c27_2_3
  have c28_2_4 : w28.cell? ⟨w6.heap.size, 4, none⟩ = some ((.slice yx0a m0 yx0c)) := by rw [(bcell st28).1 _ _ (by omega)]; exact c27_2_4
  have c28_3_0 : w28.cell? ⟨w9.heap.size, 0, none⟩ = some (.int .i64 ro) := by rw [(bcell st28).1 _ _ (by omega)]; exact c27_3_0
  have c28_3_1 : w28.cell? ⟨w9.heap.size, 1, none⟩ = some (.int .i64 rs) := by rw [(bcell st28).1 _ _ (by omega)]; exact c27_3_1
  have c28_3_2 : w28.cell? ⟨w9.heap.size, 2, none⟩ = some (.int .i64 rg) := by rw [(bcell st28).1 _ _ (by omega)]; exact c27_3_2
  have c28_3_3 : w28.cell? ⟨w9.heap.size, 3, none⟩ = some ((.slice RGua nr RGuc)) := by rw [(bcell st28).1 _ _ (by omega)]; exact c27_3_3
  have c28_3_4 : w28.cell? ⟨w9.heap.size, 4, none⟩ = some ((.slice RGva mr RGvc)) := by rw [(bcell st28).1 _ _ (by omega)]; exact c27_3_4
  have c28_4_0 : w28.cell? ⟨w26.heap.size, 0, none⟩ = some (.int .i64 ro) := by rw [(bcell st28).1 _ _ (by omega)]; exact c27_4_0
  have c28_4_1 : w28.cell? ⟨w26.heap.size, 1, none⟩ = some (.int .i64 rs) := by rw [(bcell st28).1 _ _ (by omega)]; exact c27_4_1
  have c28_4_2 : w28.cell? ⟨w26.heap.size, 2, none⟩ = some (.int .i64 rg) := by rw [(bcell st28).1 _ _ (by omega)]; exact c27_4_2
  have c28_4_3 : w28.cell? ⟨w26.heap.size, 3, none⟩ = some ((.slice RHua nr RHuc)) := by rw [(bcell st28).1 _ _ (by omega)]; exact c27_4_3
  have c28_4_4 : w28.cell? ⟨w26.heap.size, 4, none⟩ = some ((.slice RHva mr RHvc)) := by rw [(bcell st28).1 _ _ (by omega)]; exact c27_4_4
  have B28 : Hid (Below w.heap.size w w28) := B27.out.trans (st28.mono (by omega))
  have R28_RW : Hid (LRow w28 (w4.heap.size) (w5.heap.size) (.slice RWua nr RWuc) (.slice RWva mr RWvc) nr mr YR ZR) := Lib.hid (R27_RW.out.below st28 (by omega))
  have R28_x0 : Hid (LRow w28 (w5.heap.size + 1) (w6.heap.size) (.slice xx0a n0 xx0c) (.slice yx0a m0 yx0c) n0 m0 (lmY n0) (lmZ n0 m0)) := Lib.hid (R27_x0.out.below st28 (by omega))
  have R28_x1 : Hid (Row 2 w28 (w6.heap.size + 1) (w7.heap.size) (.slice xx1a n1 xx1c) n1 (marks KX0 (n1 * 2))) := Lib.hid (R27_x1.out.below st28 (by omega))
  have R28_x2 : Hid (Row 3 w28 (w7.heap.size) (w8.heap.size) (.slice xx2a n2 xx2c) n2 (marks KX1 (n2 * 3))) := Lib.hid (R27_x2.out.below st28 (by omega))
  have R28_RG : Hid (LRow w28 (w8.heap.size) (w9.heap.size) (.slice RGua nr RGuc) (.slice RGva mr RGvc) nr mr (lmY nr) (lmZ nr mr)) := Lib.hid (R27_RG.out.below st28 (by omega))
  have R28_RH : Hid (LRow w28 (w25.heap.size) (w26.heap.size) (.slice RHua nr RHuc) (.slice RHva mr RHvc) nr mr YR ZR) := Lib.hid (R27_RH.out.below st28 (by omega))
  have d28_0 : w.heap.size < w28.heap.size := by omega
  have e28_0 : w.heap.size ≠ w28.heap.size := by omega
  have d28_1 : w5.heap.size < w28.heap.size := by omega
  have e28_1 : w5.heap.size ≠ w28.heap.size := by omega
  have d28_2 : w6.heap.size < w28.heap.size := by omega
  have e28_2 : w6.heap.size ≠ w28.heap.size := by omega
  have d28_3 : w9.heap.size < w28.heap.size := by omega
  have e28_3 : w9.heap.size ≠ w28.heap.size := by omega
  have d28_4 : w26.heap.size < w28.heap.size := by omega
  have e28_4 : w26.heap.size ≠ w28.heap.size := by omega
  clear d27_0 e27_0 d27_1 e27_1 d27_2 e27_2 d27_3 e27_3 d27_4 e27_4 c27_0_0 c27_0_1 c27_0_2 c27_0_3 c27_0_4 c27_1_0 c27_1_1 c27_1_2 c27_1_3 c27_1_4 c27_2_0 c27_2_1 c27_2_2 c27_2_3 c27_2_4 c27_3_0 c27_3_1 c27_3_2 c27_3_3 c27_3_4 c27_4_0 c27_4_1 c27_4_2 c27_4_3 c27_4_4 R27_RW R27_x0 R27_x1 R27_x2 R27_RG R27_RH B27 st28 hb28
  go_wp2_with fail
  go_ret
  exact ⟨rfl, B28.out⟩

set_option linter.unusedVariables false in
set_option maxHeartbeats 2000000 in
theorem lawExactNextLsa_big0 (o0 s0 g0 : Int) (u0 v0 : Value) (n0 m0 : Nat) (Y0 Z0 : Nat → Int) (v1 : Value) (n1 : Nat) (Z1 : Nat → Int) (v2 : Value) (n2 : Nat) (Z2 : Nat → Int) (w : World) (hA0 : LArg w u0 v0 n0 m0 Y0 Z0) (hA1 : Arg 2 w v1 n1 Z1) (hA2 : Arg 3 w v2 n2 Z2) (hn : 1048576 < n0 + m0) :
    Calls Try.prog 10 #[.agg #[.int .i64 o0, .int .i64 s0, .int .i64 g0, u0, v0], v1, v2] w fun e w' => e = .returned (.bool true) ∧ Below w.heap.size w w' := by
  have hx0 := hA0.1.2.1
  have hy0 := hA0.2.2.1
  have HA0 := Lib.hid hA0
  obtain ⟨ad0, cp0, rfl⟩ := hA0.1.slice
  obtain ⟨ae0, cq0, rfl⟩ := hA0.2.slice
  clear hA0
  have hx1 := hA1.2.1
  have HA1 := Lib.hid hA1
  obtain ⟨ad1, cp1, rfl⟩ := hA1.slice
  clear hA1
  have hx2 := hA2.2.1
  have HA2 := Lib.hid hA2
  obtain ⟨ad2, cp2, rfl⟩ := hA2.slice
  clear hA2
  have H0 := fun w => szLsa_any o0 s0 g0 ad0 ae0 n0 cp0 m0 cq0 (1048576) w hx0 hy0 (by omega) (by omega)
  have hneg0 : ((1048576 : Int) - (n0 : Int) - (m0 : Int) < 0) := by omega
  simp only [if_pos hneg0] at H0
  clear hneg0
  go_enter Try.func10, Try.ntmps10
  go_wp2_with fail
  go_at_call 11
  refine (H0 _).mono ?_
  rintro e w1 ⟨rfl, hb1⟩
  have sz1 : w.heap.size + 1 ≤ w1.heap.size := by have hh := hb1.size; simp at hh; omega
  have st1 : Below w.heap.size w w1 := Below.trans (by go_grown) (hb1.mono (by simp))
  have c1_0_0 : w1.cell? ⟨w.heap.size, 0, none⟩ = some (.int .i64 o0) := by rw [(bcell hb1).1 _ _ (by simp), new_at (by simp)]; rfl
  have c1_0_1 : w1.cell? ⟨w.heap.size, 1, none⟩ = some (.int .i64 s0) := by rw [(bcell hb1).1 _ _ (by simp), new_at (by simp)]; rfl
  have c1_0_2 : w1.cell? ⟨w.heap.size, 2, none⟩ = some (.int .i64 g0) := by rw [(bcell hb1).1 _ _ (by simp), new_at (by simp)]; rfl
  have c1_0_3 : w1.cell? ⟨w.heap.size, 3, none⟩ = some (.slice ad0 n0 cp0) := by rw [(bcell hb1).1 _ _ (by simp), new_at (by simp)]; rfl
  have c1_0_4 : w1.cell? ⟨w.heap.size, 4, none⟩ = some (.slice ae0 m0 cq0) := by rw [(bcell hb1).1 _ _ (by simp), new_at (by simp)]; rfl
  have B1 : Hid (Below w.heap.size w w1) := st1
  have d1_0 : w.heap.size < w1.heap.size := by omega
  have e1_0 : w.heap.size ≠ w1.heap.size := by omega
  clear st1 hb1
  go_wp2_with fail
  go_ret
  exact ⟨rfl, B1.out⟩

set_option linter.unusedVariables false in
set_option maxHeartbeats 2000000 in
theorem lawExactNextLsa_big1 (o0 s0 g0 : Int) (u0 v0 : Value) (n0 m0 : Nat) (Y0 Z0 : Nat → Int) (v1 : Value) (n1 : Nat) (Z1 : Nat → Int) (v2 : Value) (n2 : Nat) (Z2 : Nat → Int) (w : World) (hA0 : LArg w u0 v0 n0 m0 Y0 Z0) (hA1 : Arg 2 w v1 n1 Z1) (hA2 : Arg 3 w v2 n2 Z2) (hf : n0 + m0 ≤ 1048576) (hn : 1048576 < n0 + m0 + n1) :
    Calls Try.prog 10 #[.agg #[.int .i64 o0, .int .i64 s0, .int .i64 g0, u0, v0], v1, v2] w fun e w' => e = .returned (.bool true) ∧ Below w.heap.size w w' := by
  have hx0 := hA0.1.2.1
  have hy0 := hA0.2.2.1
  have HA0 := Lib.hid hA0
  obtain ⟨ad0, cp0, rfl⟩ := hA0.1.slice
  obtain ⟨ae0, cq0, rfl⟩ := hA0.2.slice
  clear hA0
  have hx1 := hA1.2.1
  have HA1 := Lib.hid hA1
  obtain ⟨ad1, cp1, rfl⟩ := hA1.slice
  clear hA1
  have hx2 := hA2.2.1
  have HA2 := Lib.hid hA2
  obtain ⟨ad2, cp2, rfl⟩ := hA2.slice
  clear hA2
  have H0 := fun w => szLsa_any o0 s0 g0 ad0 ae0 n0 cp0 m0 cq0 (1048576) w hx0 hy0 (by omega) (by omega)
  have hneg0 : ¬ ((1048576 : Int) - (n0 : Int) - (m0 : Int) < 0) := by omega
  simp only [if_neg hneg0] at H0
  have hneg1 : ((1048576 - (n0 : Int) - (m0 : Int) : Int) - (n1 : Int) < 0) := by omega
  go_enter Try.func10, Try.ntmps10
  go_wp2_with fail
  go_at_call 11
  refine (H0 _).mono ?_
  rintro e w1 ⟨rfl, hb1⟩
  have sz1 : w.heap.size + 1 ≤ w1.heap.size := by have hh := hb1.size; simp at hh; omega
  have st1 : Below w.heap.size w w1 := Below.trans (by go_grown) (hb1.mono (by simp))
  have c1_0_0 : w1.cell? ⟨w.heap.size, 0, none⟩ = some (.int .i64 o0) := by rw [(bcell hb1).1 _ _ (by simp), new_at (by simp)]; rfl
  have c1_0_1 : w1.cell? ⟨w.heap.size, 1, none⟩ = some (.int .i64 s0) := by rw [(bcell hb1).1 _ _ (by simp), new_at (by simp)]; rfl
  have c1_0_2 : w1.cell? ⟨w.heap.size, 2, none⟩ = some (.int .i64 g0) := by rw [(bcell hb1).1 _ _ (by simp), new_at (by simp)]; rfl
  have c1_0_3 : w1.cell? ⟨w.heap.size, 3, none⟩ = some (.slice ad0 n0 cp0) := by rw [(bcell hb1).1 _ _ (by simp), new_at (by simp)]; rfl
  have c1_0_4 : w1.cell? ⟨w.heap.size, 4, none⟩ = some (.slice ae0 m0 cq0) := by rw [(bcell hb1).1 _ _ (by simp), new_at (by simp)]; rfl
  have B1 : Hid (Below w.heap.size w w1) := st1
  have d1_0 : w.heap.size < w1.heap.size := by omega
  have e1_0 : w.heap.size ≠ w1.heap.size := by omega
  clear st1 hb1
  go_wp2_with fail
  go_at_call 33
  refine (szLinkS_big ad1 n1 cp1 (1048576 - (n0 : Int) - (m0 : Int)) _ hx1 (by omega) (by omega) (by omega)).mono ?_
  rintro e w' ⟨rfl, rfl⟩
  go_wp2_with fail
  go_ret
  exact ⟨rfl, B1.out⟩

set_option linter.unusedVariables false in
set_option maxHeartbeats 2000000 in
theorem lawExactNextLsa_big2 (o0 s0 g0 : Int) (u0 v0 : Value) (n0 m0 : Nat) (Y0 Z0 : Nat → Int) (v1 : Value) (n1 : Nat) (Z1 : Nat → Int) (v2 : Value) (n2 : Nat) (Z2 : Nat → Int) (w : World) (hA0 : LArg w u0 v0 n0 m0 Y0 Z0) (hA1 : Arg 2 w v1 n1 Z1) (hA2 : Arg 3 w v2 n2 Z2) (hf : n0 + m0 + n1 ≤ 1048576) (hn : 1048576 < n0 + m0 + n1 + n2) :
    Calls Try.prog 10 #[.agg #[.int .i64 o0, .int .i64 s0, .int .i64 g0, u0, v0], v1, v2] w fun e w' => e = .returned (.bool true) ∧ Below w.heap.size w w' := by
  have hx0 := hA0.1.2.1
  have hy0 := hA0.2.2.1
  have HA0 := Lib.hid hA0
  obtain ⟨ad0, cp0, rfl⟩ := hA0.1.slice
  obtain ⟨ae0, cq0, rfl⟩ := hA0.2.slice
  clear hA0
  have hx1 := hA1.2.1
  have HA1 := Lib.hid hA1
  obtain ⟨ad1, cp1, rfl⟩ := hA1.slice
  clear hA1
  have hx2 := hA2.2.1
  have HA2 := Lib.hid hA2
  obtain ⟨ad2, cp2, rfl⟩ := hA2.slice
  clear hA2
  have H0 := fun w => szLsa_any o0 s0 g0 ad0 ae0 n0 cp0 m0 cq0 (1048576) w hx0 hy0 (by omega) (by omega)
  have hneg0 : ¬ ((1048576 : Int) - (n0 : Int) - (m0 : Int) < 0) := by omega
  simp only [if_neg hneg0] at H0
  have hneg1 : ¬ ((1048576 - (n0 : Int) - (m0 : Int) : Int) - (n1 : Int) < 0) := by omega
  have hneg2 : ((1048576 - (n0 : Int) - (m0 : Int) - (n1 : Int) : Int) - (n2 : Int) < 0) := by omega
  go_enter Try.func10, Try.ntmps10
  go_wp2_with fail
  go_at_call 11
  refine (H0 _).mono ?_
  rintro e w1 ⟨rfl, hb1⟩
  have sz1 : w.heap.size + 1 ≤ w1.heap.size := by have hh := hb1.size; simp at hh; omega
  have st1 : Below w.heap.size w w1 := Below.trans (by go_grown) (hb1.mono (by simp))
  have c1_0_0 : w1.cell? ⟨w.heap.size, 0, none⟩ = some (.int .i64 o0) := by rw [(bcell hb1).1 _ _ (by simp), new_at (by simp)]; rfl
  have c1_0_1 : w1.cell? ⟨w.heap.size, 1, none⟩ = some (.int .i64 s0) := by rw [(bcell hb1).1 _ _ (by simp), new_at (by simp)]; rfl
  have c1_0_2 : w1.cell? ⟨w.heap.size, 2, none⟩ = some (.int .i64 g0) := by rw [(bcell hb1).1 _ _ (by simp), new_at (by simp)]; rfl
  have c1_0_3 : w1.cell? ⟨w.heap.size, 3, none⟩ = some (.slice ad0 n0 cp0) := by rw [(bcell hb1).1 _ _ (by simp), new_at (by simp)]; rfl
  have c1_0_4 : w1.cell? ⟨w.heap.size, 4, none⟩ = some (.slice ae0 m0 cq0) := by rw [(bcell hb1).1 _ _ (by simp), new_at (by simp)]; rfl
  have B1 : Hid (Below w.heap.size w w1) := st1
  have d1_0 : w.heap.size < w1.heap.size := by omega
  have e1_0 : w.heap.size ≠ w1.heap.size := by omega
  clear st1 hb1
  go_wp2_with fail
  go_at_call 33
  refine (szLinkS_fit ad1 n1 cp1 (1048576 - (n0 : Int) - (m0 : Int)) _ hx1 (by omega) (by omega)).mono ?_
  rintro e w' ⟨rfl, rfl⟩
  go_wp2_with fail
  go_at_call 34
  refine (szStubS_big ad2 n2 cp2 (1048576 - (n0 : Int) - (m0 : Int) - (n1 : Int)) _ hx2 (by omega) (by omega) (by omega)).mono ?_
  rintro e w' ⟨rfl, rfl⟩
  go_wp2_with fail
  go_ret
  exact ⟨rfl, B1.out⟩

end Go.Proofs.Ytcaoohcfoccedaa
