/- The law of HistOf over contracts. -/
import Derived.Test.YtcchoiobdcaboaaGh
import Derived.Test.YtcchoiobdcaboaaGk
import Derived.Deep.DeepCutAuto
namespace Go.Proofs.Ytcchoiobdcaboaa
open Go.RowKit


set_option maxRecDepth 100000 in
set_option maxHeartbeats 8000000 in
theorem lawExactHistOf_fit (s : Value) (n : Nat) (D : List Int) (w : World) (hA : TArg w s D) (hn : D.length = n) (hd : D.length ≤ 1048576) (m : Nat) (tr : Int) (DR : List Int) (b : Bool) (hT : m ≤ 1100000)
    (hs : ∀ (lo hi : Nat) (v : Value) (w : World), Row 1 w lo hi v n D → hi ≤ w.heap.size → Calls Try.prog 17 #[v] w fun e w' => ∃ rv, e = .returned (.tuple #[.agg #[rv, .int .i64 tr], .bool b]) ∧ Row 1 w' w.heap.size w'.heap.size rv m DR ∧ Below w.heap.size w w')
    (hi : ∀ (lo hi : Nat) (v : Value) (w : World), Row 1 w lo hi v n D → hi ≤ w.heap.size → Calls Try.prog 16 #[v] w fun e w' => ∃ rv, e = .returned (.tuple #[.agg #[rv, .int .i64 tr], .bool b]) ∧ Row 1 w' w.heap.size w'.heap.size rv m DR ∧ Below w.heap.size w w') :
    Calls Try.prog 8 #[s] w fun e w' => e = .returned (.bool true) ∧ Below w.heap.size w w' := by
  have HA := Lib.hid hA
  obtain ⟨ad, cp, e0⟩ := hA.slice
  rw [hn] at e0
  subst e0
  have HN := Lib.hid hn
  have HDd := Lib.hid hd
  have Hs := Lib.hid hs
  have Hi := Lib.hid hi
  have hnb : n ≤ 1048576 := by omega
  have hng : ¬ ((n : Int) > 1048576) := by omega
  clear hA hs hi hn hd
  obtain ⟨KG, hKG⟩ : ∃ K : Int, K = 1 + ((m * 1 : Nat) : Int) := ⟨_, rfl⟩
  have hKG1 : ¬ (KG < 0) := by omega
  have hKG0 : 0 ≤ KG := by omega
  have HKG := Lib.hid hKG
  obtain ⟨KX, hKX⟩ : ∃ K : Int, K = 1 + ((n * 1 : Nat) : Int) := ⟨_, rfl⟩
  have hKX1 : ¬ (KX < 0) := by omega
  have HKX := Lib.hid hKX
  clear hKG hKX
  go_enter Try.func8, Try.ntmps8
  go_wp2_with fail
  go_at_call 38
  refine (toIntS_T _ D _ (HA.out.below (Below.refl _ _)) HDd.out).mono ?_
  rw [HN.out]
  rintro e v1 ⟨vW0, rfl, hr, hb1⟩
  have sz1 : w.heap.size ≤ v1.heap.size := hb1.size
  have st1 : Below w.heap.size w v1 := hb1
  have B1 : Hid (Below w.heap.size w v1) := st1
  have R1_0 : Hid (Row 1 v1 (w.heap.size) (v1.heap.size) vW0 n D) := hr
  clear st1 hr hb1
  obtain ⟨W0a, W0c, rfl⟩ := R1_0.out.slice
  go_wp2_with fail
  go_at_call 17
  refine (Hs.out _ _ _ _ R1_0.out (by first | omega | (simp; done) | (simp; omega) | fail)).mono ?_
  rintro e v2 ⟨vW, rfl, hr, hb2⟩
  have sz2 : v1.heap.size ≤ v2.heap.size := hb2.size
  have st2 : Below v1.heap.size v1 v2 := hb2
  have B2 : Hid (Below w.heap.size w v2) := B1.out.trans (st2.mono (by omega))
  have R2_0 : Hid (Row 1 v2 (w.heap.size) (v1.heap.size) (.slice W0a n W0c) n D) := R1_0.out.below st2 (by omega)
  have R2_1 : Hid (Row 1 v2 (v1.heap.size) (v2.heap.size) vW m DR) := hr
  clear B1 st2 R1_0 hr hb2
  obtain ⟨Wa, Wc, rfl⟩ := R2_1.out.slice
  go_wp2_with fail
  go_at_call 38
  refine (toIntS_T _ D _ (HA.out.below (Below.trans B2.out (by go_grown))) HDd.out).mono ?_
  rw [HN.out]
  rintro e v3 ⟨vX, rfl, hr, hb3⟩
  have sz3 : v2.heap.size + 1 ≤ v3.heap.size := by have hh := hb3.size; simp at hh; omega
  have st3 : Below v2.heap.size v2 v3 := Below.trans (by go_grown) (hb3.mono (by simp))
  have c3_0 : v3.cell? ⟨v2.heap.size, 0, none⟩ = some (.slice Wa m Wc) := by rw [(bcell hb3).1 _ _ (by simp)]; first | (rw [new_at (by simp)]; rfl) | simp
  have c3_1 : v3.cell? ⟨v2.heap.size, 1, none⟩ = some (.int .i64 tr) := by rw [(bcell hb3).1 _ _ (by simp)]; first | (rw [new_at (by simp)]; rfl) | simp
  have B3 : Hid (Below w.heap.size w v3) := B2.out.trans (st3.mono (by omega))
  have R3_0 : Hid (Row 1 v3 (w.heap.size) (v1.heap.size) (.slice W0a n W0c) n D) := R2_0.out.below st3 (by omega)
  have R3_1 : Hid (Row 1 v3 (v1.heap.size) (v2.heap.size) (.slice Wa m Wc) m DR) := R2_1.out.below st3 (by omega)
  have R3_2 : Hid (Row 1 v3 (v2.heap.size + 1) (v3.heap.size) vX n D) := hr.wide (by simp) (Nat.le_refl _)
  have d3_0 : v2.heap.size < v3.heap.size := by omega
  have e3_0 : v2.heap.size ≠ v3.heap.size := by omega
  clear B2 st3 R2_0 R2_1 hb3
  obtain ⟨Xa, Xc, rfl⟩ := R3_2.out.slice
  go_wp2_with fail
  go_at_call 16
  refine (Hi.out _ _ _ _ R3_2.out (by first | omega | (simp; done) | (simp; omega) | fail)).mono ?_
  rintro e v4 ⟨vG, rfl, hr, hb4⟩
  have sz4 : v3.heap.size ≤ v4.heap.size := hb4.size
  have st4 : Below v3.heap.size v3 v4 := hb4
  have c4_0 : v4.cell? ⟨v2.heap.size, 0, none⟩ = some (.slice Wa m Wc) := by rw [(bcell st4).1 _ _ (by omega)]; exact c3_0
  have c4_1 : v4.cell? ⟨v2.heap.size, 1, none⟩ = some (.int .i64 tr) := by rw [(bcell st4).1 _ _ (by omega)]; exact c3_1
  have B4 : Hid (Below w.heap.size w v4) := B3.out.trans (st4.mono (by omega))
  have R4_0 : Hid (Row 1 v4 (w.heap.size) (v1.heap.size) (.slice W0a n W0c) n D) := R3_0.out.below st4 (by omega)
  have R4_1 : Hid (Row 1 v4 (v1.heap.size) (v2.heap.size) (.slice Wa m Wc) m DR) := R3_1.out.below st4 (by omega)
  have R4_2 : Hid (Row 1 v4 (v2.heap.size + 1) (v3.heap.size) (.slice Xa n Xc) n D) := R3_2.out.below st4 (by omega)
  have R4_3 : Hid (Row 1 v4 (v3.heap.size) (v4.heap.size) vG m DR) := hr
  have d4_0 : v2.heap.size < v4.heap.size := by omega
  have e4_0 : v2.heap.size ≠ v4.heap.size := by omega
  clear d3_0 e3_0 c3_0 c3_1 B3 st4 R3_0 R3_1 R3_2 hr hb4
  obtain ⟨Ga, Gc, rfl⟩ := R4_3.out.slice
  go_wp2_with fail
  go_at_call 33
  refine (eqHist_same tr DR m _ _ _ _ _ _ _ (R4_3.out.below (B := v4.heap.size) (by go_grown) (by omega)) (R4_1.out.below (B := v4.heap.size) (by go_grown) (by omega)) (by first | omega | (simp; done) | (simp; omega) | fail) (by first | omega | (simp; done) | (simp; omega) | fail)).mono ?_
  rintro e v5 ⟨rfl, hb5⟩
  have sz5 : v4.heap.size + 1 ≤ v5.heap.size := by have hh := hb5.size; simp at hh; omega
  have st5 : Below v4.heap.size v4 v5 := Below.trans (by go_grown) (hb5.mono (by simp))
  have c5_0 : v5.cell? ⟨v2.heap.size, 0, none⟩ = some (.slice Wa m Wc) := by rw [(bcell st5).1 _ _ (by omega)]; exact c4_0
  have c5_1 : v5.cell? ⟨v2.heap.size, 1, none⟩ = some (.int .i64 tr) := by rw [(bcell st5).1 _ _ (by omega)]; exact c4_1
  have c5_2 : v5.cell? ⟨v4.heap.size, 0, none⟩ = some (.slice Ga m Gc) := by rw [(bcell hb5).1 _ _ (by simp)]; first | (rw [new_at (by simp)]; rfl) | simp
  have c5_3 : v5.cell? ⟨v4.heap.size, 1, none⟩ = some (.int .i64 tr) := by rw [(bcell hb5).1 _ _ (by simp)]; first | (rw [new_at (by simp)]; rfl) | simp
  have B5 : Hid (Below w.heap.size w v5) := B4.out.trans (st5.mono (by omega))
  have R5_0 : Hid (Row 1 v5 (w.heap.size) (v1.heap.size) (.slice W0a n W0c) n D) := R4_0.out.below st5 (by omega)
  have R5_1 : Hid (Row 1 v5 (v1.heap.size) (v2.heap.size) (.slice Wa m Wc) m DR) := R4_1.out.below st5 (by omega)
  have R5_2 : Hid (Row 1 v5 (v2.heap.size + 1) (v3.heap.size) (.slice Xa n Xc) n D) := R4_2.out.below st5 (by omega)
  have R5_3 : Hid (Row 1 v5 (v3.heap.size) (v4.heap.size) (.slice Ga m Gc) m DR) := R4_3.out.below st5 (by omega)
  have d5_0 : v2.heap.size < v5.heap.size := by omega
  have e5_0 : v2.heap.size ≠ v5.heap.size := by omega
  have d5_1 : v4.heap.size < v5.heap.size := by omega
  have e5_1 : v4.heap.size ≠ v5.heap.size := by omega
  clear d4_0 e4_0 c4_0 c4_1 B4 st5 R4_0 R4_1 R4_2 R4_3 hb5
  go_wp2_with fail
  go_at_call 38
  refine (toIntS_T _ D _ (HA.out.below B5.out) HDd.out).mono ?_
  rw [HN.out]
  rintro e v6 ⟨vY, rfl, hr, hb6⟩
  have sz6 : v5.heap.size ≤ v6.heap.size := hb6.size
  have st6 : Below v5.heap.size v5 v6 := hb6
  have c6_0 : v6.cell? ⟨v2.heap.size, 0, none⟩ = some (.slice Wa m Wc) := by rw [(bcell st6).1 _ _ (by omega)]; exact c5_0
  have c6_1 : v6.cell? ⟨v2.heap.size, 1, none⟩ = some (.int .i64 tr) := by rw [(bcell st6).1 _ _ (by omega)]; exact c5_1
  have c6_2 : v6.cell? ⟨v4.heap.size, 0, none⟩ = some (.slice Ga m Gc) := by rw [(bcell st6).1 _ _ (by omega)]; exact c5_2
  have c6_3 : v6.cell? ⟨v4.heap.size, 1, none⟩ = some (.int .i64 tr) := by rw [(bcell st6).1 _ _ (by omega)]; exact c5_3
  have B6 : Hid (Below w.heap.size w v6) := B5.out.trans (st6.mono (by omega))
  have R6_0 : Hid (Row 1 v6 (w.heap.size) (v1.heap.size) (.slice W0a n W0c) n D) := R5_0.out.below st6 (by omega)
  have R6_1 : Hid (Row 1 v6 (v1.heap.size) (v2.heap.size) (.slice Wa m Wc) m DR) := R5_1.out.below st6 (by omega)
  have R6_2 : Hid (Row 1 v6 (v2.heap.size + 1) (v3.heap.size) (.slice Xa n Xc) n D) := R5_2.out.below st6 (by omega)
  have R6_3 : Hid (Row 1 v6 (v3.heap.size) (v4.heap.size) (.slice Ga m Gc) m DR) := R5_3.out.below st6 (by omega)
  have R6_4 : Hid (Row 1 v6 (v5.heap.size) (v6.heap.size) vY n D) := hr
  have d6_0 : v2.heap.size < v6.heap.size := by omega
  have e6_0 : v2.heap.size ≠ v6.heap.size := by omega
  have d6_1 : v4.heap.size < v6.heap.size := by omega
  have e6_1 : v4.heap.size ≠ v6.heap.size := by omega
  clear d5_0 e5_0 d5_1 e5_1 c5_0 c5_1 c5_2 c5_3 B5 st6 R5_0 R5_1 R5_2 R5_3 hr hb6
  obtain ⟨Ya, Yc, rfl⟩ := R6_4.out.slice
  go_wp2_with fail
  go_at_call 39
  refine (eqIntS_same D n _ _ _ _ _ _ _ R6_2.out R6_4.out (by first | omega | (simp; done) | (simp; omega) | fail) (by first | omega | (simp; done) | (simp; omega) | fail)).mono ?_
  rintro e v7 ⟨rfl, hb7⟩
  have sz7 : v6.heap.size ≤ v7.heap.size := hb7.size
  have st7 : Below v6.heap.size v6 v7 := hb7
  have c7_0 : v7.cell? ⟨v2.heap.size, 0, none⟩ = some (.slice Wa m Wc) := by rw [(bcell st7).1 _ _ (by omega)]; exact c6_0
  have c7_1 : v7.cell? ⟨v2.heap.size, 1, none⟩ = some (.int .i64 tr) := by rw [(bcell st7).1 _ _ (by omega)]; exact c6_1
  have c7_2 : v7.cell? ⟨v4.heap.size, 0, none⟩ = some (.slice Ga m Gc) := by rw [(bcell st7).1 _ _ (by omega)]; exact c6_2
  have c7_3 : v7.cell? ⟨v4.heap.size, 1, none⟩ = some (.int .i64 tr) := by rw [(bcell st7).1 _ _ (by omega)]; exact c6_3
  have B7 : Hid (Below w.heap.size w v7) := B6.out.trans (st7.mono (by omega))
  have R7_0 : Hid (Row 1 v7 (w.heap.size) (v1.heap.size) (.slice W0a n W0c) n D) := R6_0.out.below st7 (by omega)
  have R7_1 : Hid (Row 1 v7 (v1.heap.size) (v2.heap.size) (.slice Wa m Wc) m DR) := R6_1.out.below st7 (by omega)
  have R7_2 : Hid (Row 1 v7 (v2.heap.size + 1) (v3.heap.size) (.slice Xa n Xc) n D) := R6_2.out.below st7 (by omega)
  have R7_3 : Hid (Row 1 v7 (v3.heap.size) (v4.heap.size) (.slice Ga m Gc) m DR) := R6_3.out.below st7 (by omega)
  have R7_4 : Hid (Row 1 v7 (v5.heap.size) (v6.heap.size) (.slice Ya n Yc) n D) := R6_4.out.below st7 (by omega)
  have d7_0 : v2.heap.size < v7.heap.size := by omega
  have e7_0 : v2.heap.size ≠ v7.heap.size := by omega
  have d7_1 : v4.heap.size < v7.heap.size := by omega
  have e7_1 : v4.heap.size ≠ v7.heap.size := by omega
  clear d6_0 e6_0 d6_1 e6_1 c6_0 c6_1 c6_2 c6_3 B6 st7 R6_0 R6_1 R6_2 R6_3 R6_4 hb7
  go_wp2_with fail
  go_at_call 40
  refine (markIntS_S 1 KX (by omega) (by omega) D n _ _ _ _ HKX.out R7_2.out (by omega)).mono ?_
  rintro e v8 ⟨rfl, hrm, hbm⟩
  have sz8 : v7.heap.size ≤ v8.heap.size := hbm.size
  have c8_0 : v8.cell? ⟨v2.heap.size, 0, none⟩ = some (.slice Wa m Wc) := by rw [hbm.cell (by omega) (by omega)]; exact c7_0
  have c8_1 : v8.cell? ⟨v2.heap.size, 1, none⟩ = some (.int .i64 tr) := by rw [hbm.cell (by omega) (by omega)]; exact c7_1
  have c8_2 : v8.cell? ⟨v4.heap.size, 0, none⟩ = some (.slice Ga m Gc) := by rw [hbm.cell (by omega) (by omega)]; exact c7_2
  have c8_3 : v8.cell? ⟨v4.heap.size, 1, none⟩ = some (.int .i64 tr) := by rw [hbm.cell (by omega) (by omega)]; exact c7_3
  have B8 : Hid (Below w.heap.size w v8) := B7.out.trans (hbm.below (by omega) (by omega))
  have R8_1 : Hid (Row 1 v8 (v1.heap.size) (v2.heap.size) (.slice Wa m Wc) m DR) := hbm.row R7_1.out (by omega) (by omega)
  have R8_2 : Hid (Row 1 v8 (v2.heap.size + 1) (v3.heap.size) (.slice Xa n Xc) n (marks 1 (n * 1))) := hrm
  have R8_3 : Hid (Row 1 v8 (v3.heap.size) (v4.heap.size) (.slice Ga m Gc) m DR) := hbm.row R7_3.out (by omega) (by omega)
  have d8_0 : v2.heap.size < v8.heap.size := by omega
  have e8_0 : v2.heap.size ≠ v8.heap.size := by omega
  have d8_1 : v4.heap.size < v8.heap.size := by omega
  have e8_1 : v4.heap.size ≠ v8.heap.size := by omega
  clear d7_0 e7_0 d7_1 e7_1 c7_0 c7_1 c7_2 c7_3 B7 R7_0 R7_1 R7_2 R7_3 R7_4 hrm hbm
  go_wp2_with fail
  go_at_call 33
  refine (eqHist_same tr DR m _ _ _ _ _ _ _ R8_3.out R8_1.out (by first | omega | (simp; done) | (simp; omega) | fail) (by first | omega | (simp; done) | (simp; omega) | fail)).mono ?_
  rintro e v9 ⟨rfl, hb9⟩
  have sz9 : v8.heap.size ≤ v9.heap.size := hb9.size
  have st9 : Below v8.heap.size v8 v9 := hb9
  have c9_0 : v9.cell? ⟨v2.heap.size, 0, none⟩ = some (.slice Wa m Wc) := by rw [(bcell st9).1 _ _ (by omega)]; exact c8_0
  have c9_1 : v9.cell? ⟨v2.heap.size, 1, none⟩ = some (.int .i64 tr) := by rw [(bcell st9).1 _ _ (by omega)]; exact c8_1
  have c9_2 : v9.cell? ⟨v4.heap.size, 0, none⟩ = some (.slice Ga m Gc) := by rw [(bcell st9).1 _ _ (by omega)]; exact c8_2
  have c9_3 : v9.cell? ⟨v4.heap.size, 1, none⟩ = some (.int .i64 tr) := by rw [(bcell st9).1 _ _ (by omega)]; exact c8_3
  have B9 : Hid (Below w.heap.size w v9) := B8.out.trans (st9.mono (by omega))
  have R9_0 : Hid (Row 1 v9 (v1.heap.size) (v2.heap.size) (.slice Wa m Wc) m DR) := R8_1.out.below st9 (by omega)
  have R9_1 : Hid (Row 1 v9 (v2.heap.size + 1) (v3.heap.size) (.slice Xa n Xc) n (marks 1 (n * 1))) := R8_2.out.below st9 (by omega)
  have R9_2 : Hid (Row 1 v9 (v3.heap.size) (v4.heap.size) (.slice Ga m Gc) m DR) := R8_3.out.below st9 (by omega)
  have d9_0 : v2.heap.size < v9.heap.size := by omega
  have e9_0 : v2.heap.size ≠ v9.heap.size := by omega
  have d9_1 : v4.heap.size < v9.heap.size := by omega
  have e9_1 : v4.heap.size ≠ v9.heap.size := by omega
  clear d8_0 e8_0 d8_1 e8_1 c8_0 c8_1 c8_2 c8_3 B8 st9 R8_1 R8_2 R8_3 hb9
  go_wp2_with fail
  go_at_call 36
  refine (markHist_S 1 KG _ (by omega) (by omega) DR m _ _ _ _ HKG.out R9_2.out (by omega) (by omega)).mono ?_
  rintro e v10 ⟨rfl, hrm, hbm⟩
  have sz10 : v9.heap.size ≤ v10.heap.size := hbm.size
  have c10_0 : v10.cell? ⟨v2.heap.size, 0, none⟩ = some (.slice Wa m Wc) := by rw [hbm.cell (by omega) (by omega)]; exact c9_0
  have c10_1 : v10.cell? ⟨v2.heap.size, 1, none⟩ = some (.int .i64 tr) := by rw [hbm.cell (by omega) (by omega)]; exact c9_1
  have c10_2 : v10.cell? ⟨v4.heap.size, 0, none⟩ = some (.slice Ga m Gc) := by rw [hbm.cell (by omega) (by omega)]; exact c9_2
  have c10_3 : v10.cell? ⟨v4.heap.size, 1, none⟩ = some (.int .i64 tr) := by rw [hbm.cell (by omega) (by omega)]; exact c9_3
  have B10 : Hid (Below w.heap.size w v10) := B9.out.trans (hbm.below (by omega) (by omega))
  have R10_0 : Hid (Row 1 v10 (v1.heap.size) (v2.heap.size) (.slice Wa m Wc) m DR) := hbm.row R9_0.out (by omega) (by omega)
  have R10_1 : Hid (Row 1 v10 (v2.heap.size + 1) (v3.heap.size) (.slice Xa n Xc) n (marks 1 (n * 1))) := hbm.row R9_1.out (by omega) (by omega)
  have R10_2 : Hid (Row 1 v10 (v3.heap.size) (v4.heap.size) (.slice Ga m Gc) m (marks 1 (m * 1))) := hrm
  have d10_0 : v2.heap.size < v10.heap.size := by omega
  have e10_0 : v2.heap.size ≠ v10.heap.size := by omega
  have d10_1 : v4.heap.size < v10.heap.size := by omega
  have e10_1 : v4.heap.size ≠ v10.heap.size := by omega
  clear d9_0 e9_0 d9_1 e9_1 c9_0 c9_1 c9_2 c9_3 B9 R9_0 R9_1 R9_2 hrm hbm
  go_wp2_with fail
  go_at_call 37
  refine (heldHist_K KG _ m _ _ _ _ HKG.out R10_2.out (by first | omega | (simp; done) | (simp; omega) | fail) (by omega)).mono ?_
  rintro e v11 ⟨rfl, hb11⟩
  have sz11 : v10.heap.size ≤ v11.heap.size := hb11.size
  have st11 : Below v10.heap.size v10 v11 := hb11
  have c11_0 : v11.cell? ⟨v2.heap.size, 0, none⟩ = some (.slice Wa m Wc) := by rw [(bcell st11).1 _ _ (by omega)]; exact c10_0
  have c11_1 : v11.cell? ⟨v2.heap.size, 1, none⟩ = some (.int .i64 tr) := by rw [(bcell st11).1 _ _ (by omega)]; exact c10_1
  have c11_2 : v11.cell? ⟨v4.heap.size, 0, none⟩ = some (.slice Ga m Gc) := by rw [(bcell st11).1 _ _ (by omega)]; exact c10_2
  have c11_3 : v11.cell? ⟨v4.heap.size, 1, none⟩ = some (.int .i64 tr) := by rw [(bcell st11).1 _ _ (by omega)]; exact c10_3
  have B11 : Hid (Below w.heap.size w v11) := B10.out.trans (st11.mono (by omega))
  have R11_0 : Hid (Row 1 v11 (v1.heap.size) (v2.heap.size) (.slice Wa m Wc) m DR) := R10_0.out.below st11 (by omega)
  have R11_1 : Hid (Row 1 v11 (v2.heap.size + 1) (v3.heap.size) (.slice Xa n Xc) n (marks 1 (n * 1))) := R10_1.out.below st11 (by omega)
  have R11_2 : Hid (Row 1 v11 (v3.heap.size) (v4.heap.size) (.slice Ga m Gc) m (marks 1 (m * 1))) := R10_2.out.below st11 (by omega)
  have d11_0 : v2.heap.size < v11.heap.size := by omega
  have e11_0 : v2.heap.size ≠ v11.heap.size := by omega
  have d11_1 : v4.heap.size < v11.heap.size := by omega
  have e11_1 : v4.heap.size ≠ v11.heap.size := by omega
  clear d10_0 e10_0 d10_1 e10_1 c10_0 c10_1 c10_2 c10_3 B10 st11 R10_0 R10_1 R10_2 hb11
  go_wp2_with fail
  go_at_call 38
  refine (toIntS_T _ D _ (HA.out.below B11.out) HDd.out).mono ?_
  rw [HN.out]
  rintro e v12 ⟨vH0, rfl, hr, hb12⟩
  have sz12 : v11.heap.size ≤ v12.heap.size := hb12.size
  have st12 : Below v11.heap.size v11 v12 := hb12
  have c12_0 : v12.cell? ⟨v2.heap.size, 0, none⟩ = some (.slice Wa m Wc) := by rw [(bcell st12).1 _ _ (by omega)]; exact c11_0
  have c12_1 : v12.cell? ⟨v2.heap.size, 1, none⟩ = some (.int .i64 tr) := by rw [(bcell st12).1 _ _ (by omega)]; exact c11_1
  have c12_2 : v12.cell? ⟨v4.heap.size, 0, none⟩ = some (.slice Ga m Gc) := by rw [(bcell st12).1 _ _ (by omega)]; exact c11_2
  have c12_3 : v12.cell? ⟨v4.heap.size, 1, none⟩ = some (.int .i64 tr) := by rw [(bcell st12).1 _ _ (by omega)]; exact c11_3
  have B12 : Hid (Below w.heap.size w v12) := B11.out.trans (st12.mono (by omega))
  have R12_0 : Hid (Row 1 v12 (v1.heap.size) (v2.heap.size) (.slice Wa m Wc) m DR) := R11_0.out.below st12 (by omega)
  have R12_1 : Hid (Row 1 v12 (v2.heap.size + 1) (v3.heap.size) (.slice Xa n Xc) n (marks 1 (n * 1))) := R11_1.out.below st12 (by omega)
  have R12_2 : Hid (Row 1 v12 (v3.heap.size) (v4.heap.size) (.slice Ga m Gc) m (marks 1 (m * 1))) := R11_2.out.below st12 (by omega)
  have R12_3 : Hid (Row 1 v12 (v11.heap.size) (v12.heap.size) vH0 n D) := hr
  have d12_0 : v2.heap.size < v12.heap.size := by omega
  have e12_0 : v2.heap.size ≠ v12.heap.size := by omega
  have d12_1 : v4.heap.size < v12.heap.size := by omega
  have e12_1 : v4.heap.size ≠ v12.heap.size := by omega
  clear d11_0 e11_0 d11_1 e11_1 c11_0 c11_1 c11_2 c11_3 B11 st12 R11_0 R11_1 R11_2 hr hb12
  obtain ⟨H0a, H0c, rfl⟩ := R12_3.out.slice
  go_wp2_with fail
  go_at_call 16
  refine (Hi.out _ _ _ _ R12_3.out (by first | omega | (simp; done) | (simp; omega) | fail)).mono ?_
  rintro e v13 ⟨vH, rfl, hr, hb13⟩
  have sz13 : v12.heap.size ≤ v13.heap.size := hb13.size
  have st13 : Below v12.heap.size v12 v13 := hb13
  have c13_0 : v13.cell? ⟨v2.heap.size, 0, none⟩ = some (.slice Wa m Wc) := by rw [(bcell st13).1 _ _ (by omega)]; exact c12_0
  have c13_1 : v13.cell? ⟨v2.heap.size, 1, none⟩ = some (.int .i64 tr) := by rw [(bcell st13).1 _ _ (by omega)]; exact c12_1
  have c13_2 : v13.cell? ⟨v4.heap.size, 0, none⟩ = some (.slice Ga m Gc) := by rw [(bcell st13).1 _ _ (by omega)]; exact c12_2
  have c13_3 : v13.cell? ⟨v4.heap.size, 1, none⟩ = some (.int .i64 tr) := by rw [(bcell st13).1 _ _ (by omega)]; exact c12_3
  have B13 : Hid (Below w.heap.size w v13) := B12.out.trans (st13.mono (by omega))
  have R13_0 : Hid (Row 1 v13 (v1.heap.size) (v2.heap.size) (.slice Wa m Wc) m DR) := R12_0.out.below st13 (by omega)
  have R13_1 : Hid (Row 1 v13 (v2.heap.size + 1) (v3.heap.size) (.slice Xa n Xc) n (marks 1 (n * 1))) := R12_1.out.below st13 (by omega)
  have R13_2 : Hid (Row 1 v13 (v3.heap.size) (v4.heap.size) (.slice Ga m Gc) m (marks 1 (m * 1))) := R12_2.out.below st13 (by omega)
  have R13_3 : Hid (Row 1 v13 (v11.heap.size) (v12.heap.size) (.slice H0a n H0c) n D) := R12_3.out.below st13 (by omega)
  have R13_4 : Hid (Row 1 v13 (v12.heap.size) (v13.heap.size) vH m DR) := hr
  have d13_0 : v2.heap.size < v13.heap.size := by omega
  have e13_0 : v2.heap.size ≠ v13.heap.size := by omega
  have d13_1 : v4.heap.size < v13.heap.size := by omega
  have e13_1 : v4.heap.size ≠ v13.heap.size := by omega
  clear d12_0 e12_0 d12_1 e12_1 c12_0 c12_1 c12_2 c12_3 B12 st13 R12_0 R12_1 R12_2 R12_3 hr hb13
  obtain ⟨Ha, Hc, rfl⟩ := R13_4.out.slice
  go_wp2_with fail
  go_at_call 33
  refine (eqHist_same tr DR m _ _ _ _ _ _ _ (R13_4.out.below (B := v13.heap.size) (by go_grown) (by omega)) (R13_0.out.below (B := v13.heap.size) (by go_grown) (by omega)) (by first | omega | (simp; done) | (simp; omega) | fail) (by first | omega | (simp; done) | (simp; omega) | fail)).mono ?_
  rintro e v14 ⟨rfl, hb14⟩
  have sz14 : v13.heap.size + 1 ≤ v14.heap.size := by have hh := hb14.size; simp at hh; omega
  have st14 : Below v13.heap.size v13 v14 := Below.trans (by go_grown) (hb14.mono (by simp))
  have c14_0 : v14.cell? ⟨v2.heap.size, 0, none⟩ = some (.slice Wa m Wc) := by rw [(bcell st14).1 _ _ (by omega)]; exact c13_0
  have c14_1 : v14.cell? ⟨v2.heap.size, 1, none⟩ = some (.int .i64 tr) := by rw [(bcell st14).1 _ _ (by omega)]; exact c13_1
  have c14_2 : v14.cell? ⟨v4.heap.size, 0, none⟩ = some (.slice Ga m Gc) := by rw [(bcell st14).1 _ _ (by omega)]; exact c13_2
  have c14_3 : v14.cell? ⟨v4.heap.size, 1, none⟩ = some (.int .i64 tr) := by rw [(bcell st14).1 _ _ (by omega)]; exact c13_3
  have c14_4 : v14.cell? ⟨v13.heap.size, 0, none⟩ = some (.slice Ha m Hc) := by rw [(bcell hb14).1 _ _ (by simp)]; first | (rw [new_at (by simp)]; rfl) | simp
  have c14_5 : v14.cell? ⟨v13.heap.size, 1, none⟩ = some (.int .i64 tr) := by rw [(bcell hb14).1 _ _ (by simp)]; first | (rw [new_at (by simp)]; rfl) | simp
  have B14 : Hid (Below w.heap.size w v14) := B13.out.trans (st14.mono (by omega))
  have R14_0 : Hid (Row 1 v14 (v1.heap.size) (v2.heap.size) (.slice Wa m Wc) m DR) := R13_0.out.below st14 (by omega)
  have R14_1 : Hid (Row 1 v14 (v2.heap.size + 1) (v3.heap.size) (.slice Xa n Xc) n (marks 1 (n * 1))) := R13_1.out.below st14 (by omega)
  have R14_2 : Hid (Row 1 v14 (v3.heap.size) (v4.heap.size) (.slice Ga m Gc) m (marks 1 (m * 1))) := R13_2.out.below st14 (by omega)
  have R14_3 : Hid (Row 1 v14 (v11.heap.size) (v12.heap.size) (.slice H0a n H0c) n D) := R13_3.out.below st14 (by omega)
  have R14_4 : Hid (Row 1 v14 (v12.heap.size) (v13.heap.size) (.slice Ha m Hc) m DR) := R13_4.out.below st14 (by omega)
  have d14_0 : v2.heap.size < v14.heap.size := by omega
  have e14_0 : v2.heap.size ≠ v14.heap.size := by omega
  have d14_1 : v4.heap.size < v14.heap.size := by omega
  have e14_1 : v4.heap.size ≠ v14.heap.size := by omega
  have d14_2 : v13.heap.size < v14.heap.size := by omega
  have e14_2 : v13.heap.size ≠ v14.heap.size := by omega
  clear d13_0 e13_0 d13_1 e13_1 c13_0 c13_1 c13_2 c13_3 B13 st14 R13_0 R13_1 R13_2 R13_3 R13_4 hb14
  go_wp2_with fail
  go_at_call 37
  refine (heldHist_K KG _ m _ _ _ _ HKG.out R14_2.out (by first | omega | (simp; done) | (simp; omega) | fail) (by omega)).mono ?_
  rintro e v15 ⟨rfl, hb15⟩
  have sz15 : v14.heap.size ≤ v15.heap.size := hb15.size
  have st15 : Below v14.heap.size v14 v15 := hb15
  have c15_0 : v15.cell? ⟨v2.heap.size, 0, none⟩ = some (.slice Wa m Wc) := by rw [(bcell st15).1 _ _ (by omega)]; exact c14_0
  have c15_1 : v15.cell? ⟨v2.heap.size, 1, none⟩ = some (.int .i64 tr) := by rw [(bcell st15).1 _ _ (by omega)]; exact c14_1
  have c15_2 : v15.cell? ⟨v4.heap.size, 0, none⟩ = some (.slice Ga m Gc) := by rw [(bcell st15).1 _ _ (by omega)]; exact c14_2
  have c15_3 : v15.cell? ⟨v4.heap.size, 1, none⟩ = some (.int .i64 tr) := by rw [(bcell st15).1 _ _ (by omega)]; exact c14_3
  have c15_4 : v15.cell? ⟨v13.heap.size, 0, none⟩ = some (.slice Ha m Hc) := by rw [(bcell st15).1 _ _ (by omega)]; exact c14_4
  have c15_5 : v15.cell? ⟨v13.heap.size, 1, none⟩ = some (.int .i64 tr) := by rw [(bcell st15).1 _ _ (by omega)]; exact c14_5
  have B15 : Hid (Below w.heap.size w v15) := B14.out.trans (st15.mono (by omega))
  have R15_0 : Hid (Row 1 v15 (v1.heap.size) (v2.heap.size) (.slice Wa m Wc) m DR) := R14_0.out.below st15 (by omega)
  have R15_1 : Hid (Row 1 v15 (v2.heap.size + 1) (v3.heap.size) (.slice Xa n Xc) n (marks 1 (n * 1))) := R14_1.out.below st15 (by omega)
  have R15_2 : Hid (Row 1 v15 (v3.heap.size) (v4.heap.size) (.slice Ga m Gc) m (marks 1 (m * 1))) := R14_2.out.below st15 (by omega)
  have R15_3 : Hid (Row 1 v15 (v11.heap.size) (v12.heap.size) (.slice H0a n H0c) n D) := R14_3.out.below st15 (by omega)
  have R15_4 : Hid (Row 1 v15 (v12.heap.size) (v13.heap.size) (.slice Ha m Hc) m DR) := R14_4.out.below st15 (by omega)
  have d15_0 : v2.heap.size < v15.heap.size := by omega
  have e15_0 : v2.heap.size ≠ v15.heap.size := by omega
  have d15_1 : v4.heap.size < v15.heap.size := by omega
  have e15_1 : v4.heap.size ≠ v15.heap.size := by omega
  have d15_2 : v13.heap.size < v15.heap.size := by omega
  have e15_2 : v13.heap.size ≠ v15.heap.size := by omega
  clear d14_0 e14_0 d14_1 e14_1 d14_2 e14_2 c14_0 c14_1 c14_2 c14_3 c14_4 c14_5 B14 st15 R14_0 R14_1 R14_2 R14_3 R14_4 hb15
  go_wp2_with fail
  go_ret
  exact ⟨rfl, B15.out⟩

set_option maxRecDepth 100000 in
set_option maxHeartbeats 4000000 in
theorem lawExactHistOf_big (s : Value) (D : List Int) (w : World) (hA : TArg w s D) (hd : 1048576 < D.length) :
    Calls Try.prog 8 #[s] w fun e w' => e = .returned (.bool true) ∧ Below w.heap.size w w' := by
  have hm := hA.len
  obtain ⟨ad, cp, rfl⟩ := hA.slice
  clear hA
  obtain ⟨n, hn⟩ : ∃ n, n = D.length := ⟨_, rfl⟩
  rw [← hn] at hd hm ⊢
  clear hn
  unfold maxLen at hm
  have hg : (n : Int) > 1048576 := by omega
  go_enter Try.func8, Try.ntmps8
  go_wp2
  go_ret
  exact ⟨rfl, Below.refl _ _⟩

end Go.Proofs.Ytcchoiobdcaboaa
