/- The law of NewArchive over contracts. -/
import Derived.Test.YtnaifkmganngfaaKc
namespace Go.Proofs.Ytnaifkmganngfaa
open Go.RowKit


set_option maxRecDepth 100000 in
set_option maxHeartbeats 8000000 in
theorem lawExactNewArchive_all (w : World) (m : Nat) (tr : Int) (DR : List (List Rw)) (hT : rtot DR ≤ 1100000)
    (hs : ∀ w : World, Calls Try.prog 26 #[] w fun e w' => ∃ rv, e = .returned (.agg #[rv, .int .i64 tr]) ∧ KRow w' w.heap.size w'.heap.size rv m DR ∧ Below w.heap.size w w')
    (hi : ∀ w : World, Calls Try.prog 27 #[] w fun e w' => ∃ rv, e = .returned (.agg #[rv, .int .i64 tr]) ∧ KRow w' w.heap.size w'.heap.size rv m DR ∧ Below w.heap.size w w') :
    Calls Try.prog 5 #[] w fun e w' => e = .returned (.bool true) ∧ Below w.heap.size w w' := by
  have Hs := Lib.hid hs
  have Hi := Lib.hid hi
  clear hs hi
  obtain ⟨KG, hKG⟩ : ∃ K : Int, K = 1 + ((rtot DR * 5 : Nat) : Int) := ⟨_, rfl⟩
  have hKG1 : ¬ (KG < 0) := by omega
  have hKG0 : 0 ≤ KG := by omega
  have HKG := Lib.hid hKG
  clear hKG
  go_enter Try.func5, Try.ntmps5
  go_wp2_with fail
  go_at_call 26
  refine (Hs.out _).mono ?_
  rintro e v1 ⟨vW, rfl, hr, hb1⟩
  have sz1 : w.heap.size ≤ v1.heap.size := hb1.size
  have st1 : Below w.heap.size w v1 := hb1
  have B1 : Hid (Below w.heap.size w v1) := st1
  have R1_0 : Hid (KRow v1 (w.heap.size) (v1.heap.size) vW m DR) := hr
  clear st1 hr hb1
  obtain ⟨Wa, Wc, rfl⟩ := R1_0.out.slice
  go_wp2_with fail
  go_at_call 27
  refine (Hi.out _).mono ?_
  rintro e v2 ⟨vG, rfl, hr, hb2⟩
  have sz2 : v1.heap.size + 1 ≤ v2.heap.size := by have hh := hb2.size; simp at hh; omega
  have st2 : Below v1.heap.size v1 v2 := Below.trans (by go_grown) (hb2.mono (by simp))
  have c2_0 : v2.cell? ⟨v1.heap.size, 0, none⟩ = some (.slice Wa m Wc) := by rw [(bcell hb2).1 _ _ (by simp)]; first | (rw [new_at (by simp)]; rfl) | simp
  have c2_1 : v2.cell? ⟨v1.heap.size, 1, none⟩ = some (.int .i64 tr) := by rw [(bcell hb2).1 _ _ (by simp)]; first | (rw [new_at (by simp)]; rfl) | simp
  have B2 : Hid (Below w.heap.size w v2) := B1.out.trans (st2.mono (by omega))
  have R2_0 : Hid (KRow v2 (w.heap.size) (v1.heap.size) (.slice Wa m Wc) m DR) := R1_0.out.below st2 (by omega)
  have R2_1 : Hid (KRow v2 (v1.heap.size + 1) (v2.heap.size) vG m DR) := hr.wide (by simp) (Nat.le_refl _)
  have d2_0 : v1.heap.size < v2.heap.size := by omega
  have e2_0 : v1.heap.size ≠ v2.heap.size := by omega
  clear B1 st2 R1_0 hb2
  obtain ⟨Ga, Gc, rfl⟩ := R2_1.out.slice
  go_wp2_with fail
  go_at_call 25
  refine (eqArchive_same tr DR m _ _ _ _ _ _ _ (R2_1.out.below (B := v2.heap.size) (by go_grown) (by omega)) (R2_0.out.below (B := v2.heap.size) (by go_grown) (by omega)) (by first | omega | (simp; done) | (simp; omega) | fail) (by first | omega | (simp; done) | (simp; omega) | fail)).mono ?_
  rintro e v3 ⟨rfl, hb3⟩
  have sz3 : v2.heap.size + 1 ≤ v3.heap.size := by have hh := hb3.size; simp at hh; omega
  have st3 : Below v2.heap.size v2 v3 := Below.trans (by go_grown) (hb3.mono (by simp))
  have c3_0 : v3.cell? ⟨v1.heap.size, 0, none⟩ = some (.slice Wa m Wc) := by rw [(bcell st3).1 _ _ (by omega)]; exact c2_0
  have c3_1 : v3.cell? ⟨v1.heap.size, 1, none⟩ = some (.int .i64 tr) := by rw [(bcell st3).1 _ _ (by omega)]; exact c2_1
  have c3_2 : v3.cell? ⟨v2.heap.size, 0, none⟩ = some (.slice Ga m Gc) := by rw [(bcell hb3).1 _ _ (by simp)]; first | (rw [new_at (by simp)]; rfl) | simp
  have c3_3 : v3.cell? ⟨v2.heap.size, 1, none⟩ = some (.int .i64 tr) := by rw [(bcell hb3).1 _ _ (by simp)]; first | (rw [new_at (by simp)]; rfl) | simp
  have B3 : Hid (Below w.heap.size w v3) := B2.out.trans (st3.mono (by omega))
  have R3_0 : Hid (KRow v3 (w.heap.size) (v1.heap.size) (.slice Wa m Wc) m DR) := R2_0.out.below st3 (by omega)
  have R3_1 : Hid (KRow v3 (v1.heap.size + 1) (v2.heap.size) (.slice Ga m Gc) m DR) := R2_1.out.below st3 (by omega)
  have d3_0 : v1.heap.size < v3.heap.size := by omega
  have e3_0 : v1.heap.size ≠ v3.heap.size := by omega
  have d3_1 : v2.heap.size < v3.heap.size := by omega
  have e3_1 : v2.heap.size ≠ v3.heap.size := by omega
  clear d2_0 e2_0 c2_0 c2_1 B2 st3 R2_0 R2_1 hb3
  go_wp2_with fail
  go_at_call 28
  refine (markArchive_M KG _ DR m _ _ _ _ HKG.out R3_1.out (by omega) (by omega)).mono ?_
  rintro e v4 ⟨rfl, hrm, hbm⟩
  have sz4 : v3.heap.size ≤ v4.heap.size := hbm.size
  have c4_0 : v4.cell? ⟨v1.heap.size, 0, none⟩ = some (.slice Wa m Wc) := by rw [hbm.cell (by omega) (by omega)]; exact c3_0
  have c4_1 : v4.cell? ⟨v1.heap.size, 1, none⟩ = some (.int .i64 tr) := by rw [hbm.cell (by omega) (by omega)]; exact c3_1
  have c4_2 : v4.cell? ⟨v2.heap.size, 0, none⟩ = some (.slice Ga m Gc) := by rw [hbm.cell (by omega) (by omega)]; exact c3_2
  have c4_3 : v4.cell? ⟨v2.heap.size, 1, none⟩ = some (.int .i64 tr) := by rw [hbm.cell (by omega) (by omega)]; exact c3_3
  have B4 : Hid (Below w.heap.size w v4) := B3.out.trans (hbm.below (by omega) (by omega))
  have R4_0 : Hid (KRow v4 (w.heap.size) (v1.heap.size) (.slice Wa m Wc) m DR) := hbm.krow R3_0.out (by omega) (by omega)
  have R4_1 : Hid (MRow v4 (v1.heap.size + 1) (v2.heap.size) (.slice Ga m Gc) m DR) := hrm
  have d4_0 : v1.heap.size < v4.heap.size := by omega
  have e4_0 : v1.heap.size ≠ v4.heap.size := by omega
  have d4_1 : v2.heap.size < v4.heap.size := by omega
  have e4_1 : v2.heap.size ≠ v4.heap.size := by omega
  clear d3_0 e3_0 d3_1 e3_1 c3_0 c3_1 c3_2 c3_3 B3 R3_0 R3_1 hrm hbm
  go_wp2_with fail
  go_at_call 29
  refine (heldArchive_K KG _ DR m _ _ _ _ HKG.out R4_1.out (by first | omega | (simp; done) | (simp; omega) | fail) (by omega)).mono ?_
  rintro e v5 ⟨rfl, hb5⟩
  have sz5 : v4.heap.size ≤ v5.heap.size := hb5.size
  have st5 : Below v4.heap.size v4 v5 := hb5
  have c5_0 : v5.cell? ⟨v1.heap.size, 0, none⟩ = some (.slice Wa m Wc) := by rw [(bcell st5).1 _ _ (by omega)]; exact c4_0
  have c5_1 : v5.cell? ⟨v1.heap.size, 1, none⟩ = some (.int .i64 tr) := by rw [(bcell st5).1 _ _ (by omega)]; exact c4_1
  have c5_2 : v5.cell? ⟨v2.heap.size, 0, none⟩ = some (.slice Ga m Gc) := by rw [(bcell st5).1 _ _ (by omega)]; exact c4_2
  have c5_3 : v5.cell? ⟨v2.heap.size, 1, none⟩ = some (.int .i64 tr) := by rw [(bcell st5).1 _ _ (by omega)]; exact c4_3
  have B5 : Hid (Below w.heap.size w v5) := B4.out.trans (st5.mono (by omega))
  have R5_0 : Hid (KRow v5 (w.heap.size) (v1.heap.size) (.slice Wa m Wc) m DR) := R4_0.out.below st5 (by omega)
  have R5_1 : Hid (MRow v5 (v1.heap.size + 1) (v2.heap.size) (.slice Ga m Gc) m DR) := R4_1.out.below st5 (by omega)
  have d5_0 : v1.heap.size < v5.heap.size := by omega
  have e5_0 : v1.heap.size ≠ v5.heap.size := by omega
  have d5_1 : v2.heap.size < v5.heap.size := by omega
  have e5_1 : v2.heap.size ≠ v5.heap.size := by omega
  clear d4_0 e4_0 d4_1 e4_1 c4_0 c4_1 c4_2 c4_3 B4 st5 R4_0 R4_1 hb5
  go_wp2_with fail
  go_at_call 27
  refine (Hi.out _).mono ?_
  rintro e v6 ⟨vH, rfl, hr, hb6⟩
  have sz6 : v5.heap.size ≤ v6.heap.size := hb6.size
  have st6 : Below v5.heap.size v5 v6 := hb6
  have c6_0 : v6.cell? ⟨v1.heap.size, 0, none⟩ = some (.slice Wa m Wc) := by rw [(bcell st6).1 _ _ (by omega)]; exact c5_0
  have c6_1 : v6.cell? ⟨v1.heap.size, 1, none⟩ = some (.int .i64 tr) := by rw [(bcell st6).1 _ _ (by omega)]; exact c5_1
  have c6_2 : v6.cell? ⟨v2.heap.size, 0, none⟩ = some (.slice Ga m Gc) := by rw [(bcell st6).1 _ _ (by omega)]; exact c5_2
  have c6_3 : v6.cell? ⟨v2.heap.size, 1, none⟩ = some (.int .i64 tr) := by rw [(bcell st6).1 _ _ (by omega)]; exact c5_3
  have B6 : Hid (Below w.heap.size w v6) := B5.out.trans (st6.mono (by omega))
  have R6_0 : Hid (KRow v6 (w.heap.size) (v1.heap.size) (.slice Wa m Wc) m DR) := R5_0.out.below st6 (by omega)
  have R6_1 : Hid (MRow v6 (v1.heap.size + 1) (v2.heap.size) (.slice Ga m Gc) m DR) := R5_1.out.below st6 (by omega)
  have R6_2 : Hid (KRow v6 (v5.heap.size) (v6.heap.size) vH m DR) := hr
  have d6_0 : v1.heap.size < v6.heap.size := by omega
  have e6_0 : v1.heap.size ≠ v6.heap.size := by omega
  have d6_1 : v2.heap.size < v6.heap.size := by omega
  have e6_1 : v2.heap.size ≠ v6.heap.size := by omega
  clear d5_0 e5_0 d5_1 e5_1 c5_0 c5_1 c5_2 c5_3 B5 st6 R5_0 R5_1 hr hb6
  obtain ⟨Ha, Hc, rfl⟩ := R6_2.out.slice
  go_wp2_with fail
  go_at_call 25
  refine (eqArchive_same tr DR m _ _ _ _ _ _ _ (R6_2.out.below (B := v6.heap.size) (by go_grown) (by omega)) (R6_0.out.below (B := v6.heap.size) (by go_grown) (by omega)) (by first | omega | (simp; done) | (simp; omega) | fail) (by first | omega | (simp; done) | (simp; omega) | fail)).mono ?_
  rintro e v7 ⟨rfl, hb7⟩
  have sz7 : v6.heap.size + 1 ≤ v7.heap.size := by have hh := hb7.size; simp at hh; omega
  have st7 : Below v6.heap.size v6 v7 := Below.trans (by go_grown) (hb7.mono (by simp))
  have c7_0 : v7.cell? ⟨v1.heap.size, 0, none⟩ = some (.slice Wa m Wc) := by rw [(bcell st7).1 _ _ (by omega)]; exact c6_0
  have c7_1 : v7.cell? ⟨v1.heap.size, 1, none⟩ = some (.int .i64 tr) := by rw [(bcell st7).1 _ _ (by omega)]; exact c6_1
  have c7_2 : v7.cell? ⟨v2.heap.size, 0, none⟩ = some (.slice Ga m Gc) := by rw [(bcell st7).1 _ _ (by omega)]; exact c6_2
  have c7_3 : v7.cell? ⟨v2.heap.size, 1, none⟩ = some (.int .i64 tr) := by rw [(bcell st7).1 _ _ (by omega)]; exact c6_3
  have c7_4 : v7.cell? ⟨v6.heap.size, 0, none⟩ = some (.slice Ha m Hc) := by rw [(bcell hb7).1 _ _ (by simp)]; first | (rw [new_at (by simp)]; rfl) | simp
  have c7_5 : v7.cell? ⟨v6.heap.size, 1, none⟩ = some (.int .i64 tr) := by rw [(bcell hb7).1 _ _ (by simp)]; first | (rw [new_at (by simp)]; rfl) | simp
  have B7 : Hid (Below w.heap.size w v7) := B6.out.trans (st7.mono (by omega))
  have R7_0 : Hid (KRow v7 (w.heap.size) (v1.heap.size) (.slice Wa m Wc) m DR) := R6_0.out.below st7 (by omega)
  have R7_1 : Hid (MRow v7 (v1.heap.size + 1) (v2.heap.size) (.slice Ga m Gc) m DR) := R6_1.out.below st7 (by omega)
  have R7_2 : Hid (KRow v7 (v5.heap.size) (v6.heap.size) (.slice Ha m Hc) m DR) := R6_2.out.below st7 (by omega)
  have d7_0 : v1.heap.size < v7.heap.size := by omega
  have e7_0 : v1.heap.size ≠ v7.heap.size := by omega
  have d7_1 : v2.heap.size < v7.heap.size := by omega
  have e7_1 : v2.heap.size ≠ v7.heap.size := by omega
  have d7_2 : v6.heap.size < v7.heap.size := by omega
  have e7_2 : v6.heap.size ≠ v7.heap.size := by omega
  clear d6_0 e6_0 d6_1 e6_1 c6_0 c6_1 c6_2 c6_3 B6 st7 R6_0 R6_1 R6_2 hb7
  go_wp2_with fail
  go_at_call 29
  refine (heldArchive_K KG _ DR m _ _ _ _ HKG.out R7_1.out (by first | omega | (simp; done) | (simp; omega) | fail) (by omega)).mono ?_
  rintro e v8 ⟨rfl, hb8⟩
  have sz8 : v7.heap.size ≤ v8.heap.size := hb8.size
  have st8 : Below v7.heap.size v7 v8 := hb8
  have c8_0 : v8.cell? ⟨v1.heap.size, 0, none⟩ = some (.slice Wa m Wc) := by rw [(bcell st8).1 _ _ (by omega)]; exact c7_0
  have c8_1 : v8.cell? ⟨v1.heap.size, 1, none⟩ = some (.int .i64 tr) := by rw [(bcell st8).1 _ _ (by omega)]; exact c7_1
  have c8_2 : v8.cell? ⟨v2.heap.size, 0, none⟩ = some (.slice Ga m Gc) := by rw [(bcell st8).1 _ _ (by omega)]; exact c7_2
  have c8_3 : v8.cell? ⟨v2.heap.size, 1, none⟩ = some (.int .i64 tr) := by rw [(bcell st8).1 _ _ (by omega)]; exact c7_3
  have c8_4 : v8.cell? ⟨v6.heap.size, 0, none⟩ = some (.slice Ha m Hc) := by rw [(bcell st8).1 _ _ (by omega)]; exact c7_4
  have c8_5 : v8.cell? ⟨v6.heap.size, 1, none⟩ = some (.int .i64 tr) := by rw [(bcell st8).1 _ _ (by omega)]; exact c7_5
  have B8 : Hid (Below w.heap.size w v8) := B7.out.trans (st8.mono (by omega))
  have R8_0 : Hid (KRow v8 (w.heap.size) (v1.heap.size) (.slice Wa m Wc) m DR) := R7_0.out.below st8 (by omega)
  have R8_1 : Hid (MRow v8 (v1.heap.size + 1) (v2.heap.size) (.slice Ga m Gc) m DR) := R7_1.out.below st8 (by omega)
  have R8_2 : Hid (KRow v8 (v5.heap.size) (v6.heap.size) (.slice Ha m Hc) m DR) := R7_2.out.below st8 (by omega)
  have d8_0 : v1.heap.size < v8.heap.size := by omega
  have e8_0 : v1.heap.size ≠ v8.heap.size := by omega
  have d8_1 : v2.heap.size < v8.heap.size := by omega
  have e8_1 : v2.heap.size ≠ v8.heap.size := by omega
  have d8_2 : v6.heap.size < v8.heap.size := by omega
  have e8_2 : v6.heap.size ≠ v8.heap.size := by omega
  clear d7_0 e7_0 d7_1 e7_1 d7_2 e7_2 c7_0 c7_1 c7_2 c7_3 c7_4 c7_5 B7 st8 R7_0 R7_1 R7_2 hb8
  go_wp2_with fail
  go_ret
  exact ⟨rfl, B8.out⟩

end Go.Proofs.Ytnaifkmganngfaa
