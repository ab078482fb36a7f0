/- PutRoute of the program. -/
import Derived.Test.YtgdnfglhlpnooaaPm
namespace Go.Proofs.Ytgdnfglhlpnooaa
open Go.RowKit


set_option maxRecDepth 100000 in
set_option maxHeartbeats 4000000 in
theorem iput_no (lo hi n : Nat) (v : Value) (L : List Rt) (x0 x1 x2 : Int) (w : World) (hL : L.length = n) (hr : Row 3 w lo hi v n (flat L)) (hh : hi ≤ w.heap.size) (ht : tok L = true) (hto : tok (insR L (x0, x1, x2)) = false) : Calls Try.prog 21 #[.agg #[v], .agg #[.int .i64 x0, .int .i64 x1, .int .i64 x2]] w (TabBPost L false w) := by
  have HR := Lib.hid hr
  obtain ⟨ad, cp, rfl, hn, _⟩ := hr.opened
  clear hr
  have h120 := (tok_parts ht).1
  obtain ⟨P, hP⟩ : ∃ P, P = plc L x0 x1 := ⟨_, rfl⟩
  have hPle : P ≤ n := by rw [hP, ← hL]; exact plc_le L x0 x1
  obtain ⟨M, hM⟩ : ∃ M, M = insR L (x0, x1, x2) := ⟨_, rfl⟩
  cases hf : fndB L x0 x1 with
  | true =>
    have hPn : P < n := by rw [hP, ← hL]; exact fndB_lt hf
    have hMs : M = L.set P (x0, x1, x2) := by rw [hM, hP]; exact insR_yes hf
    have HP : Hid (P = plc L x0 x1 ∧ True) := ⟨hP, trivial⟩
    have HM : Hid (M = insR L (x0, x1, x2) ∧ M.length = n) := ⟨hM, by rw [hMs, List.length_set, hL]⟩
    have HMs := Lib.hid hMs
    clear hP hM hMs
    go_enter Try.func21, Try.ntmps21
    go_wp2_with fail
    go_at_call 56
    refine (itok_any lo hi n _ L _ hL (HR.out.below (B := w.heap.size) (by go_grown) (by omega)) (by simp; omega)).mono ?_
    rw [ht]
    rintro e v1 ⟨rfl, hb1⟩
    have sz1 : w.heap.size + 3 ≤ v1.heap.size := by have hh := hb1.size; simp at hh; omega
    have st1 : Below w.heap.size w v1 := Below.trans (by go_grown) (hb1.mono (by simp <;> omega))
    have c1_0 : v1.cell? ⟨w.heap.size, 0, none⟩ = some (.slice ad n cp) := by rw [(bcell hb1).1 _ _ (by simp <;> omega), old_box (by simp <;> omega), old_box (by simp <;> omega)]; first | (rw [new_at (by simp)]; rfl) | simp
    have c1_1 : v1.cell? ⟨w.heap.size + 1, 0, none⟩ = some (.int .i64 x0) := by rw [(bcell hb1).1 _ _ (by simp <;> omega), old_box (by simp <;> omega)]; first | (rw [new_at (by simp)]; rfl) | simp
    have c1_2 : v1.cell? ⟨w.heap.size + 1, 1, none⟩ = some (.int .i64 x1) := by rw [(bcell hb1).1 _ _ (by simp <;> omega), old_box (by simp <;> omega)]; first | (rw [new_at (by simp)]; rfl) | simp
    have c1_3 : v1.cell? ⟨w.heap.size + 1, 2, none⟩ = some (.int .i64 x2) := by rw [(bcell hb1).1 _ _ (by simp <;> omega), old_box (by simp <;> omega)]; first | (rw [new_at (by simp)]; rfl) | simp
    have c1_4 : v1.cell? ⟨w.heap.size + 1 + 1, 0, none⟩ = some (.slice none 0 0) := by rw [(bcell hb1).1 _ _ (by simp)]; first | (rw [new_at (by simp)]; rfl) | simp
    have g1_0 : v1.frozen? ⟨w.heap.size + 1 + 1, 0, none⟩ = false := by rw [(bcell hb1).2 _ _ (by simp), new_frz (by simp)]
    have B1 : Hid (Below w.heap.size w v1) := st1
    have R1_0 : Hid (Row 3 v1 (lo) (hi) (.slice ad n cp) n (flat L)) := HR.out.below st1 (by omega)
    have d1_0 : w.heap.size < v1.heap.size := by omega
    have e1_0 : w.heap.size ≠ v1.heap.size := by omega
    have d1_1 : w.heap.size + 1 < v1.heap.size := by omega
    have e1_1 : w.heap.size + 1 ≠ v1.heap.size := by omega
    have d1_2 : w.heap.size + 1 + 1 < v1.heap.size := by omega
    have e1_2 : w.heap.size + 1 + 1 ≠ v1.heap.size := by omega
    have ST1 := Lib.hid st1
    clear st1 HR hb1
    go_wp2_with fail
    go_at_call 55
    refine (icp_any lo hi n _ L _ hL R1_0.out (by omega)).mono ?_
    rintro e v2 ⟨rv, rfl, hO⟩
    have hb2 := hO.below
    obtain ⟨ra, rc, rfl⟩ := own_slice hO.row
    have HO := Lib.hid hO
    clear hO
    have sz2 : v1.heap.size ≤ v2.heap.size := hb2.size
    have st2 : Below v1.heap.size v1 v2 := hb2
    have c2_0 : v2.cell? ⟨w.heap.size, 0, none⟩ = some (.slice ad n cp) := by rw [(bcell st2).1 _ _ (by omega)]; exact c1_0
    have c2_1 : v2.cell? ⟨w.heap.size + 1, 0, none⟩ = some (.int .i64 x0) := by rw [(bcell st2).1 _ _ (by omega)]; exact c1_1
    have c2_2 : v2.cell? ⟨w.heap.size + 1, 1, none⟩ = some (.int .i64 x1) := by rw [(bcell st2).1 _ _ (by omega)]; exact c1_2
    have c2_3 : v2.cell? ⟨w.heap.size + 1, 2, none⟩ = some (.int .i64 x2) := by rw [(bcell st2).1 _ _ (by omega)]; exact c1_3
    have c2_4 : v2.cell? ⟨w.heap.size + 1 + 1, 0, none⟩ = some (.slice none 0 0) := by rw [(bcell st2).1 _ _ (by omega)]; exact c1_4
    have g2_0 : v2.frozen? ⟨w.heap.size + 1 + 1, 0, none⟩ = false := by rw [(bcell st2).2 _ _ (by omega)]; exact g1_0
    have B2 : Hid (Below w.heap.size w v2) := B1.out.trans (st2.mono (by omega))
    have R2_0 : Hid (Row 3 v2 (lo) (hi) (.slice ad n cp) n (flat L)) := R1_0.out.below st2 (by omega)
    have d2_0 : w.heap.size < v2.heap.size := by omega
    have e2_0 : w.heap.size ≠ v2.heap.size := by omega
    have d2_1 : w.heap.size + 1 < v2.heap.size := by omega
    have e2_1 : w.heap.size + 1 ≠ v2.heap.size := by omega
    have d2_2 : w.heap.size + 1 + 1 < v2.heap.size := by omega
    have e2_2 : w.heap.size + 1 + 1 ≠ v2.heap.size := by omega
    have ST2 := Lib.hid st2
    clear d1_0 e1_0 d1_1 e1_1 d1_2 e1_2 c1_0 c1_1 c1_2 c1_3 c1_4 g1_0 B1 st2 R1_0 hb2
    go_wp2_with fail
    go_at_call 57
    refine (place_any lo hi n _ L x0 x1 _ hL (R2_0.out.below (B := v2.heap.size) (by go_grown) (by omega)) (by simp; omega) ht).mono ?_
    rw [← HP.out.1, hf]
    rintro e v3 ⟨rfl, hb3⟩
    have sz3 : v2.heap.size + 1 ≤ v3.heap.size := by have hh := hb3.size; simp at hh; omega
    have st3 : Below v2.heap.size v2 v3 := Below.trans (by go_grown) (hb3.mono (by simp))
    have c3_0 : v3.cell? ⟨w.heap.size, 0, none⟩ = some (.slice ad n cp) := by rw [(bcell st3).1 _ _ (by omega)]; exact c2_0
    have c3_1 : v3.cell? ⟨w.heap.size + 1, 0, none⟩ = some (.int .i64 x0) := by rw [(bcell st3).1 _ _ (by omega)]; exact c2_1
    have c3_2 : v3.cell? ⟨w.heap.size + 1, 1, none⟩ = some (.int .i64 x1) := by rw [(bcell st3).1 _ _ (by omega)]; exact c2_2
    have c3_3 : v3.cell? ⟨w.heap.size + 1, 2, none⟩ = some (.int .i64 x2) := by rw [(bcell st3).1 _ _ (by omega)]; exact c2_3
    have c3_4 : v3.cell? ⟨w.heap.size + 1 + 1, 0, none⟩ = some (.slice none 0 0) := by rw [(bcell st3).1 _ _ (by omega)]; exact c2_4
    have c3_5 : v3.cell? ⟨v2.heap.size, 0, none⟩ = some (.slice ra n rc) := by rw [(bcell hb3).1 _ _ (by simp)]; first | (rw [new_at (by simp)]; rfl) | simp
    have g3_0 : v3.frozen? ⟨w.heap.size + 1 + 1, 0, none⟩ = false := by rw [(bcell st3).2 _ _ (by omega)]; exact g2_0
    have g3_1 : v3.frozen? ⟨v2.heap.size, 0, none⟩ = false := by rw [(bcell hb3).2 _ _ (by simp), new_frz (by simp)]
    have B3 : Hid (Below w.heap.size w v3) := B2.out.trans (st3.mono (by omega))
    have R3_0 : Hid (Row 3 v3 (lo) (hi) (.slice ad n cp) n (flat L)) := R2_0.out.below st3 (by omega)
    have d3_0 : w.heap.size < v3.heap.size := by omega
    have e3_0 : w.heap.size ≠ v3.heap.size := by omega
    have d3_1 : w.heap.size + 1 < v3.heap.size := by omega
    have e3_1 : w.heap.size + 1 ≠ v3.heap.size := by omega
    have d3_2 : w.heap.size + 1 + 1 < v3.heap.size := by omega
    have e3_2 : w.heap.size + 1 + 1 ≠ v3.heap.size := by omega
    have d3_3 : v2.heap.size < v3.heap.size := by omega
    have e3_3 : v2.heap.size ≠ v3.heap.size := by omega
    have ST3 := Lib.hid st3
    clear d2_0 e2_0 d2_1 e2_1 d2_2 e2_2 c2_0 c2_1 c2_2 c2_3 c2_4 g2_0 B2 st3 R2_0 hb3
    have HO3 : Hid (OwnR 43 3 _ v3 (.slice ra n rc) n (flat L)) := Lib.hid (HO.out.grow ST3.out)
    obtain ⟨G, cap, hsl, _⟩ := HO3.out.row.form (by omega)
    obtain ⟨rfl, rfl⟩ : ra = some ⟨G, 0, none⟩ ∧ rc = cap := by simpa using hsl
    obtain ⟨hBk, hnc, hcm, _⟩ := Blk.start HO3.out.row
    have hB2 := hBk.setAt (i := P) (L := L) (x0 := x0) (x1 := x1) (x2 := x2) (by omega) (by omega)
    rw [← HMs.out] at hB2
    have hG1 : v1.heap.size ≤ G := (HO.out.row.lt G rfl).1
    have hG2 : G < v2.heap.size := (HO.out.row.lt G rfl).2
    have g0 : v3.cell? ⟨G, P * 3, none⟩ ≠ none := fun e => by have := hBk.som (P * 3) (by omega); rw [e] at this; cases this
    have g1 : v3.cell? ⟨G, P * 3 + 1, none⟩ ≠ none := fun e => by have := hBk.som (P * 3 + 1) (by omega); rw [e] at this; cases this
    have g2 : v3.cell? ⟨G, P * 3 + 2, none⟩ ≠ none := fun e => by have := hBk.som (P * 3 + 2) (by omega); rw [e] at this; cases this
    obtain ⟨u0, h0⟩ := Option.ne_none_iff_exists'.1 g0
    obtain ⟨u1, h1⟩ := Option.ne_none_iff_exists'.1 g1
    obtain ⟨u2, h2⟩ := Option.ne_none_iff_exists'.1 g2
    have f0 := hBk.frz (P * 3)
    have f1 := hBk.frz (P * 3 + 1)
    have f2 := hBk.frz (P * 3 + 2)
    have p0 : (0 : Int) ≤ (P : Int) := by omega
    have p1 : (P : Int) < (n : Int) := by omega
    have HB2 := Lib.hid hB2
    clear hsl hBk HO HO3 hB2 g0 g1 g2
    obtain ⟨w5, hw5⟩ : ∃ w5, w5 = ((v3.setCell ⟨G, P * 3, none⟩ (.int .i64 x0)).setCell ⟨G, P * 3 + 1, none⟩ (.int .i64 x1)).setCell ⟨G, P * 3 + 2, none⟩ (.int .i64 x2) := ⟨_, rfl⟩
    have k0 : w5.cell? ⟨w.heap.size, 0, none⟩ = some (.slice ad n cp) := by rw [hw5, World.cell?_setCell_other _ _ _ _ (by simp <;> omega), World.cell?_setCell_other _ _ _ _ (by simp <;> omega), World.cell?_setCell_other _ _ _ _ (by simp <;> omega)]; exact c3_0
    have k1 : w5.cell? ⟨w.heap.size + 1, 0, none⟩ = some (.int .i64 x0) := by rw [hw5, World.cell?_setCell_other _ _ _ _ (by simp <;> omega), World.cell?_setCell_other _ _ _ _ (by simp <;> omega), World.cell?_setCell_other _ _ _ _ (by simp <;> omega)]; exact c3_1
    have k2 : w5.cell? ⟨w.heap.size + 1, 1, none⟩ = some (.int .i64 x1) := by rw [hw5, World.cell?_setCell_other _ _ _ _ (by simp <;> omega), World.cell?_setCell_other _ _ _ _ (by simp <;> omega), World.cell?_setCell_other _ _ _ _ (by simp <;> omega)]; exact c3_2
    have k3 : w5.cell? ⟨w.heap.size + 1, 2, none⟩ = some (.int .i64 x2) := by rw [hw5, World.cell?_setCell_other _ _ _ _ (by simp <;> omega), World.cell?_setCell_other _ _ _ _ (by simp <;> omega), World.cell?_setCell_other _ _ _ _ (by simp <;> omega)]; exact c3_3
    have k4 : w5.cell? ⟨w.heap.size + 1 + 1, 0, none⟩ = some (.slice none 0 0) := by rw [hw5, World.cell?_setCell_other _ _ _ _ (by simp <;> omega), World.cell?_setCell_other _ _ _ _ (by simp <;> omega), World.cell?_setCell_other _ _ _ _ (by simp <;> omega)]; exact c3_4
    have k5 : w5.cell? ⟨v2.heap.size, 0, none⟩ = some (.slice (some ⟨G, 0, none⟩) n rc) := by rw [hw5, World.cell?_setCell_other _ _ _ _ (by simp <;> omega), World.cell?_setCell_other _ _ _ _ (by simp <;> omega), World.cell?_setCell_other _ _ _ _ (by simp <;> omega)]; exact c3_5
    have j0 : w5.frozen? ⟨w.heap.size + 1 + 1, 0, none⟩ = false := by rw [hw5, World.frozen?_setCell, World.frozen?_setCell, World.frozen?_setCell]; exact g3_0
    have j1 : w5.frozen? ⟨v2.heap.size, 0, none⟩ = false := by rw [hw5, World.frozen?_setCell, World.frozen?_setCell, World.frozen?_setCell]; exact g3_1
    have HB5 : Hid (Below w.heap.size w w5) := by rw [hw5]; exact Lib.hid ((((B3.out.setCell (by show _ ≤ G; omega) _).setCell (by show _ ≤ G; omega) _).setCell (by show _ ≤ G; omega) _))
    have hs5 : v3.heap.size ≤ w5.heap.size := by rw [hw5]; simp [World.setCell]
    have HL5 : Hid (Row 3 w5 lo hi (.slice ad n cp) n (flat L)) := by rw [hw5]; exact Lib.hid (((R3_0.out.setCell (p := ⟨G, P * 3, none⟩) (.inr (by show hi ≤ G; omega)) _).setCell (p := ⟨G, P * 3 + 1, none⟩) (.inr (by show hi ≤ G; omega)) _).setCell (p := ⟨G, P * 3 + 2, none⟩) (.inr (by show hi ≤ G; omega)) _)
    have HRw : Hid (Row 3 w5 G (G + 1) (.slice (some ⟨G, 0, none⟩) n rc) n (flat M)) := by rw [hw5]; exact Lib.hid (HB2.out.row HM.out.2 (by omega) (Nat.le_refl _) (Nat.lt_succ_self _))
    go_upto_region 8 with fail
    rw [← hw5]
    clear hw5 h0 h1 h2 f0 f1 f2 HB2 c3_0 c3_1 c3_2 c3_3 c3_4 c3_5 g3_0 g3_1
    go_wp2_with fail
    go_at_call 56
    refine (itok_any (G) ((G + 1)) n _ M _ HM.out.2 HRw.out (by omega)).mono ?_
    rw [HM.out.1, hto]
    rintro e v4 ⟨rfl, hb4⟩
    have sz4 : w5.heap.size ≤ v4.heap.size := hb4.size
    have st4 : Below w5.heap.size w5 v4 := hb4
    have c4_0 : v4.cell? ⟨w.heap.size, 0, none⟩ = some (.slice ad n cp) := by rw [(bcell st4).1 _ _ (by omega)]; exact k0
    have c4_1 : v4.cell? ⟨w.heap.size + 1, 0, none⟩ = some (.int .i64 x0) := by rw [(bcell st4).1 _ _ (by omega)]; exact k1
    have c4_2 : v4.cell? ⟨w.heap.size + 1, 1, none⟩ = some (.int .i64 x1) := by rw [(bcell st4).1 _ _ (by omega)]; exact k2
    have c4_3 : v4.cell? ⟨w.heap.size + 1, 2, none⟩ = some (.int .i64 x2) := by rw [(bcell st4).1 _ _ (by omega)]; exact k3
    have c4_4 : v4.cell? ⟨w.heap.size + 1 + 1, 0, none⟩ = some (.slice none 0 0) := by rw [(bcell st4).1 _ _ (by omega)]; exact k4
    have c4_5 : v4.cell? ⟨v2.heap.size, 0, none⟩ = some (.slice (some ⟨G, 0, none⟩) n rc) := by rw [(bcell st4).1 _ _ (by omega)]; exact k5
    have g4_0 : v4.frozen? ⟨w.heap.size + 1 + 1, 0, none⟩ = false := by rw [(bcell st4).2 _ _ (by omega)]; exact j0
    have g4_1 : v4.frozen? ⟨v2.heap.size, 0, none⟩ = false := by rw [(bcell st4).2 _ _ (by omega)]; exact j1
    have B4 : Hid (Below w.heap.size w v4) := HB5.out.trans (st4.mono (by omega))
    have R4_0 : Hid (Row 3 v4 (lo) (hi) (.slice ad n cp) n (flat L)) := HL5.out.below st4 (by omega)
    have R4_1 : Hid (Row 3 v4 (G) ((G + 1)) (.slice (some ⟨G, 0, none⟩) n rc) n (flat M)) := HRw.out.below st4 (by omega)
    have d4_0 : w.heap.size < v4.heap.size := by omega
    have e4_0 : w.heap.size ≠ v4.heap.size := by omega
    have d4_1 : w.heap.size + 1 < v4.heap.size := by omega
    have e4_1 : w.heap.size + 1 ≠ v4.heap.size := by omega
    have d4_2 : w.heap.size + 1 + 1 < v4.heap.size := by omega
    have e4_2 : w.heap.size + 1 + 1 ≠ v4.heap.size := by omega
    have d4_3 : v2.heap.size < v4.heap.size := by omega
    have e4_3 : v2.heap.size ≠ v4.heap.size := by omega
    have ST4 := Lib.hid st4
    clear k0 k1 k2 k3 k4 k5 j0 j1 HB5 st4 HL5 HRw hb4
    go_wp2_with fail
    go_at_call 55
    refine (icp_any lo hi n _ L _ hL R4_0.out (by omega)).mono ?_
    rintro e v5 ⟨rvz, rfl, hOz⟩
    have hb5 := hOz.below
    obtain ⟨sa, sc, rfl⟩ := own_slice hOz.row
    have HR3 := Lib.hid (hOz.toRow (by omega))
    clear hOz
    have sz5 : v4.heap.size ≤ v5.heap.size := hb5.size
    have st5 : Below v4.heap.size v4 v5 := hb5
    have c5_0 : v5.cell? ⟨w.heap.size, 0, none⟩ = some (.slice ad n cp) := by rw [(bcell st5).1 _ _ (by omega)]; exact c4_0
    have c5_1 : v5.cell? ⟨w.heap.size + 1, 0, none⟩ = some (.int .i64 x0) := by rw [(bcell st5).1 _ _ (by omega)]; exact c4_1
    have c5_2 : v5.cell? ⟨w.heap.size + 1, 1, none⟩ = some (.int .i64 x1) := by rw [(bcell st5).1 _ _ (by omega)]; exact c4_2
    have c5_3 : v5.cell? ⟨w.heap.size + 1, 2, none⟩ = some (.int .i64 x2) := by rw [(bcell st5).1 _ _ (by omega)]; exact c4_3
    have c5_4 : v5.cell? ⟨w.heap.size + 1 + 1, 0, none⟩ = some (.slice none 0 0) := by rw [(bcell st5).1 _ _ (by omega)]; exact c4_4
    have c5_5 : v5.cell? ⟨v2.heap.size, 0, none⟩ = some (.slice (some ⟨G, 0, none⟩) n rc) := by rw [(bcell st5).1 _ _ (by omega)]; exact c4_5
    have g5_0 : v5.frozen? ⟨w.heap.size + 1 + 1, 0, none⟩ = false := by rw [(bcell st5).2 _ _ (by omega)]; exact g4_0
    have g5_1 : v5.frozen? ⟨v2.heap.size, 0, none⟩ = false := by rw [(bcell st5).2 _ _ (by omega)]; exact g4_1
    have B5 : Hid (Below w.heap.size w v5) := B4.out.trans (st5.mono (by omega))
    have R5_0 : Hid (Row 3 v5 (lo) (hi) (.slice ad n cp) n (flat L)) := R4_0.out.below st5 (by omega)
    have R5_1 : Hid (Row 3 v5 (G) ((G + 1)) (.slice (some ⟨G, 0, none⟩) n rc) n (flat M)) := R4_1.out.below st5 (by omega)
    have d5_0 : w.heap.size < v5.heap.size := by omega
    have e5_0 : w.heap.size ≠ v5.heap.size := by omega
    have d5_1 : w.heap.size + 1 < v5.heap.size := by omega
    have e5_1 : w.heap.size + 1 ≠ v5.heap.size := by omega
    have d5_2 : w.heap.size + 1 + 1 < v5.heap.size := by omega
    have e5_2 : w.heap.size + 1 + 1 ≠ v5.heap.size := by omega
    have d5_3 : v2.heap.size < v5.heap.size := by omega
    have e5_3 : v2.heap.size ≠ v5.heap.size := by omega
    have ST5 := Lib.hid st5
    clear d4_0 e4_0 d4_1 e4_1 d4_2 e4_2 d4_3 e4_3 c4_0 c4_1 c4_2 c4_3 c4_4 c4_5 g4_0 g4_1 B4 st5 R4_0 R4_1 hb5
    have r0 : (v5.setCell ⟨w.heap.size + 1 + 1, 0, none⟩ (.slice sa n sc)).cell? ⟨w.heap.size + 1 + 1, 0, none⟩ = some (.slice sa n sc) := World.cell?_setCell_same' _ _ _ (by rw [c5_4]; rfl)
    have Hrow := Lib.hid ((HR3.out.setCell (p := ⟨w.heap.size + 1 + 1, 0, none⟩) (.inl (by show w.heap.size + 1 + 1 < v4.heap.size; omega)) (.slice sa n sc)).wide (lo' := w.heap.size) (hi' := (v5.setCell ⟨w.heap.size + 1 + 1, 0, none⟩ (.slice sa n sc)).heap.size) (by omega) (by simp [World.setCell] <;> omega))
    go_wp2_with fail
    refine bodyPost_ret (v := .tuple #[.agg #[.slice sa n sc], .bool false]) (by simp [results, Try.results21, go_sem, r0]) rfl ⟨_, rfl, ?_, ?_⟩
    · rw [hL]; exact Hrow.out
    · exact B5.out.setCell (by show _ ≤ w.heap.size + 1 + 1; omega) _
  | false =>
    have hMs : M = L.take P ++ (x0, x1, x2) :: L.drop P := by rw [hM, hP]; exact insR_no hf
    have HP : Hid (P = plc L x0 x1 ∧ True) := ⟨hP, trivial⟩
    have HM : Hid (M = insR L (x0, x1, x2) ∧ M.length = n + 1) := ⟨hM, by rw [hMs, List.length_append, List.length_cons, List.length_take, List.length_drop]; omega⟩
    have HMs := Lib.hid hMs
    clear hP hM hMs
    go_enter Try.func21, Try.ntmps21
    go_wp2_with fail
    go_at_call 56
    refine (itok_any lo hi n _ L _ hL (HR.out.below (B := w.heap.size) (by go_grown) (by omega)) (by simp; omega)).mono ?_
    rw [ht]
    rintro e v1 ⟨rfl, hb1⟩
    have sz1 : w.heap.size + 3 ≤ v1.heap.size := by have hh := hb1.size; simp at hh; omega
    have st1 : Below w.heap.size w v1 := Below.trans (by go_grown) (hb1.mono (by simp <;> omega))
    have c1_0 : v1.cell? ⟨w.heap.size, 0, none⟩ = some (.slice ad n cp) := by rw [(bcell hb1).1 _ _ (by simp <;> omega), old_box (by simp <;> omega), old_box (by simp <;> omega)]; first | (rw [new_at (by simp)]; rfl) | simp
    have c1_1 : v1.cell? ⟨w.heap.size + 1, 0, none⟩ = some (.int .i64 x0) := by rw [(bcell hb1).1 _ _ (by simp <;> omega), old_box (by simp <;> omega)]; first | (rw [new_at (by simp)]; rfl) | simp
    have c1_2 : v1.cell? ⟨w.heap.size + 1, 1, none⟩ = some (.int .i64 x1) := by rw [(bcell hb1).1 _ _ (by simp <;> omega), old_box (by simp <;> omega)]; first | (rw [new_at (by simp)]; rfl) | simp
    have c1_3 : v1.cell? ⟨w.heap.size + 1, 2, none⟩ = some (.int .i64 x2) := by rw [(bcell hb1).1 _ _ (by simp <;> omega), old_box (by simp <;> omega)]; first | (rw [new_at (by simp)]; rfl) | simp
    have c1_4 : v1.cell? ⟨w.heap.size + 1 + 1, 0, none⟩ = some (.slice none 0 0) := by rw [(bcell hb1).1 _ _ (by simp)]; first | (rw [new_at (by simp)]; rfl) | simp
    have g1_0 : v1.frozen? ⟨w.heap.size + 1 + 1, 0, none⟩ = false := by rw [(bcell hb1).2 _ _ (by simp), new_frz (by simp)]
    have B1 : Hid (Below w.heap.size w v1) := st1
    have R1_0 : Hid (Row 3 v1 (lo) (hi) (.slice ad n cp) n (flat L)) := HR.out.below st1 (by omega)
    have d1_0 : w.heap.size < v1.heap.size := by omega
    have e1_0 : w.heap.size ≠ v1.heap.size := by omega
    have d1_1 : w.heap.size + 1 < v1.heap.size := by omega
    have e1_1 : w.heap.size + 1 ≠ v1.heap.size := by omega
    have d1_2 : w.heap.size + 1 + 1 < v1.heap.size := by omega
    have e1_2 : w.heap.size + 1 + 1 ≠ v1.heap.size := by omega
    have ST1 := Lib.hid st1
    clear st1 HR hb1
    go_wp2_with fail
    go_at_call 55
    refine (icp_any lo hi n _ L _ hL R1_0.out (by omega)).mono ?_
    rintro e v2 ⟨rv, rfl, hO⟩
    have hb2 := hO.below
    obtain ⟨ra, rc, rfl⟩ := own_slice hO.row
    have HO := Lib.hid hO
    clear hO
    have sz2 : v1.heap.size ≤ v2.heap.size := hb2.size
    have st2 : Below v1.heap.size v1 v2 := hb2
    have c2_0 : v2.cell? ⟨w.heap.size, 0, none⟩ = some (.slice ad n cp) := by rw [(bcell st2).1 _ _ (by omega)]; exact c1_0
    have c2_1 : v2.cell? ⟨w.heap.size + 1, 0, none⟩ = some (.int .i64 x0) := by rw [(bcell st2).1 _ _ (by omega)]; exact c1_1
    have c2_2 : v2.cell? ⟨w.heap.size + 1, 1, none⟩ = some (.int .i64 x1) := by rw [(bcell st2).1 _ _ (by omega)]; exact c1_2
    have c2_3 : v2.cell? ⟨w.heap.size + 1, 2, none⟩ = some (.int .i64 x2) := by rw [(bcell st2).1 _ _ (by omega)]; exact c1_3
    have c2_4 : v2.cell? ⟨w.heap.size + 1 + 1, 0, none⟩ = some (.slice none 0 0) := by rw [(bcell st2).1 _ _ (by omega)]; exact c1_4
    have g2_0 : v2.frozen? ⟨w.heap.size + 1 + 1, 0, none⟩ = false := by rw [(bcell st2).2 _ _ (by omega)]; exact g1_0
    have B2 : Hid (Below w.heap.size w v2) := B1.out.trans (st2.mono (by omega))
    have R2_0 : Hid (Row 3 v2 (lo) (hi) (.slice ad n cp) n (flat L)) := R1_0.out.below st2 (by omega)
    have d2_0 : w.heap.size < v2.heap.size := by omega
    have e2_0 : w.heap.size ≠ v2.heap.size := by omega
    have d2_1 : w.heap.size + 1 < v2.heap.size := by omega
    have e2_1 : w.heap.size + 1 ≠ v2.heap.size := by omega
    have d2_2 : w.heap.size + 1 + 1 < v2.heap.size := by omega
    have e2_2 : w.heap.size + 1 + 1 ≠ v2.heap.size := by omega
    have ST2 := Lib.hid st2
    clear d1_0 e1_0 d1_1 e1_1 d1_2 e1_2 c1_0 c1_1 c1_2 c1_3 c1_4 g1_0 B1 st2 R1_0 hb2
    go_wp2_with fail
    go_at_call 57
    refine (place_any lo hi n _ L x0 x1 _ hL (R2_0.out.below (B := v2.heap.size) (by go_grown) (by omega)) (by simp; omega) ht).mono ?_
    rw [← HP.out.1, hf]
    rintro e v3 ⟨rfl, hb3⟩
    have sz3 : v2.heap.size + 1 ≤ v3.heap.size := by have hh := hb3.size; simp at hh; omega
    have st3 : Below v2.heap.size v2 v3 := Below.trans (by go_grown) (hb3.mono (by simp))
    have c3_0 : v3.cell? ⟨w.heap.size, 0, none⟩ = some (.slice ad n cp) := by rw [(bcell st3).1 _ _ (by omega)]; exact c2_0
    have c3_1 : v3.cell? ⟨w.heap.size + 1, 0, none⟩ = some (.int .i64 x0) := by rw [(bcell st3).1 _ _ (by omega)]; exact c2_1
    have c3_2 : v3.cell? ⟨w.heap.size + 1, 1, none⟩ = some (.int .i64 x1) := by rw [(bcell st3).1 _ _ (by omega)]; exact c2_2
    have c3_3 : v3.cell? ⟨w.heap.size + 1, 2, none⟩ = some (.int .i64 x2) := by rw [(bcell st3).1 _ _ (by omega)]; exact c2_3
    have c3_4 : v3.cell? ⟨w.heap.size + 1 + 1, 0, none⟩ = some (.slice none 0 0) := by rw [(bcell st3).1 _ _ (by omega)]; exact c2_4
    have c3_5 : v3.cell? ⟨v2.heap.size, 0, none⟩ = some (.slice ra n rc) := by rw [(bcell hb3).1 _ _ (by simp)]; first | (rw [new_at (by simp)]; rfl) | simp
    have g3_0 : v3.frozen? ⟨w.heap.size + 1 + 1, 0, none⟩ = false := by rw [(bcell st3).2 _ _ (by omega)]; exact g2_0
    have g3_1 : v3.frozen? ⟨v2.heap.size, 0, none⟩ = false := by rw [(bcell hb3).2 _ _ (by simp), new_frz (by simp)]
    have B3 : Hid (Below w.heap.size w v3) := B2.out.trans (st3.mono (by omega))
    have R3_0 : Hid (Row 3 v3 (lo) (hi) (.slice ad n cp) n (flat L)) := R2_0.out.below st3 (by omega)
    have d3_0 : w.heap.size < v3.heap.size := by omega
    have e3_0 : w.heap.size ≠ v3.heap.size := by omega
    have d3_1 : w.heap.size + 1 < v3.heap.size := by omega
    have e3_1 : w.heap.size + 1 ≠ v3.heap.size := by omega
    have d3_2 : w.heap.size + 1 + 1 < v3.heap.size := by omega
    have e3_2 : w.heap.size + 1 + 1 ≠ v3.heap.size := by omega
    have d3_3 : v2.heap.size < v3.heap.size := by omega
    have e3_3 : v2.heap.size ≠ v3.heap.size := by omega
    have ST3 := Lib.hid st3
    clear d2_0 e2_0 d2_1 e2_1 d2_2 e2_2 c2_0 c2_1 c2_2 c2_3 c2_4 g2_0 B2 st3 R2_0 hb3
    have HO3 : Hid (OwnR 43 3 _ v3 (.slice ra n rc) n (flat L)) := Lib.hid (HO.out.grow ST3.out)
    obtain ⟨v4, hv4⟩ : ∃ v4, v4 = v3.alloc (.cells (ints [x0, x1, x2]).toArray 43) := ⟨_, rfl⟩
    have hb4 : Below v3.heap.size v3 v4 := by rw [hv4]; exact (Below.refl _ _).alloc (Nat.le_refl _) _
    have hV : v4.heap[v3.heap.size]? = some (.cells (ints [x0, x1, x2]).toArray 43 (0, 0)) := by rw [hv4]; exact heap_alloc_new v3 _
    have hs4 : v4.heap.size = v3.heap.size + 1 := by rw [hv4]; simp
    have hown4 := (HO3.out.grow hb4).row
    have hlo4 : v1.heap.size ≤ v2.heap.size := by omega
    have hi4 := ins_all n P v3.heap.size v1.heap.size _ L x0 x1 x2 v4 hown4 hL hPle (by omega) (by omega) (fun G hG => by have := (HO.out.row.lt G hG).2; omega) hV (by omega)
    rw [← HMs.out] at hi4
    have HI := Lib.hid hi4
    have HGo := Lib.hid (fun G hG => (HO.out.row.lt G hG : v1.heap.size ≤ G ∧ G < v2.heap.size))
    have HB4 := Lib.hid hb4
    clear hi4 hown4 hV HO HO3
    go_upto_region 7 with fail
    go_wp2_with fail
    rw [show v3.alloc (.cells #[.int .i64 x0, .int .i64 x1, .int .i64 x2] 43) = v4 from hv4.symm]
    go_at_call 63
    refine HI.out.mono ?_
    rintro e v5 ⟨G, cap, Go, rfl, hG1, hG2, hG3, hG4, hG5, hG6, hG7⟩
    have hGo : v1.heap.size ≤ Go ∧ (Go < v2.heap.size ∨ v4.heap.size ≤ Go) := by
      rcases hG6 with h | h
      · exact ⟨(HGo.out _ h).1, .inl (HGo.out _ h).2⟩
      · exact ⟨by omega, .inr h⟩
    have hGX : G < v2.heap.size ∨ v4.heap.size ≤ G := by
      rcases hG7 with h | h
      · rw [h]; exact hGo.2
      · exact .inr h
    have HEl := Lib.hid hG5
    have hs5 : v4.heap.size ≤ v5.heap.size := hG5.2.2.2.1
    rw [HM.out.2]
    have k0 : v5.cell? ⟨w.heap.size, 0, none⟩ = some (.slice ad n cp) := by rw [HEl.out.cell (by omega) (by omega), HB4.out.cell (p := ⟨w.heap.size, 0, none⟩) (by show w.heap.size < _; omega)]; exact c3_0
    have k1 : v5.cell? ⟨w.heap.size + 1, 0, none⟩ = some (.int .i64 x0) := by rw [HEl.out.cell (by omega) (by omega), HB4.out.cell (p := ⟨w.heap.size + 1, 0, none⟩) (by show w.heap.size + 1 < _; omega)]; exact c3_1
    have k2 : v5.cell? ⟨w.heap.size + 1, 1, none⟩ = some (.int .i64 x1) := by rw [HEl.out.cell (by omega) (by omega), HB4.out.cell (p := ⟨w.heap.size + 1, 1, none⟩) (by show w.heap.size + 1 < _; omega)]; exact c3_2
    have k3 : v5.cell? ⟨w.heap.size + 1, 2, none⟩ = some (.int .i64 x2) := by rw [HEl.out.cell (by omega) (by omega), HB4.out.cell (p := ⟨w.heap.size + 1, 2, none⟩) (by show w.heap.size + 1 < _; omega)]; exact c3_3
    have k4 : v5.cell? ⟨w.heap.size + 1 + 1, 0, none⟩ = some (.slice none 0 0) := by rw [HEl.out.cell (by omega) (by omega), HB4.out.cell (p := ⟨w.heap.size + 1 + 1, 0, none⟩) (by show w.heap.size + 1 + 1 < _; omega)]; exact c3_4
    have k5 : v5.cell? ⟨v2.heap.size, 0, none⟩ = some (.slice ra n rc) := by rw [HEl.out.cell (by omega) (by omega), HB4.out.cell (p := ⟨v2.heap.size, 0, none⟩) (by show v2.heap.size < _; omega)]; exact c3_5
    have j0 : v5.frozen? ⟨w.heap.size + 1 + 1, 0, none⟩ = false := by rw [World.frozen?_of_block (w := v4) (a := ⟨w.heap.size + 1 + 1, 0, none⟩) (HEl.out.2.2.2.2 _ (by show w.heap.size + 1 + 1 < _; omega) (by show w.heap.size + 1 + 1 ≠ Go; omega)), HB4.out.frozen (p := ⟨w.heap.size + 1 + 1, 0, none⟩) (by show w.heap.size + 1 + 1 < _; omega)]; exact g3_0
    have j1 : v5.frozen? ⟨v2.heap.size, 0, none⟩ = false := by rw [World.frozen?_of_block (w := v4) (a := ⟨v2.heap.size, 0, none⟩) (HEl.out.2.2.2.2 _ (by show v2.heap.size < _; omega) (by show v2.heap.size ≠ Go; omega)), HB4.out.frozen (p := ⟨v2.heap.size, 0, none⟩) (by show v2.heap.size < _; omega)]; exact g3_1
    have HB5 : Hid (Below w.heap.size w v5) := Lib.hid ((B3.out.trans (HB4.out.mono (by omega))).trans (HEl.out.below (by omega) (by omega)))
    have HL5 : Hid (Row 3 v5 lo hi (.slice ad n cp) n (flat L)) := Lib.hid (((R3_0.out.below HB4.out (by omega))).else_ HEl.out (by omega) (.inl (by omega)))
    have HR5 : Hid (Row 3 v5 G (G + 1) (.slice (some ⟨G, 0, none⟩) (n + 1) cap) (n + 1) (flat M)) := Lib.hid ⟨by rw [flat_len, HM.out.2], .inr ⟨G, cap, rfl, Nat.le_refl _, Nat.lt_succ_self _, by omega, hG4, hG3⟩⟩
    obtain ⟨w5, hw5⟩ : ∃ w5, w5 = v5.setCell ⟨v2.heap.size, 0, none⟩ (.slice (some ⟨G, 0, none⟩) (n + 1) cap) := ⟨_, rfl⟩
    have m0 : w5.cell? ⟨v2.heap.size, 0, none⟩ = some (.slice (some ⟨G, 0, none⟩) (n + 1) cap) := by rw [hw5]; exact World.cell?_setCell_same' _ _ _ (by rw [k5]; rfl)
    have m1 : w5.cell? ⟨w.heap.size, 0, none⟩ = some (.slice ad n cp) := by rw [hw5, World.cell?_setCell_other _ _ _ _ (by simp <;> omega)]; exact k0
    have m2 : w5.cell? ⟨w.heap.size + 1, 0, none⟩ = some (.int .i64 x0) := by rw [hw5, World.cell?_setCell_other _ _ _ _ (by simp <;> omega)]; exact k1
    have m3 : w5.cell? ⟨w.heap.size + 1, 1, none⟩ = some (.int .i64 x1) := by rw [hw5, World.cell?_setCell_other _ _ _ _ (by simp <;> omega)]; exact k2
    have m4 : w5.cell? ⟨w.heap.size + 1, 2, none⟩ = some (.int .i64 x2) := by rw [hw5, World.cell?_setCell_other _ _ _ _ (by simp <;> omega)]; exact k3
    have m5 : w5.cell? ⟨w.heap.size + 1 + 1, 0, none⟩ = some (.slice none 0 0) := by rw [hw5, World.cell?_setCell_other _ _ _ _ (by simp <;> omega)]; exact k4
    have n0 : w5.frozen? ⟨w.heap.size + 1 + 1, 0, none⟩ = false := by rw [hw5, World.frozen?_setCell]; exact j0
    have n1 : w5.frozen? ⟨v2.heap.size, 0, none⟩ = false := by rw [hw5, World.frozen?_setCell]; exact j1
    have hs6 : v5.heap.size ≤ w5.heap.size := by rw [hw5]; simp [World.setCell]
    have HB6 : Hid (Below w.heap.size w w5) := by rw [hw5]; exact Lib.hid (HB5.out.setCell (by show _ ≤ v2.heap.size; omega) _)
    have HL6 : Hid (Row 3 w5 lo hi (.slice ad n cp) n (flat L)) := by rw [hw5]; exact Lib.hid (HL5.out.setCell (p := ⟨v2.heap.size, 0, none⟩) (.inr (by show hi ≤ v2.heap.size; omega)) _)
    have HR6 : Hid (Row 3 w5 G (G + 1) (.slice (some ⟨G, 0, none⟩) (n + 1) cap) (n + 1) (flat M)) := by rw [hw5]; exact Lib.hid (HR5.out.setCell (p := ⟨v2.heap.size, 0, none⟩) (by show v2.heap.size < G ∨ G + 1 ≤ v2.heap.size; omega) _)
    clear hG3 hG4 hG5 hG6 hG7 HB5 HL5 HR5 HI c3_0 c3_1 c3_2 c3_3 c3_4 c3_5 g3_0 g3_1
    go_upto_region 8 with fail
    rw [← hw5]
    clear hw5 hv4 k0 k1 k2 k3 k4 k5 j0 j1
    go_wp2_with fail
    go_at_call 56
    refine (itok_any (G) ((G + 1)) (n + 1) _ M _ HM.out.2 HR6.out (by omega)).mono ?_
    rw [HM.out.1, hto]
    rintro e v4 ⟨rfl, hb4⟩
    have sz4 : w5.heap.size ≤ v4.heap.size := hb4.size
    have st4 : Below w5.heap.size w5 v4 := hb4
    have c4_0 : v4.cell? ⟨v2.heap.size, 0, none⟩ = some (.slice (some ⟨G, 0, none⟩) (n + 1) cap) := by rw [(bcell st4).1 _ _ (by omega)]; exact m0
    have c4_1 : v4.cell? ⟨w.heap.size, 0, none⟩ = some (.slice ad n cp) := by rw [(bcell st4).1 _ _ (by omega)]; exact m1
    have c4_2 : v4.cell? ⟨w.heap.size + 1, 0, none⟩ = some (.int .i64 x0) := by rw [(bcell st4).1 _ _ (by omega)]; exact m2
    have c4_3 : v4.cell? ⟨w.heap.size + 1, 1, none⟩ = some (.int .i64 x1) := by rw [(bcell st4).1 _ _ (by omega)]; exact m3
    have c4_4 : v4.cell? ⟨w.heap.size + 1, 2, none⟩ = some (.int .i64 x2) := by rw [(bcell st4).1 _ _ (by omega)]; exact m4
    have c4_5 : v4.cell? ⟨w.heap.size + 1 + 1, 0, none⟩ = some (.slice none 0 0) := by rw [(bcell st4).1 _ _ (by omega)]; exact m5
    have g4_0 : v4.frozen? ⟨w.heap.size + 1 + 1, 0, none⟩ = false := by rw [(bcell st4).2 _ _ (by omega)]; exact n0
    have g4_1 : v4.frozen? ⟨v2.heap.size, 0, none⟩ = false := by rw [(bcell st4).2 _ _ (by omega)]; exact n1
    have B4 : Hid (Below w.heap.size w v4) := HB6.out.trans (st4.mono (by omega))
    have R4_0 : Hid (Row 3 v4 (lo) (hi) (.slice ad n cp) n (flat L)) := HL6.out.below st4 (by omega)
    have R4_1 : Hid (Row 3 v4 (G) ((G + 1)) (.slice (some ⟨G, 0, none⟩) (n + 1) cap) (n + 1) (flat M)) := HR6.out.below st4 (by omega)
    have d4_0 : v2.heap.size < v4.heap.size := by omega
    have e4_0 : v2.heap.size ≠ v4.heap.size := by omega
    have d4_1 : w.heap.size < v4.heap.size := by omega
    have e4_1 : w.heap.size ≠ v4.heap.size := by omega
    have d4_2 : w.heap.size + 1 < v4.heap.size := by omega
    have e4_2 : w.heap.size + 1 ≠ v4.heap.size := by omega
    have d4_3 : w.heap.size + 1 + 1 < v4.heap.size := by omega
    have e4_3 : w.heap.size + 1 + 1 ≠ v4.heap.size := by omega
    have ST4 := Lib.hid st4
    clear m0 m1 m2 m3 m4 m5 n0 n1 HB6 st4 HL6 HR6 hb4
    go_wp2_with fail
    go_at_call 55
    refine (icp_any lo hi n _ L _ hL R4_0.out (by omega)).mono ?_
    rintro e v5 ⟨rvz, rfl, hOz⟩
    have hb5 := hOz.below
    obtain ⟨sa, sc, rfl⟩ := own_slice hOz.row
    have HR3 := Lib.hid (hOz.toRow (by omega))
    clear hOz
    have sz5 : v4.heap.size ≤ v5.heap.size := hb5.size
    have st5 : Below v4.heap.size v4 v5 := hb5
    have c5_0 : v5.cell? ⟨v2.heap.size, 0, none⟩ = some (.slice (some ⟨G, 0, none⟩) (n + 1) cap) := by rw [(bcell st5).1 _ _ (by omega)]; exact c4_0
    have c5_1 : v5.cell? ⟨w.heap.size, 0, none⟩ = some (.slice ad n cp) := by rw [(bcell st5).1 _ _ (by omega)]; exact c4_1
    have c5_2 : v5.cell? ⟨w.heap.size + 1, 0, none⟩ = some (.int .i64 x0) := by rw [(bcell st5).1 _ _ (by omega)]; exact c4_2
    have c5_3 : v5.cell? ⟨w.heap.size + 1, 1, none⟩ = some (.int .i64 x1) := by rw [(bcell st5).1 _ _ (by omega)]; exact c4_3
    have c5_4 : v5.cell? ⟨w.heap.size + 1, 2, none⟩ = some (.int .i64 x2) := by rw [(bcell st5).1 _ _ (by omega)]; exact c4_4
    have c5_5 : v5.cell? ⟨w.heap.size + 1 + 1, 0, none⟩ = some (.slice none 0 0) := by rw [(bcell st5).1 _ _ (by omega)]; exact c4_5
    have g5_0 : v5.frozen? ⟨w.heap.size + 1 + 1, 0, none⟩ = false := by rw [(bcell st5).2 _ _ (by omega)]; exact g4_0
    have g5_1 : v5.frozen? ⟨v2.heap.size, 0, none⟩ = false := by rw [(bcell st5).2 _ _ (by omega)]; exact g4_1
    have B5 : Hid (Below w.heap.size w v5) := B4.out.trans (st5.mono (by omega))
    have R5_0 : Hid (Row 3 v5 (lo) (hi) (.slice ad n cp) n (flat L)) := R4_0.out.below st5 (by omega)
    have R5_1 : Hid (Row 3 v5 (G) ((G + 1)) (.slice (some ⟨G, 0, none⟩) (n + 1) cap) (n + 1) (flat M)) := R4_1.out.below st5 (by omega)
    have d5_0 : v2.heap.size < v5.heap.size := by omega
    have e5_0 : v2.heap.size ≠ v5.heap.size := by omega
    have d5_1 : w.heap.size < v5.heap.size := by omega
    have e5_1 : w.heap.size ≠ v5.heap.size := by omega
    have d5_2 : w.heap.size + 1 < v5.heap.size := by omega
    have e5_2 : w.heap.size + 1 ≠ v5.heap.size := by omega
    have d5_3 : w.heap.size + 1 + 1 < v5.heap.size := by omega
    have e5_3 : w.heap.size + 1 + 1 ≠ v5.heap.size := by omega
    have ST5 := Lib.hid st5
    clear d4_0 e4_0 d4_1 e4_1 d4_2 e4_2 d4_3 e4_3 c4_0 c4_1 c4_2 c4_3 c4_4 c4_5 g4_0 g4_1 B4 st5 R4_0 R4_1 hb5
    have r0 : (v5.setCell ⟨w.heap.size + 1 + 1, 0, none⟩ (.slice sa n sc)).cell? ⟨w.heap.size + 1 + 1, 0, none⟩ = some (.slice sa n sc) := World.cell?_setCell_same' _ _ _ (by rw [c5_5]; rfl)
    have Hrow := Lib.hid ((HR3.out.setCell (p := ⟨w.heap.size + 1 + 1, 0, none⟩) (.inl (by show w.heap.size + 1 + 1 < v4.heap.size; omega)) (.slice sa n sc)).wide (lo' := w.heap.size) (hi' := (v5.setCell ⟨w.heap.size + 1 + 1, 0, none⟩ (.slice sa n sc)).heap.size) (by omega) (by simp [World.setCell] <;> omega))
    go_wp2_with fail
    refine bodyPost_ret (v := .tuple #[.agg #[.slice sa n sc], .bool false]) (by simp [results, Try.results21, go_sem, r0]) rfl ⟨_, rfl, ?_, ?_⟩
    · rw [hL]; exact Hrow.out
    · exact B5.out.setCell (by show _ ≤ w.heap.size + 1 + 1; omega) _

theorem iput_any (lo hi n : Nat) (v : Value) (L : List Rt) (x0 x1 x2 : Int) (w : World) (hL : L.length = n) (hr : Row 3 w lo hi v n (flat L)) (hh : hi ≤ w.heap.size) : Calls Try.prog 21 #[.agg #[v], .agg #[.int .i64 x0, .int .i64 x1, .int .i64 x2]] w (TabBPost (putL L (x0, x1, x2)) (putB L (x0, x1, x2)) w) := by
  cases ht : tok L with
  | true =>
    cases hto : tok (insR L (x0, x1, x2)) with
    | true =>
      have hd := put_yes ht hto
      rw [hd.1, hd.2]
      exact iput_yes lo hi n v L x0 x1 x2 w hL hr hh ht hto
    | false =>
      have hd := put_no ht hto
      rw [hd.1, hd.2]
      exact iput_no lo hi n v L x0 x1 x2 w hL hr hh ht hto
  | false =>
    have hd := put_bad (r := (x0, x1, x2)) ht
    rw [hd.1, hd.2]
    exact iput_bad lo hi n v L x0 x1 x2 w hL hr hh ht

end Go.Proofs.Ytgdnfglhlpnooaa
