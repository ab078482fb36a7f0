/- One more value, by the model. -/
import Derived.Test.YtcchoiobdcaboaaS11
namespace Go.Proofs.Ytcchoiobdcaboaa
open Go.RowKit


set_option maxRecDepth 100000 in
set_option maxHeartbeats 8000000 in
theorem sadd_any0 (lo hi n : Nat) (v : Value) (t : Int) (C : List Int) (w : World) (hr : Row 1 w lo hi v n C) (hh : hi ≤ w.heap.size) (ht : I64 t) (x : Int) :
    Calls Try.prog 34 #[.agg #[v, .int .i64 t], .int .i64 x] w (HBPost (adC C t x) (adS C t x) (adB C t x) (adC C t x).length w) := by
  have HR1 := Lib.hid hr
  have hl : C.length = n := by have := hr.1; omega
  have HL := Lib.hid hl
  obtain ⟨ad, cp, rfl⟩ := hr.slice
  clear hr hl
  cases h1 : hkB C t with
  | false =>
    have E : Hid (adB C t x = false) := by show _ = _; unfold adB; rw [h1]; rfl
    go_enter Try.func34, Try.ntmps34
    go_wp2_with fail
    obtain ⟨q1, hq1⟩ : ∃ q, q = ((w.alloc (.cells #[.slice ad n cp, .int .i64 t] 27)).alloc (.cells #[.slice none 0 0, .int .i64 0] 27)) := ⟨_, rfl⟩
    have hb1 : Below w.heap.size w q1 := by rw [hq1]; go_grown
    have sz1 : w.heap.size + 2 ≤ q1.heap.size := by rw [hq1]; simp
    have c1_0 : q1.cell? ⟨w.heap.size, 0, none⟩ = some (.slice ad n cp) := by rw [hq1, old_box (by simp <;> omega), new_at (by simp)]; rfl
    have c1_1 : q1.cell? ⟨w.heap.size, 1, none⟩ = some (.int .i64 t) := by rw [hq1, old_box (by simp <;> omega), new_at (by simp)]; rfl
    have c1_2 : q1.cell? ⟨w.heap.size + 1, 0, none⟩ = some (.slice none 0 0) := by rw [hq1, new_at (by simp)]; rfl
    have c1_3 : q1.cell? ⟨w.heap.size + 1, 1, none⟩ = some (.int .i64 0) := by rw [hq1, new_at (by simp)]; rfl
    have g1_0 : q1.frozen? ⟨w.heap.size + 1, 0, none⟩ = false := by rw [hq1, new_frz (by simp)]
    have g1_1 : q1.frozen? ⟨w.heap.size + 1, 1, none⟩ = false := by rw [hq1, new_frz (by simp)]
    have B1 : Hid (Below w.heap.size w q1) := Lib.hid hb1
    rw [← hq1]
    have d1_0 : w.heap.size < q1.heap.size := by omega
    have e1_0 : w.heap.size ≠ q1.heap.size := by omega
    have d1_1 : w.heap.size + 1 < q1.heap.size := by omega
    have e1_1 : w.heap.size + 1 ≠ q1.heap.size := by omega
    clear hq1 hb1
    go_wp2_with fail
    go_at_call 30
    refine (shok_any lo hi n _ t C _ (HR1.out.below B1.out hh) (by have := B1.out.size; omega) ht).mono ?_
    rw [h1]
    rintro e v2 ⟨rfl, hb2⟩
    have sz2 : q1.heap.size ≤ v2.heap.size := hb2.size
    have st2 : Below q1.heap.size q1 v2 := hb2
    have c2_0 : v2.cell? ⟨w.heap.size, 0, none⟩ = some (.slice ad n cp) := by rw [(bcell st2).1 _ _ (by omega)]; exact c1_0
    have c2_1 : v2.cell? ⟨w.heap.size, 1, none⟩ = some (.int .i64 t) := by rw [(bcell st2).1 _ _ (by omega)]; exact c1_1
    have c2_2 : v2.cell? ⟨w.heap.size + 1, 0, none⟩ = some (.slice none 0 0) := by rw [(bcell st2).1 _ _ (by omega)]; exact c1_2
    have c2_3 : v2.cell? ⟨w.heap.size + 1, 1, none⟩ = some (.int .i64 0) := by rw [(bcell st2).1 _ _ (by omega)]; exact c1_3
    have g2_0 : v2.frozen? ⟨w.heap.size + 1, 0, none⟩ = false := by rw [(bcell st2).2 _ _ (by omega)]; exact g1_0
    have g2_1 : v2.frozen? ⟨w.heap.size + 1, 1, none⟩ = false := by rw [(bcell st2).2 _ _ (by omega)]; exact g1_1
    have B2 : Hid (Below w.heap.size w v2) := B1.out.trans (st2.mono (by omega))
    have d2_0 : w.heap.size < v2.heap.size := by omega
    have e2_0 : w.heap.size ≠ v2.heap.size := by omega
    have d2_1 : w.heap.size + 1 < v2.heap.size := by omega
    have e2_1 : w.heap.size + 1 ≠ v2.heap.size := by omega
    clear d1_0 e1_0 d1_1 e1_1 c1_0 c1_1 c1_2 c1_3 g1_0 g1_1 B1 st2 hb2
    go_wp2_with fail
    go_at_call 56
    refine (scph_any lo hi n _ t C _ (HR1.out.below B2.out hh) (by have := B2.out.size; omega)).mono ?_
    rintro e v3 ⟨rv, rfl, hr, hb3⟩
    have sz3 : v2.heap.size ≤ v3.heap.size := hb3.size
    have st3 : Below v2.heap.size v2 v3 := hb3
    have c3_0 : v3.cell? ⟨w.heap.size, 0, none⟩ = some (.slice ad n cp) := by rw [(bcell st3).1 _ _ (by omega)]; exact c2_0
    have c3_1 : v3.cell? ⟨w.heap.size, 1, none⟩ = some (.int .i64 t) := by rw [(bcell st3).1 _ _ (by omega)]; exact c2_1
    have c3_2 : v3.cell? ⟨w.heap.size + 1, 0, none⟩ = some (.slice none 0 0) := by rw [(bcell st3).1 _ _ (by omega)]; exact c2_2
    have c3_3 : v3.cell? ⟨w.heap.size + 1, 1, none⟩ = some (.int .i64 0) := by rw [(bcell st3).1 _ _ (by omega)]; exact c2_3
    have g3_0 : v3.frozen? ⟨w.heap.size + 1, 0, none⟩ = false := by rw [(bcell st3).2 _ _ (by omega)]; exact g2_0
    have g3_1 : v3.frozen? ⟨w.heap.size + 1, 1, none⟩ = false := by rw [(bcell st3).2 _ _ (by omega)]; exact g2_1
    have B3 : Hid (Below w.heap.size w v3) := B2.out.trans (st3.mono (by omega))
    have R3_0 : Hid (Row 1 v3 (v2.heap.size) (v3.heap.size) rv n C) := hr
    have d3_0 : w.heap.size < v3.heap.size := by omega
    have e3_0 : w.heap.size ≠ v3.heap.size := by omega
    have d3_1 : w.heap.size + 1 < v3.heap.size := by omega
    have e3_1 : w.heap.size + 1 ≠ v3.heap.size := by omega
    clear d2_0 e2_0 d2_1 e2_1 c2_0 c2_1 c2_2 c2_3 g2_0 g2_1 B2 st3 hr hb3
    obtain ⟨ra, rc, rfl⟩ := R3_0.out.slice
    have r0 : ((v3.setCell ⟨w.heap.size + 1, 0, none⟩ (.slice ra n rc)).setCell ⟨w.heap.size + 1, 1, none⟩ (.int .i64 (t))).cell? ⟨w.heap.size + 1, 0, none⟩ = some (.slice ra n rc) := by rw [World.cell?_setCell_other _ _ _ _ (by simp)]; exact World.cell?_setCell_same' _ _ _ (by rw [c3_2]; rfl)
    have r1 : ((v3.setCell ⟨w.heap.size + 1, 0, none⟩ (.slice ra n rc)).setCell ⟨w.heap.size + 1, 1, none⟩ (.int .i64 (t))).cell? ⟨w.heap.size + 1, 1, none⟩ = some (.int .i64 (t)) := World.cell?_setCell_same' _ _ _ (by rw [World.cell?_setCell_other _ _ _ _ (by simp), c3_3]; rfl)
    go_wp2_with fail
    refine bodyPost_ret (v := .tuple #[.agg #[.slice ra n rc, .int .i64 (t)], .bool false]) (by simp [results, Try.results34, go_sem, r0, r1]) rfl ?_
    rw [E.out, (ad_no E.out).1, (ad_no E.out).2, HL.out]
    refine ⟨_, rfl, ?_, ?_⟩
    · exact ((R3_0.out.setCell (p := ⟨w.heap.size + 1, 0, none⟩) (.inl (by show w.heap.size + 1 < _; omega)) _).setCell (p := ⟨w.heap.size + 1, 1, none⟩) (.inl (by show w.heap.size + 1 < _; omega)) _).wide (by omega) (by first | (simp [World.setCell]; done) | (simp [World.setCell]; omega))
    · exact ((B3.out.setCell (p := ⟨w.heap.size + 1, 0, none⟩) (by show _ ≤ w.heap.size + 1; omega) _).setCell (p := ⟨w.heap.size + 1, 1, none⟩) (by show _ ≤ w.heap.size + 1; omega) _)
  | true =>
  cases hv : vB x with
  | false =>
    have E : Hid (adB C t x = false) := by show _ = _; unfold adB; rw [hv, Bool.false_and, Bool.and_false]
    go_enter Try.func34, Try.ntmps34
    go_wp2_with fail
    obtain ⟨q1, hq1⟩ : ∃ q, q = ((w.alloc (.cells #[.slice ad n cp, .int .i64 t] 27)).alloc (.cells #[.slice none 0 0, .int .i64 0] 27)) := ⟨_, rfl⟩
    have hb1 : Below w.heap.size w q1 := by rw [hq1]; go_grown
    have sz1 : w.heap.size + 2 ≤ q1.heap.size := by rw [hq1]; simp
    have c1_0 : q1.cell? ⟨w.heap.size, 0, none⟩ = some (.slice ad n cp) := by rw [hq1, old_box (by simp <;> omega), new_at (by simp)]; rfl
    have c1_1 : q1.cell? ⟨w.heap.size, 1, none⟩ = some (.int .i64 t) := by rw [hq1, old_box (by simp <;> omega), new_at (by simp)]; rfl
    have c1_2 : q1.cell? ⟨w.heap.size + 1, 0, none⟩ = some (.slice none 0 0) := by rw [hq1, new_at (by simp)]; rfl
    have c1_3 : q1.cell? ⟨w.heap.size + 1, 1, none⟩ = some (.int .i64 0) := by rw [hq1, new_at (by simp)]; rfl
    have g1_0 : q1.frozen? ⟨w.heap.size + 1, 0, none⟩ = false := by rw [hq1, new_frz (by simp)]
    have g1_1 : q1.frozen? ⟨w.heap.size + 1, 1, none⟩ = false := by rw [hq1, new_frz (by simp)]
    have B1 : Hid (Below w.heap.size w q1) := Lib.hid hb1
    rw [← hq1]
    have d1_0 : w.heap.size < q1.heap.size := by omega
    have e1_0 : w.heap.size ≠ q1.heap.size := by omega
    have d1_1 : w.heap.size + 1 < q1.heap.size := by omega
    have e1_1 : w.heap.size + 1 ≠ q1.heap.size := by omega
    clear hq1 hb1
    go_wp2_with fail
    go_at_call 30
    refine (shok_any lo hi n _ t C _ (HR1.out.below B1.out hh) (by have := B1.out.size; omega) ht).mono ?_
    rw [h1]
    rintro e v2 ⟨rfl, hb2⟩
    have sz2 : q1.heap.size ≤ v2.heap.size := hb2.size
    have st2 : Below q1.heap.size q1 v2 := hb2
    have c2_0 : v2.cell? ⟨w.heap.size, 0, none⟩ = some (.slice ad n cp) := by rw [(bcell st2).1 _ _ (by omega)]; exact c1_0
    have c2_1 : v2.cell? ⟨w.heap.size, 1, none⟩ = some (.int .i64 t) := by rw [(bcell st2).1 _ _ (by omega)]; exact c1_1
    have c2_2 : v2.cell? ⟨w.heap.size + 1, 0, none⟩ = some (.slice none 0 0) := by rw [(bcell st2).1 _ _ (by omega)]; exact c1_2
    have c2_3 : v2.cell? ⟨w.heap.size + 1, 1, none⟩ = some (.int .i64 0) := by rw [(bcell st2).1 _ _ (by omega)]; exact c1_3
    have g2_0 : v2.frozen? ⟨w.heap.size + 1, 0, none⟩ = false := by rw [(bcell st2).2 _ _ (by omega)]; exact g1_0
    have g2_1 : v2.frozen? ⟨w.heap.size + 1, 1, none⟩ = false := by rw [(bcell st2).2 _ _ (by omega)]; exact g1_1
    have B2 : Hid (Below w.heap.size w v2) := B1.out.trans (st2.mono (by omega))
    have d2_0 : w.heap.size < v2.heap.size := by omega
    have e2_0 : w.heap.size ≠ v2.heap.size := by omega
    have d2_1 : w.heap.size + 1 < v2.heap.size := by omega
    have e2_1 : w.heap.size + 1 ≠ v2.heap.size := by omega
    clear d1_0 e1_0 d1_1 e1_1 c1_0 c1_1 c1_2 c1_3 g1_0 g1_1 B1 st2 hb2
    go_wp2_with fail
    go_at_call 52
    refine (val_any x _).mono ?_
    rw [hv]
    rintro e w3 ⟨rfl, rfl⟩
    go_wp2_with fail
    go_at_call 56
    refine (scph_any lo hi n _ t C _ (HR1.out.below B2.out hh) (by have := B2.out.size; omega)).mono ?_
    rintro e v3 ⟨rv, rfl, hr, hb3⟩
    have sz3 : v2.heap.size ≤ v3.heap.size := hb3.size
    have st3 : Below v2.heap.size v2 v3 := hb3
    have c3_0 : v3.cell? ⟨w.heap.size, 0, none⟩ = some (.slice ad n cp) := by rw [(bcell st3).1 _ _ (by omega)]; exact c2_0
    have c3_1 : v3.cell? ⟨w.heap.size, 1, none⟩ = some (.int .i64 t) := by rw [(bcell st3).1 _ _ (by omega)]; exact c2_1
    have c3_2 : v3.cell? ⟨w.heap.size + 1, 0, none⟩ = some (.slice none 0 0) := by rw [(bcell st3).1 _ _ (by omega)]; exact c2_2
    have c3_3 : v3.cell? ⟨w.heap.size + 1, 1, none⟩ = some (.int .i64 0) := by rw [(bcell st3).1 _ _ (by omega)]; exact c2_3
    have g3_0 : v3.frozen? ⟨w.heap.size + 1, 0, none⟩ = false := by rw [(bcell st3).2 _ _ (by omega)]; exact g2_0
    have g3_1 : v3.frozen? ⟨w.heap.size + 1, 1, none⟩ = false := by rw [(bcell st3).2 _ _ (by omega)]; exact g2_1
    have B3 : Hid (Below w.heap.size w v3) := B2.out.trans (st3.mono (by omega))
    have R3_0 : Hid (Row 1 v3 (v2.heap.size) (v3.heap.size) rv n C) := hr
    have d3_0 : w.heap.size < v3.heap.size := by omega
    have e3_0 : w.heap.size ≠ v3.heap.size := by omega
    have d3_1 : w.heap.size + 1 < v3.heap.size := by omega
    have e3_1 : w.heap.size + 1 ≠ v3.heap.size := by omega
    clear d2_0 e2_0 d2_1 e2_1 c2_0 c2_1 c2_2 c2_3 g2_0 g2_1 B2 st3 hr hb3
    obtain ⟨ra, rc, rfl⟩ := R3_0.out.slice
    have r0 : ((v3.setCell ⟨w.heap.size + 1, 0, none⟩ (.slice ra n rc)).setCell ⟨w.heap.size + 1, 1, none⟩ (.int .i64 (t))).cell? ⟨w.heap.size + 1, 0, none⟩ = some (.slice ra n rc) := by rw [World.cell?_setCell_other _ _ _ _ (by simp)]; exact World.cell?_setCell_same' _ _ _ (by rw [c3_2]; rfl)
    have r1 : ((v3.setCell ⟨w.heap.size + 1, 0, none⟩ (.slice ra n rc)).setCell ⟨w.heap.size + 1, 1, none⟩ (.int .i64 (t))).cell? ⟨w.heap.size + 1, 1, none⟩ = some (.int .i64 (t)) := World.cell?_setCell_same' _ _ _ (by rw [World.cell?_setCell_other _ _ _ _ (by simp), c3_3]; rfl)
    go_wp2_with fail
    refine bodyPost_ret (v := .tuple #[.agg #[.slice ra n rc, .int .i64 (t)], .bool false]) (by simp [results, Try.results34, go_sem, r0, r1]) rfl ?_
    rw [E.out, (ad_no E.out).1, (ad_no E.out).2, HL.out]
    refine ⟨_, rfl, ?_, ?_⟩
    · exact ((R3_0.out.setCell (p := ⟨w.heap.size + 1, 0, none⟩) (.inl (by show w.heap.size + 1 < _; omega)) _).setCell (p := ⟨w.heap.size + 1, 1, none⟩) (.inl (by show w.heap.size + 1 < _; omega)) _).wide (by omega) (by first | (simp [World.setCell]; done) | (simp [World.setCell]; omega))
    · exact ((B3.out.setCell (p := ⟨w.heap.size + 1, 0, none⟩) (by show _ ≤ w.heap.size + 1; omega) _).setCell (p := ⟨w.heap.size + 1, 1, none⟩) (by show _ ≤ w.heap.size + 1; omega) _)
  | true =>
    obtain ⟨l1, k1, _⟩ := hkB_iff.1 h1
    have hss := hk_sum h1
    have hxv := vB_iff.1 hv
    obtain rfl : n = 21 := by have := HL.out; omega
    have HCb : Hid (∀ i, i < 21 → 0 ≤ cAt C i ∧ cAt C i ≤ 1000000) := fun i hi => cOk_at k1 hi
    have HCl := Lib.hid l1
    have HTT := Lib.hid hss
    have HXV := Lib.hid hxv
    have HV := Lib.hid hv
    have HBL := Lib.hid (bl_in hxv.1 hxv.2).1
    have H1 := Lib.hid h1
    have hi64 : I64 (t + x) := by unfold I64; omega
    clear l1 k1 hss hxv hv
    go_enter Try.func34, Try.ntmps34
    go_wp2_with fail
    obtain ⟨q1, hq1⟩ : ∃ q, q = ((w.alloc (.cells #[.slice ad 21 cp, .int .i64 t] 27)).alloc (.cells #[.slice none 0 0, .int .i64 0] 27)) := ⟨_, rfl⟩
    have hb1 : Below w.heap.size w q1 := by rw [hq1]; go_grown
    have sz1 : w.heap.size + 2 ≤ q1.heap.size := by rw [hq1]; simp
    have c1_0 : q1.cell? ⟨w.heap.size, 0, none⟩ = some (.slice ad 21 cp) := by rw [hq1, old_box (by simp <;> omega), new_at (by simp)]; rfl
    have c1_1 : q1.cell? ⟨w.heap.size, 1, none⟩ = some (.int .i64 t) := by rw [hq1, old_box (by simp <;> omega), new_at (by simp)]; rfl
    have c1_2 : q1.cell? ⟨w.heap.size + 1, 0, none⟩ = some (.slice none 0 0) := by rw [hq1, new_at (by simp)]; rfl
    have c1_3 : q1.cell? ⟨w.heap.size + 1, 1, none⟩ = some (.int .i64 0) := by rw [hq1, new_at (by simp)]; rfl
    have g1_0 : q1.frozen? ⟨w.heap.size + 1, 0, none⟩ = false := by rw [hq1, new_frz (by simp)]
    have g1_1 : q1.frozen? ⟨w.heap.size + 1, 1, none⟩ = false := by rw [hq1, new_frz (by simp)]
    have B1 : Hid (Below w.heap.size w q1) := Lib.hid hb1
    rw [← hq1]
    have d1_0 : w.heap.size < q1.heap.size := by omega
    have e1_0 : w.heap.size ≠ q1.heap.size := by omega
    have d1_1 : w.heap.size + 1 < q1.heap.size := by omega
    have e1_1 : w.heap.size + 1 ≠ q1.heap.size := by omega
    clear hq1 hb1
    go_wp2_with fail
    go_at_call 30
    refine (shok_any lo hi 21 _ t C _ (HR1.out.below B1.out hh) (by have := B1.out.size; omega) ht).mono ?_
    rw [h1]
    rintro e v2 ⟨rfl, hb2⟩
    have sz2 : q1.heap.size ≤ v2.heap.size := hb2.size
    have st2 : Below q1.heap.size q1 v2 := hb2
    have c2_0 : v2.cell? ⟨w.heap.size, 0, none⟩ = some (.slice ad 21 cp) := by rw [(bcell st2).1 _ _ (by omega)]; exact c1_0
    have c2_1 : v2.cell? ⟨w.heap.size, 1, none⟩ = some (.int .i64 t) := by rw [(bcell st2).1 _ _ (by omega)]; exact c1_1
    have c2_2 : v2.cell? ⟨w.heap.size + 1, 0, none⟩ = some (.slice none 0 0) := by rw [(bcell st2).1 _ _ (by omega)]; exact c1_2
    have c2_3 : v2.cell? ⟨w.heap.size + 1, 1, none⟩ = some (.int .i64 0) := by rw [(bcell st2).1 _ _ (by omega)]; exact c1_3
    have g2_0 : v2.frozen? ⟨w.heap.size + 1, 0, none⟩ = false := by rw [(bcell st2).2 _ _ (by omega)]; exact g1_0
    have g2_1 : v2.frozen? ⟨w.heap.size + 1, 1, none⟩ = false := by rw [(bcell st2).2 _ _ (by omega)]; exact g1_1
    have B2 : Hid (Below w.heap.size w v2) := B1.out.trans (st2.mono (by omega))
    have d2_0 : w.heap.size < v2.heap.size := by omega
    have e2_0 : w.heap.size ≠ v2.heap.size := by omega
    have d2_1 : w.heap.size + 1 < v2.heap.size := by omega
    have e2_1 : w.heap.size + 1 ≠ v2.heap.size := by omega
    clear d1_0 e1_0 d1_1 e1_1 c1_0 c1_1 c1_2 c1_3 g1_0 g1_1 B1 st2 hb2
    go_wp2_with fail
    go_at_call 52
    refine (val_any x _).mono ?_
    rw [HV.out]
    rintro e w3 ⟨rfl, rfl⟩
    go_wp2_with fail
    go_at_call 56
    refine (scph_any lo hi 21 _ t C _ (HR1.out.below B2.out hh) (by have := B2.out.size; omega)).mono ?_
    rintro e v3 ⟨rv, rfl, hr, hb3⟩
    have sz3 : v2.heap.size ≤ v3.heap.size := hb3.size
    have st3 : Below v2.heap.size v2 v3 := hb3
    have c3_0 : v3.cell? ⟨w.heap.size, 0, none⟩ = some (.slice ad 21 cp) := by rw [(bcell st3).1 _ _ (by omega)]; exact c2_0
    have c3_1 : v3.cell? ⟨w.heap.size, 1, none⟩ = some (.int .i64 t) := by rw [(bcell st3).1 _ _ (by omega)]; exact c2_1
    have c3_2 : v3.cell? ⟨w.heap.size + 1, 0, none⟩ = some (.slice none 0 0) := by rw [(bcell st3).1 _ _ (by omega)]; exact c2_2
    have c3_3 : v3.cell? ⟨w.heap.size + 1, 1, none⟩ = some (.int .i64 0) := by rw [(bcell st3).1 _ _ (by omega)]; exact c2_3
    have g3_0 : v3.frozen? ⟨w.heap.size + 1, 0, none⟩ = false := by rw [(bcell st3).2 _ _ (by omega)]; exact g2_0
    have g3_1 : v3.frozen? ⟨w.heap.size + 1, 1, none⟩ = false := by rw [(bcell st3).2 _ _ (by omega)]; exact g2_1
    have B3 : Hid (Below w.heap.size w v3) := B2.out.trans (st3.mono (by omega))
    have R3_0 : Hid (Row 1 v3 (v2.heap.size) (v3.heap.size) rv 21 C) := hr
    have d3_0 : w.heap.size < v3.heap.size := by omega
    have e3_0 : w.heap.size ≠ v3.heap.size := by omega
    have d3_1 : w.heap.size + 1 < v3.heap.size := by omega
    have e3_1 : w.heap.size + 1 ≠ v3.heap.size := by omega
    clear d2_0 e2_0 d2_1 e2_1 c2_0 c2_1 c2_2 c2_3 g2_0 g2_1 B2 st3 hr hb3
    obtain ⟨ra, cG, rfl⟩ := R3_0.out.slice
    obtain ⟨G, rfl, hG1, hG2, hG3, hG4, _⟩ := R3_0.out.own21
    have HG3 := Lib.hid (And.intro hG3 hG4)
    clear hG3 hG4 R3_0
    go_upto_region 4 with fail
    have HHG : Hid (∀ q z, C[q]? = some z → (v3.alloc (.cells #[.slice (some ⟨G, 0, none⟩) 21 cG, .int .i64 t] 27)).cell? ⟨G, q, none⟩ = some (.int .i64 z)) := fun q z hz => by rw [old_box hG2]; exact HG3.out.1 q z hz
    have HHF : Hid (∀ o, (v3.alloc (.cells #[.slice (some ⟨G, 0, none⟩) 21 cG, .int .i64 t] 27)).frozen? ⟨G, o, none⟩ = false) := fun o => by rw [old_frz hG2]; exact HG3.out.2 o
    have HXF : Hid (∀ o, (v3.alloc (.cells #[.slice (some ⟨G, 0, none⟩) 21 cG, .int .i64 t] 27)).frozen? ⟨v3.heap.size, o, none⟩ = false) := fun o => new_frz rfl
    clear HG3
    obtain ⟨q4, hq4⟩ : ∃ q, q = (v3.alloc (.cells #[.slice (some ⟨G, 0, none⟩) 21 cG, .int .i64 t] 27)) := ⟨_, rfl⟩
    have hb4 : Below v3.heap.size v3 q4 := by rw [hq4]; go_grown
    have sz4 : v3.heap.size + 1 ≤ q4.heap.size := by rw [hq4]; simp
    have c4_0 : q4.cell? ⟨w.heap.size, 0, none⟩ = some (.slice ad 21 cp) := by rw [(bcell hb4).1 _ _ (by omega)]; exact c3_0
    have c4_1 : q4.cell? ⟨w.heap.size, 1, none⟩ = some (.int .i64 t) := by rw [(bcell hb4).1 _ _ (by omega)]; exact c3_1
    have c4_2 : q4.cell? ⟨w.heap.size + 1, 0, none⟩ = some (.slice none 0 0) := by rw [(bcell hb4).1 _ _ (by omega)]; exact c3_2
    have c4_3 : q4.cell? ⟨w.heap.size + 1, 1, none⟩ = some (.int .i64 0) := by rw [(bcell hb4).1 _ _ (by omega)]; exact c3_3
    have c4_4 : q4.cell? ⟨v3.heap.size, 0, none⟩ = some (.slice (some ⟨G, 0, none⟩) 21 cG) := by rw [hq4, new_at (by simp)]; rfl
    have c4_5 : q4.cell? ⟨v3.heap.size, 1, none⟩ = some (.int .i64 t) := by rw [hq4, new_at (by simp)]; rfl
    have g4_0 : q4.frozen? ⟨w.heap.size + 1, 0, none⟩ = false := by rw [(bcell hb4).2 _ _ (by omega)]; exact g3_0
    have g4_1 : q4.frozen? ⟨w.heap.size + 1, 1, none⟩ = false := by rw [(bcell hb4).2 _ _ (by omega)]; exact g3_1
    have g4_2 : q4.frozen? ⟨v3.heap.size, 0, none⟩ = false := by rw [hq4, new_frz (by simp)]
    have g4_3 : q4.frozen? ⟨v3.heap.size, 1, none⟩ = false := by rw [hq4, new_frz (by simp)]
    have B4 : Hid (Below w.heap.size w q4) := Lib.hid (B3.out.trans (hb4.mono (by omega)))
    rw [← hq4] at HHG HHF HXF ⊢
    have d4_0 : w.heap.size < q4.heap.size := by omega
    have e4_0 : w.heap.size ≠ q4.heap.size := by omega
    have d4_1 : w.heap.size + 1 < q4.heap.size := by omega
    have e4_1 : w.heap.size + 1 ≠ q4.heap.size := by omega
    have d4_2 : v3.heap.size < q4.heap.size := by omega
    have e4_2 : v3.heap.size ≠ q4.heap.size := by omega
    clear hq4 hb4 d3_0 e3_0 d3_1 e3_1 c3_0 c3_1 c3_2 c3_3 g3_0 g3_1 B3
    have hBX : HBx q4 (v3.heap.size) G cG C t := ⟨c4_4, c4_5, HXF.out, HHG.out, HHF.out, HCl.out, by omega, by omega, by omega⟩
    clear HHG HHF HXF c4_4 c4_5 g4_2 g4_3
    obtain ⟨X, hXe⟩ : ∃ X, X = v3.heap.size := ⟨_, rfl⟩
    rw [← hXe] at hBX ⊢
    have hX1 : w.heap.size + 1 < X := by omega
    have hX3 : X < q4.heap.size := by omega
    have hG5 : w.heap.size + 1 < G := by omega
    have hG6 : G < q4.heap.size := by omega
    clear hXe d4_0 e4_0 d4_1 e4_1 d4_2 e4_2
    have x0 := hBX.c0
    have y0 := hBX.at_ HBL.out
    have y1 := hBX.fg (bl x)
    obtain ⟨z, hz⟩ : ∃ z, z = cAt C (bl x) := ⟨_, rfl⟩
    rw [← hz] at y0
    have HZ := Lib.hid hz
    have z01 := HCb.out (bl x) HBL.out
    rw [← hz] at z01
    obtain ⟨z0, z1⟩ := z01
    have hput := hBX.putG HBL.out (z + 1)
    have HP : Hid (HBx (q4.setCell ⟨G, bl x, none⟩ (.int .i64 (z + 1))) X G cG (inc C (bl x)) t) := by show HBx _ _ _ _ _ _; unfold inc; rw [← HZ.out]; exact hput
    have HT4 : Hid (Two X G q4 (q4.setCell ⟨G, bl x, none⟩ (.int .i64 (z + 1)))) := (Two.refl _ _ _).setG _ _
    clear hput hBX hz
    have hwz : IntKind.i64.wrap (z + 1) = z + 1 := IntWalk.i64_in _ (by omega)
    obtain ⟨bb, hbb⟩ : ∃ b, b = bl x := ⟨_, rfl⟩
    simp only [← hbb] at y0 y1 HP HT4
    have HBK : Hid (bkt x = (bb : Int)) := by show _ = _; rw [hbb]; exact bkt_yes HV.out
    have bb21 : (bb : Int) < 21 := by have := HBL.out; omega
    have bb0 : (0 : Int) ≤ (bb : Int) := by omega
    have HBB := Lib.hid hbb
    clear hbb
    have HI : Hid (inc C bb = inc C (bl x)) := by show _ = _; rw [HBB.out]
    go_cut [] (fun wx => Hid (HBx wx X G cG (inc C bb) t) ∧ Hid (Two X G q4 wx))
    case first =>
      go_wp2_with fail
      go_region_law (go_simp; go_at_call 25; refine (sbo_any x _).mono ?_; rw [HBK.out]; rintro e w3 ⟨rfl, rfl⟩)
      all_goals
        have HP2 := Lib.hid HP.out.drew
        have HT2 := Lib.hid HT4.out.drew
        clear HP HT4 x0 y0 y1
        go_wp2_with fail
        go_meet
        exact ⟨HP2, HT2⟩
    case rest =>
      obtain ⟨HP2, HT2⟩ := hcut
      clear HP HT4 x0 y0 y1 hwz
      obtain ⟨u4, rfl⟩ : ∃ x, x = wc := ⟨_, rfl⟩
      have x1 := HP2.out.c1
      have f1 := HP2.out.fx 1
      have a1 : u4.cell? ⟨w.heap.size, 1, none⟩ = some (.int .i64 t) := by rw [HT2.out.cell (by omega) (by omega) (by omega)]; exact c4_1
      have t0 := HTT.out
      have v0 := HXV.out
      have ss0 : -9223372036854775808 ≤ t + x := by omega
      have ss1 : t + x ≤ 9223372036854775807 := by omega
      obtain ⟨v5, hv5⟩ : ∃ v5, v5 = u4.setCell ⟨X, 1, none⟩ (.int .i64 (t + x)) := ⟨_, rfl⟩
      have HBX5 : Hid (HBx v5 X G cG (inc C (bl x)) (t + x)) := by rw [hv5, ← HI.out]; exact HP2.out.putX _
      have HT5 : Hid (Two X G q4 v5) := by rw [hv5]; exact HT2.out.setX _ _
      clear HP2 HT2 t0 v0
      go_upto_region 6 with fail
      rw [← hv5]
      clear hv5 x1 f1 a1
      have c5_0 : v5.cell? ⟨w.heap.size, 0, none⟩ = some (.slice ad 21 cp) := by rw [HT5.out.cell (by omega) (by omega) (by omega)]; exact c4_0
      have c5_1 : v5.cell? ⟨w.heap.size, 1, none⟩ = some (.int .i64 t) := by rw [HT5.out.cell (by omega) (by omega) (by omega)]; exact c4_1
      have c5_2 : v5.cell? ⟨w.heap.size + 1, 0, none⟩ = some (.slice none 0 0) := by rw [HT5.out.cell (by omega) (by omega) (by omega)]; exact c4_2
      have c5_3 : v5.cell? ⟨w.heap.size + 1, 1, none⟩ = some (.int .i64 0) := by rw [HT5.out.cell (by omega) (by omega) (by omega)]; exact c4_3
      have g5_0 : v5.frozen? ⟨w.heap.size + 1, 0, none⟩ = false := by rw [HT5.out.frozen (by omega) (by omega) (by omega)]; exact g4_0
      have g5_1 : v5.frozen? ⟨w.heap.size + 1, 1, none⟩ = false := by rw [HT5.out.frozen (by omega) (by omega) (by omega)]; exact g4_1
      have B5 : Hid (Below w.heap.size w v5) := B4.out.trans (HT5.out.below (B := w.heap.size) (by omega) (by omega) (by omega))
      clear c4_0 c4_1 c4_2 c4_3 g4_0 g4_1 B4
      have szX : X < v5.heap.size := HBX5.out.lx
      have szG : G < v5.heap.size := HBX5.out.lg
      have szq := HT5.out.size
      have x0 := HBX5.out.c0
      have x1 := HBX5.out.c1
      clear HT5
      cases h3 : hkB (inc C (bl x)) (t + x) with
      | false =>
        have E : Hid (adB C t x = false) := by show _ = _; unfold adB; rw [h3, Bool.and_false, Bool.and_false]
        go_wp2_with fail
        go_at_call 30
        refine (shok_any G (G + 1) 21 _ (t + x) (inc C (bl x)) _ (HBX5.out.row (Nat.le_refl _) (Nat.lt_succ_self _)) (by omega) hi64).mono ?_
        rw [h3]
        rintro e v6 ⟨rfl, hb6⟩
        have sz6 : v5.heap.size ≤ v6.heap.size := hb6.size
        have st6 : Below v5.heap.size v5 v6 := hb6
        have c6_0 : v6.cell? ⟨w.heap.size, 0, none⟩ = some (.slice ad 21 cp) := by rw [(bcell st6).1 _ _ (by omega)]; exact c5_0
        have c6_1 : v6.cell? ⟨w.heap.size, 1, none⟩ = some (.int .i64 t) := by rw [(bcell st6).1 _ _ (by omega)]; exact c5_1
        have c6_2 : v6.cell? ⟨w.heap.size + 1, 0, none⟩ = some (.slice none 0 0) := by rw [(bcell st6).1 _ _ (by omega)]; exact c5_2
        have c6_3 : v6.cell? ⟨w.heap.size + 1, 1, none⟩ = some (.int .i64 0) := by rw [(bcell st6).1 _ _ (by omega)]; exact c5_3
        have c6_4 : v6.cell? ⟨X, 0, none⟩ = some (.slice (some ⟨G, 0, none⟩) 21 cG) := by rw [(bcell st6).1 _ _ (by omega)]; exact x0
        have c6_5 : v6.cell? ⟨X, 1, none⟩ = some (.int .i64 (t + x)) := by rw [(bcell st6).1 _ _ (by omega)]; exact x1
        have g6_0 : v6.frozen? ⟨w.heap.size + 1, 0, none⟩ = false := by rw [(bcell st6).2 _ _ (by omega)]; exact g5_0
        have g6_1 : v6.frozen? ⟨w.heap.size + 1, 1, none⟩ = false := by rw [(bcell st6).2 _ _ (by omega)]; exact g5_1
        have B6 : Hid (Below w.heap.size w v6) := B5.out.trans (st6.mono (by omega))
        have d6_0 : w.heap.size < v6.heap.size := by omega
        have e6_0 : w.heap.size ≠ v6.heap.size := by omega
        have d6_1 : w.heap.size + 1 < v6.heap.size := by omega
        have e6_1 : w.heap.size + 1 ≠ v6.heap.size := by omega
        clear c5_0 c5_1 c5_2 c5_3 x0 x1 g5_0 g5_1 B5 st6 hb6
        go_wp2_with fail
        go_at_call 56
        refine (scph_any lo hi 21 _ t C _ (HR1.out.below B6.out hh) (by have := B6.out.size; omega)).mono ?_
        rintro e v7 ⟨rv, rfl, hr, hb7⟩
        have sz7 : v6.heap.size ≤ v7.heap.size := hb7.size
        have st7 : Below v6.heap.size v6 v7 := hb7
        have c7_0 : v7.cell? ⟨w.heap.size, 0, none⟩ = some (.slice ad 21 cp) := by rw [(bcell st7).1 _ _ (by omega)]; exact c6_0
        have c7_1 : v7.cell? ⟨w.heap.size, 1, none⟩ = some (.int .i64 t) := by rw [(bcell st7).1 _ _ (by omega)]; exact c6_1
        have c7_2 : v7.cell? ⟨w.heap.size + 1, 0, none⟩ = some (.slice none 0 0) := by rw [(bcell st7).1 _ _ (by omega)]; exact c6_2
        have c7_3 : v7.cell? ⟨w.heap.size + 1, 1, none⟩ = some (.int .i64 0) := by rw [(bcell st7).1 _ _ (by omega)]; exact c6_3
        have c7_4 : v7.cell? ⟨X, 0, none⟩ = some (.slice (some ⟨G, 0, none⟩) 21 cG) := by rw [(bcell st7).1 _ _ (by omega)]; exact c6_4
        have c7_5 : v7.cell? ⟨X, 1, none⟩ = some (.int .i64 (t + x)) := by rw [(bcell st7).1 _ _ (by omega)]; exact c6_5
        have g7_0 : v7.frozen? ⟨w.heap.size + 1, 0, none⟩ = false := by rw [(bcell st7).2 _ _ (by omega)]; exact g6_0
        have g7_1 : v7.frozen? ⟨w.heap.size + 1, 1, none⟩ = false := by rw [(bcell st7).2 _ _ (by omega)]; exact g6_1
        have B7 : Hid (Below w.heap.size w v7) := B6.out.trans (st7.mono (by omega))
        have R7_0 : Hid (Row 1 v7 (v6.heap.size) (v7.heap.size) rv 21 C) := hr
        have d7_0 : w.heap.size < v7.heap.size := by omega
        have e7_0 : w.heap.size ≠ v7.heap.size := by omega
        have d7_1 : w.heap.size + 1 < v7.heap.size := by omega
        have e7_1 : w.heap.size + 1 ≠ v7.heap.size := by omega
        clear d6_0 e6_0 d6_1 e6_1 c6_0 c6_1 c6_2 c6_3 c6_4 c6_5 g6_0 g6_1 B6 st7 hr hb7
        obtain ⟨ra, rc, rfl⟩ := R7_0.out.slice
        have r0 : ((v7.setCell ⟨w.heap.size + 1, 0, none⟩ (.slice ra 21 rc)).setCell ⟨w.heap.size + 1, 1, none⟩ (.int .i64 (t))).cell? ⟨w.heap.size + 1, 0, none⟩ = some (.slice ra 21 rc) := by rw [World.cell?_setCell_other _ _ _ _ (by simp)]; exact World.cell?_setCell_same' _ _ _ (by rw [c7_2]; rfl)
        have r1 : ((v7.setCell ⟨w.heap.size + 1, 0, none⟩ (.slice ra 21 rc)).setCell ⟨w.heap.size + 1, 1, none⟩ (.int .i64 (t))).cell? ⟨w.heap.size + 1, 1, none⟩ = some (.int .i64 (t)) := World.cell?_setCell_same' _ _ _ (by rw [World.cell?_setCell_other _ _ _ _ (by simp), c7_3]; rfl)
        go_wp2_with fail
        refine bodyPost_ret (v := .tuple #[.agg #[.slice ra 21 rc, .int .i64 (t)], .bool false]) (by simp [results, Try.results34, go_sem, r0, r1]) rfl ?_
        rw [E.out, (ad_no E.out).1, (ad_no E.out).2, HL.out]
        refine ⟨_, rfl, ?_, ?_⟩
        · exact ((R7_0.out.setCell (p := ⟨w.heap.size + 1, 0, none⟩) (.inl (by show w.heap.size + 1 < _; omega)) _).setCell (p := ⟨w.heap.size + 1, 1, none⟩) (.inl (by show w.heap.size + 1 < _; omega)) _).wide (by omega) (by first | (simp [World.setCell]; done) | (simp [World.setCell]; omega))
        · exact ((B7.out.setCell (p := ⟨w.heap.size + 1, 0, none⟩) (by show _ ≤ w.heap.size + 1; omega) _).setCell (p := ⟨w.heap.size + 1, 1, none⟩) (by show _ ≤ w.heap.size + 1; omega) _)
      | true =>
        have E : Hid (adB C t x = true) := by show _ = _; unfold adB; rw [H1.out, HV.out, h3]; rfl
        go_wp2_with fail
        go_at_call 30
        refine (shok_any G (G + 1) 21 _ (t + x) (inc C (bl x)) _ (HBX5.out.row (Nat.le_refl _) (Nat.lt_succ_self _)) (by omega) hi64).mono ?_
        rw [h3]
        rintro e v6 ⟨rfl, hb6⟩
        have sz6 : v5.heap.size ≤ v6.heap.size := hb6.size
        have st6 : Below v5.heap.size v5 v6 := hb6
        have c6_0 : v6.cell? ⟨w.heap.size, 0, none⟩ = some (.slice ad 21 cp) := by rw [(bcell st6).1 _ _ (by omega)]; exact c5_0
        have c6_1 : v6.cell? ⟨w.heap.size, 1, none⟩ = some (.int .i64 t) := by rw [(bcell st6).1 _ _ (by omega)]; exact c5_1
        have c6_2 : v6.cell? ⟨w.heap.size + 1, 0, none⟩ = some (.slice none 0 0) := by rw [(bcell st6).1 _ _ (by omega)]; exact c5_2
        have c6_3 : v6.cell? ⟨w.heap.size + 1, 1, none⟩ = some (.int .i64 0) := by rw [(bcell st6).1 _ _ (by omega)]; exact c5_3
        have c6_4 : v6.cell? ⟨X, 0, none⟩ = some (.slice (some ⟨G, 0, none⟩) 21 cG) := by rw [(bcell st6).1 _ _ (by omega)]; exact x0
        have c6_5 : v6.cell? ⟨X, 1, none⟩ = some (.int .i64 (t + x)) := by rw [(bcell st6).1 _ _ (by omega)]; exact x1
        have g6_0 : v6.frozen? ⟨w.heap.size + 1, 0, none⟩ = false := by rw [(bcell st6).2 _ _ (by omega)]; exact g5_0
        have g6_1 : v6.frozen? ⟨w.heap.size + 1, 1, none⟩ = false := by rw [(bcell st6).2 _ _ (by omega)]; exact g5_1
        have B6 : Hid (Below w.heap.size w v6) := B5.out.trans (st6.mono (by omega))
        have d6_0 : w.heap.size < v6.heap.size := by omega
        have e6_0 : w.heap.size ≠ v6.heap.size := by omega
        have d6_1 : w.heap.size + 1 < v6.heap.size := by omega
        have e6_1 : w.heap.size + 1 ≠ v6.heap.size := by omega
        have ST6 := Lib.hid st6
        clear c5_0 c5_1 c5_2 c5_3 x0 x1 g5_0 g5_1 B5 st6 hb6
        have HBX6 := HBX5.out.below ST6.out szX szG
        have szG6 := HBX6.lg
        have r0 : ((v6.setCell ⟨w.heap.size + 1, 0, none⟩ (.slice (some ⟨G, 0, none⟩) 21 cG)).setCell ⟨w.heap.size + 1, 1, none⟩ (.int .i64 (t + x))).cell? ⟨w.heap.size + 1, 0, none⟩ = some (.slice (some ⟨G, 0, none⟩) 21 cG) := by rw [World.cell?_setCell_other _ _ _ _ (by simp)]; exact World.cell?_setCell_same' _ _ _ (by rw [c6_2]; rfl)
        have r1 : ((v6.setCell ⟨w.heap.size + 1, 0, none⟩ (.slice (some ⟨G, 0, none⟩) 21 cG)).setCell ⟨w.heap.size + 1, 1, none⟩ (.int .i64 (t + x))).cell? ⟨w.heap.size + 1, 1, none⟩ = some (.int .i64 (t + x)) := World.cell?_setCell_same' _ _ _ (by rw [World.cell?_setCell_other _ _ _ _ (by simp), c6_3]; rfl)
        go_wp2_with fail
        refine bodyPost_ret (v := .tuple #[.agg #[.slice (some ⟨G, 0, none⟩) 21 cG, .int .i64 (t + x)], .bool true]) (by simp [results, Try.results34, go_sem, r0, r1]) rfl ?_
        rw [adC_len, E.out, (ad_yes E.out).1, (ad_yes E.out).2, HL.out]
        refine ⟨_, rfl, ?_, ?_⟩
        · exact (((HBX6.row (lo := G) (hi := G + 1) (Nat.le_refl _) (Nat.lt_succ_self _)).setCell (p := ⟨w.heap.size + 1, 0, none⟩) (.inl (by show w.heap.size + 1 < _; omega)) _).setCell (p := ⟨w.heap.size + 1, 1, none⟩) (.inl (by show w.heap.size + 1 < _; omega)) _).wide (by omega) (by first | (simp [World.setCell]; done) | (simp [World.setCell]; omega))
        · exact ((B6.out.setCell (p := ⟨w.heap.size + 1, 0, none⟩) (by show _ ≤ w.heap.size + 1; omega) _).setCell (p := ⟨w.heap.size + 1, 1, none⟩) (by show _ ≤ w.heap.size + 1; omega) _)

end Go.Proofs.Ytcchoiobdcaboaa
