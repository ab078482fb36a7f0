/- Merging and taking away, by the program. -/
import Derived.Test.YtcchoiobdcaboaaS8
namespace Go.Proofs.Ytcchoiobdcaboaa
open Go.RowKit


set_option maxRecDepth 100000 in
set_option maxHeartbeats 4000000 in
theorem imrg_any (lo hi n lo2 hi2 n2 : Nat) (v v2 : Value) (s t : Int) (C D : List Int) (w : World) (hr1 : Row 1 w lo hi v n C) (hr2 : Row 1 w lo2 hi2 v2 n2 D) (hh : hi ≤ w.heap.size) (hh2 : hi2 ≤ w.heap.size) (hs : I64 s) (ht : I64 t) :
    Calls Try.prog 23 #[.agg #[v, .int .i64 s], .agg #[v2, .int .i64 t]] w (HBPost (cmC C s D t 1) (cmS C s D t 1) (cmB C s D t 1) n w) := by
  have HR1 := Lib.hid hr1
  have HR2 := Lib.hid hr2
  obtain ⟨ad, cp, rfl⟩ := hr1.slice
  obtain ⟨ad2, cp2, rfl⟩ := hr2.slice
  clear hr1 hr2
  obtain ⟨CC, hCC⟩ : ∃ x, x = cmC C s D t 1 := ⟨_, rfl⟩
  obtain ⟨SS, hSS⟩ : ∃ x, x = cmS C s D t 1 := ⟨_, rfl⟩
  obtain ⟨BB, hBB⟩ : ∃ x, x = cmB C s D t 1 := ⟨_, rfl⟩
  rw [← hCC, ← hSS, ← hBB]
  have HCC := Lib.hid hCC
  have HSS := Lib.hid hSS
  have HBB := Lib.hid hBB
  clear hCC hSS hBB
  go_enter Try.func23, Try.ntmps23
  go_wp2_with fail
  obtain ⟨q1, hq1⟩ : ∃ q, q = (((w.alloc (.cells #[.slice ad n cp, .int .i64 s] 27)).alloc (.cells #[.slice ad2 n2 cp2, .int .i64 t] 27)).alloc (.cells #[.slice none 0 0, .int .i64 0] 27)) := ⟨_, rfl⟩
  have hb1 : Below w.heap.size w q1 := by rw [hq1]; go_grown
  have sz1 : w.heap.size + 3 ≤ q1.heap.size := by rw [hq1]; simp
  have c1_0 : q1.cell? ⟨w.heap.size, 0, none⟩ = some (.slice ad n cp) := by rw [hq1, old_box (by simp <;> omega), old_box (by simp <;> omega), new_at (by simp)]; rfl
  have c1_1 : q1.cell? ⟨w.heap.size, 1, none⟩ = some (.int .i64 s) := by rw [hq1, old_box (by simp <;> omega), old_box (by simp <;> omega), new_at (by simp)]; rfl
  have c1_2 : q1.cell? ⟨w.heap.size + 1, 0, none⟩ = some (.slice ad2 n2 cp2) := by rw [hq1, old_box (by simp <;> omega), new_at (by simp)]; rfl
  have c1_3 : q1.cell? ⟨w.heap.size + 1, 1, none⟩ = some (.int .i64 t) := by rw [hq1, old_box (by simp <;> omega), new_at (by simp)]; rfl
  have c1_4 : q1.cell? ⟨w.heap.size + 1 + 1, 0, none⟩ = some (.slice none 0 0) := by rw [hq1, new_at (by simp)]; rfl
  have c1_5 : q1.cell? ⟨w.heap.size + 1 + 1, 1, none⟩ = some (.int .i64 0) := by rw [hq1, new_at (by simp)]; rfl
  have g1_0 : q1.frozen? ⟨w.heap.size + 1 + 1, 0, none⟩ = false := by rw [hq1, new_frz (by simp)]
  have g1_1 : q1.frozen? ⟨w.heap.size + 1 + 1, 1, none⟩ = false := by rw [hq1, new_frz (by simp)]
  have B1 : Hid (Below w.heap.size w q1) := Lib.hid hb1
  rw [← hq1]
  have d1_0 : w.heap.size < q1.heap.size := by omega
  have e1_0 : w.heap.size ≠ q1.heap.size := by omega
  have d1_1 : w.heap.size + 1 < q1.heap.size := by omega
  have e1_1 : w.heap.size + 1 ≠ q1.heap.size := by omega
  have d1_2 : w.heap.size + 1 + 1 < q1.heap.size := by omega
  have e1_2 : w.heap.size + 1 + 1 ≠ q1.heap.size := by omega
  clear hq1 hb1
  go_wp2_with fail
  go_at_call 51
  refine (icomb_any lo hi n lo2 hi2 n2 _ _ s t C D 1 (.inl rfl) _ (HR1.out.below B1.out hh) (HR2.out.below B1.out hh2) (by omega) (by omega) hs ht).mono ?_
  rw [← HCC.out, ← HSS.out, ← HBB.out]
  rintro e v2 ⟨rv, rfl, hr, hb2⟩
  have sz2 : q1.heap.size ≤ v2.heap.size := hb2.size
  have st2 : Below q1.heap.size q1 v2 := hb2
  have c2_0 : v2.cell? ⟨w.heap.size, 0, none⟩ = some (.slice ad n cp) := by rw [(bcell st2).1 _ _ (by omega)]; exact c1_0
  have c2_1 : v2.cell? ⟨w.heap.size, 1, none⟩ = some (.int .i64 s) := by rw [(bcell st2).1 _ _ (by omega)]; exact c1_1
  have c2_2 : v2.cell? ⟨w.heap.size + 1, 0, none⟩ = some (.slice ad2 n2 cp2) := by rw [(bcell st2).1 _ _ (by omega)]; exact c1_2
  have c2_3 : v2.cell? ⟨w.heap.size + 1, 1, none⟩ = some (.int .i64 t) := by rw [(bcell st2).1 _ _ (by omega)]; exact c1_3
  have c2_4 : v2.cell? ⟨w.heap.size + 1 + 1, 0, none⟩ = some (.slice none 0 0) := by rw [(bcell st2).1 _ _ (by omega)]; exact c1_4
  have c2_5 : v2.cell? ⟨w.heap.size + 1 + 1, 1, none⟩ = some (.int .i64 0) := by rw [(bcell st2).1 _ _ (by omega)]; exact c1_5
  have g2_0 : v2.frozen? ⟨w.heap.size + 1 + 1, 0, none⟩ = false := by rw [(bcell st2).2 _ _ (by omega)]; exact g1_0
  have g2_1 : v2.frozen? ⟨w.heap.size + 1 + 1, 1, none⟩ = false := by rw [(bcell st2).2 _ _ (by omega)]; exact g1_1
  have B2 : Hid (Below w.heap.size w v2) := B1.out.trans (st2.mono (by omega))
  have R2_0 : Hid (Row 1 v2 (q1.heap.size) (v2.heap.size) rv n CC) := hr
  have d2_0 : w.heap.size < v2.heap.size := by omega
  have e2_0 : w.heap.size ≠ v2.heap.size := by omega
  have d2_1 : w.heap.size + 1 < v2.heap.size := by omega
  have e2_1 : w.heap.size + 1 ≠ v2.heap.size := by omega
  have d2_2 : w.heap.size + 1 + 1 < v2.heap.size := by omega
  have e2_2 : w.heap.size + 1 + 1 ≠ v2.heap.size := by omega
  clear d1_0 e1_0 d1_1 e1_1 d1_2 e1_2 c1_0 c1_1 c1_2 c1_3 c1_4 c1_5 g1_0 g1_1 B1 st2 hr hb2
  obtain ⟨ra, rc, rfl⟩ := R2_0.out.slice
  have r0 : ((v2.setCell ⟨w.heap.size + 1 + 1, 0, none⟩ (.slice ra n rc)).setCell ⟨w.heap.size + 1 + 1, 1, none⟩ (.int .i64 (SS))).cell? ⟨w.heap.size + 1 + 1, 0, none⟩ = some (.slice ra n rc) := by rw [World.cell?_setCell_other _ _ _ _ (by simp)]; exact World.cell?_setCell_same' _ _ _ (by rw [c2_4]; rfl)
  have r1 : ((v2.setCell ⟨w.heap.size + 1 + 1, 0, none⟩ (.slice ra n rc)).setCell ⟨w.heap.size + 1 + 1, 1, none⟩ (.int .i64 (SS))).cell? ⟨w.heap.size + 1 + 1, 1, none⟩ = some (.int .i64 (SS)) := World.cell?_setCell_same' _ _ _ (by rw [World.cell?_setCell_other _ _ _ _ (by simp), c2_5]; rfl)
  go_wp2_with fail
  refine bodyPost_ret (v := .tuple #[.agg #[.slice ra n rc, .int .i64 (SS)], .bool BB]) (by simp [results, Try.results23, go_sem, r0, r1]) rfl ?_
  refine ⟨_, rfl, ?_, ?_⟩
  · exact ((R2_0.out.setCell (p := ⟨w.heap.size + 1 + 1, 0, none⟩) (.inl (by show w.heap.size + 1 + 1 < _; omega)) _).setCell (p := ⟨w.heap.size + 1 + 1, 1, none⟩) (.inl (by show w.heap.size + 1 + 1 < _; omega)) _).wide (by omega) (by first | (simp [World.setCell]; done) | (simp [World.setCell]; omega))
  · exact ((B2.out.setCell (p := ⟨w.heap.size + 1 + 1, 0, none⟩) (by show _ ≤ w.heap.size + 1 + 1; omega) _).setCell (p := ⟨w.heap.size + 1 + 1, 1, none⟩) (by show _ ≤ w.heap.size + 1 + 1; omega) _)

set_option maxRecDepth 100000 in
set_option maxHeartbeats 4000000 in
theorem iles_any (lo hi n lo2 hi2 n2 : Nat) (v v2 : Value) (s t : Int) (C D : List Int) (w : World) (hr1 : Row 1 w lo hi v n C) (hr2 : Row 1 w lo2 hi2 v2 n2 D) (hh : hi ≤ w.heap.size) (hh2 : hi2 ≤ w.heap.size) (hs : I64 s) (ht : I64 t) :
    Calls Try.prog 24 #[.agg #[v, .int .i64 s], .agg #[v2, .int .i64 t]] w (HBPost (cmC C s D t (-1)) (cmS C s D t (-1)) (cmB C s D t (-1)) n w) := by
  have HR1 := Lib.hid hr1
  have HR2 := Lib.hid hr2
  obtain ⟨ad, cp, rfl⟩ := hr1.slice
  obtain ⟨ad2, cp2, rfl⟩ := hr2.slice
  clear hr1 hr2
  obtain ⟨CC, hCC⟩ : ∃ x, x = cmC C s D t (-1) := ⟨_, rfl⟩
  obtain ⟨SS, hSS⟩ : ∃ x, x = cmS C s D t (-1) := ⟨_, rfl⟩
  obtain ⟨BB, hBB⟩ : ∃ x, x = cmB C s D t (-1) := ⟨_, rfl⟩
  rw [← hCC, ← hSS, ← hBB]
  have HCC := Lib.hid hCC
  have HSS := Lib.hid hSS
  have HBB := Lib.hid hBB
  clear hCC hSS hBB
  go_enter Try.func24, Try.ntmps24
  go_wp2_with fail
  obtain ⟨q1, hq1⟩ : ∃ q, q = (((w.alloc (.cells #[.slice ad n cp, .int .i64 s] 27)).alloc (.cells #[.slice ad2 n2 cp2, .int .i64 t] 27)).alloc (.cells #[.slice none 0 0, .int .i64 0] 27)) := ⟨_, rfl⟩
  have hb1 : Below w.heap.size w q1 := by rw [hq1]; go_grown
  have sz1 : w.heap.size + 3 ≤ q1.heap.size := by rw [hq1]; simp
  have c1_0 : q1.cell? ⟨w.heap.size, 0, none⟩ = some (.slice ad n cp) := by rw [hq1, old_box (by simp <;> omega), old_box (by simp <;> omega), new_at (by simp)]; rfl
  have c1_1 : q1.cell? ⟨w.heap.size, 1, none⟩ = some (.int .i64 s) := by rw [hq1, old_box (by simp <;> omega), old_box (by simp <;> omega), new_at (by simp)]; rfl
  have c1_2 : q1.cell? ⟨w.heap.size + 1, 0, none⟩ = some (.slice ad2 n2 cp2) := by rw [hq1, old_box (by simp <;> omega), new_at (by simp)]; rfl
  have c1_3 : q1.cell? ⟨w.heap.size + 1, 1, none⟩ = some (.int .i64 t) := by rw [hq1, old_box (by simp <;> omega), new_at (by simp)]; rfl
  have c1_4 : q1.cell? ⟨w.heap.size + 1 + 1, 0, none⟩ = some (.slice none 0 0) := by rw [hq1, new_at (by simp)]; rfl
  have c1_5 : q1.cell? ⟨w.heap.size + 1 + 1, 1, none⟩ = some (.int .i64 0) := by rw [hq1, new_at (by simp)]; rfl
  have g1_0 : q1.frozen? ⟨w.heap.size + 1 + 1, 0, none⟩ = false := by rw [hq1, new_frz (by simp)]
  have g1_1 : q1.frozen? ⟨w.heap.size + 1 + 1, 1, none⟩ = false := by rw [hq1, new_frz (by simp)]
  have B1 : Hid (Below w.heap.size w q1) := Lib.hid hb1
  rw [← hq1]
  have d1_0 : w.heap.size < q1.heap.size := by omega
  have e1_0 : w.heap.size ≠ q1.heap.size := by omega
  have d1_1 : w.heap.size + 1 < q1.heap.size := by omega
  have e1_1 : w.heap.size + 1 ≠ q1.heap.size := by omega
  have d1_2 : w.heap.size + 1 + 1 < q1.heap.size := by omega
  have e1_2 : w.heap.size + 1 + 1 ≠ q1.heap.size := by omega
  clear hq1 hb1
  go_wp2_with fail
  go_at_call 51
  refine (icomb_any lo hi n lo2 hi2 n2 _ _ s t C D (-1) (.inr rfl) _ (HR1.out.below B1.out hh) (HR2.out.below B1.out hh2) (by omega) (by omega) hs ht).mono ?_
  rw [← HCC.out, ← HSS.out, ← HBB.out]
  rintro e v2 ⟨rv, rfl, hr, hb2⟩
  have sz2 : q1.heap.size ≤ v2.heap.size := hb2.size
  have st2 : Below q1.heap.size q1 v2 := hb2
  have c2_0 : v2.cell? ⟨w.heap.size, 0, none⟩ = some (.slice ad n cp) := by rw [(bcell st2).1 _ _ (by omega)]; exact c1_0
  have c2_1 : v2.cell? ⟨w.heap.size, 1, none⟩ = some (.int .i64 s) := by rw [(bcell st2).1 _ _ (by omega)]; exact c1_1
  have c2_2 : v2.cell? ⟨w.heap.size + 1, 0, none⟩ = some (.slice ad2 n2 cp2) := by rw [(bcell st2).1 _ _ (by omega)]; exact c1_2
  have c2_3 : v2.cell? ⟨w.heap.size + 1, 1, none⟩ = some (.int .i64 t) := by rw [(bcell st2).1 _ _ (by omega)]; exact c1_3
  have c2_4 : v2.cell? ⟨w.heap.size + 1 + 1, 0, none⟩ = some (.slice none 0 0) := by rw [(bcell st2).1 _ _ (by omega)]; exact c1_4
  have c2_5 : v2.cell? ⟨w.heap.size + 1 + 1, 1, none⟩ = some (.int .i64 0) := by rw [(bcell st2).1 _ _ (by omega)]; exact c1_5
  have g2_0 : v2.frozen? ⟨w.heap.size + 1 + 1, 0, none⟩ = false := by rw [(bcell st2).2 _ _ (by omega)]; exact g1_0
  have g2_1 : v2.frozen? ⟨w.heap.size + 1 + 1, 1, none⟩ = false := by rw [(bcell st2).2 _ _ (by omega)]; exact g1_1
  have B2 : Hid (Below w.heap.size w v2) := B1.out.trans (st2.mono (by omega))
  have R2_0 : Hid (Row 1 v2 (q1.heap.size) (v2.heap.size) rv n CC) := hr
  have d2_0 : w.heap.size < v2.heap.size := by omega
  have e2_0 : w.heap.size ≠ v2.heap.size := by omega
  have d2_1 : w.heap.size + 1 < v2.heap.size := by omega
  have e2_1 : w.heap.size + 1 ≠ v2.heap.size := by omega
  have d2_2 : w.heap.size + 1 + 1 < v2.heap.size := by omega
  have e2_2 : w.heap.size + 1 + 1 ≠ v2.heap.size := by omega
  clear d1_0 e1_0 d1_1 e1_1 d1_2 e1_2 c1_0 c1_1 c1_2 c1_3 c1_4 c1_5 g1_0 g1_1 B1 st2 hr hb2
  obtain ⟨ra, rc, rfl⟩ := R2_0.out.slice
  have r0 : ((v2.setCell ⟨w.heap.size + 1 + 1, 0, none⟩ (.slice ra n rc)).setCell ⟨w.heap.size + 1 + 1, 1, none⟩ (.int .i64 (SS))).cell? ⟨w.heap.size + 1 + 1, 0, none⟩ = some (.slice ra n rc) := by rw [World.cell?_setCell_other _ _ _ _ (by simp)]; exact World.cell?_setCell_same' _ _ _ (by rw [c2_4]; rfl)
  have r1 : ((v2.setCell ⟨w.heap.size + 1 + 1, 0, none⟩ (.slice ra n rc)).setCell ⟨w.heap.size + 1 + 1, 1, none⟩ (.int .i64 (SS))).cell? ⟨w.heap.size + 1 + 1, 1, none⟩ = some (.int .i64 (SS)) := World.cell?_setCell_same' _ _ _ (by rw [World.cell?_setCell_other _ _ _ _ (by simp), c2_5]; rfl)
  go_wp2_with fail
  refine bodyPost_ret (v := .tuple #[.agg #[.slice ra n rc, .int .i64 (SS)], .bool BB]) (by simp [results, Try.results24, go_sem, r0, r1]) rfl ?_
  refine ⟨_, rfl, ?_, ?_⟩
  · exact ((R2_0.out.setCell (p := ⟨w.heap.size + 1 + 1, 0, none⟩) (.inl (by show w.heap.size + 1 + 1 < _; omega)) _).setCell (p := ⟨w.heap.size + 1 + 1, 1, none⟩) (.inl (by show w.heap.size + 1 + 1 < _; omega)) _).wide (by omega) (by first | (simp [World.setCell]; done) | (simp [World.setCell]; omega))
  · exact ((B2.out.setCell (p := ⟨w.heap.size + 1 + 1, 0, none⟩) (by show _ ≤ w.heap.size + 1 + 1; omega) _).setCell (p := ⟨w.heap.size + 1 + 1, 1, none⟩) (by show _ ≤ w.heap.size + 1 + 1; omega) _)

end Go.Proofs.Ytcchoiobdcaboaa
