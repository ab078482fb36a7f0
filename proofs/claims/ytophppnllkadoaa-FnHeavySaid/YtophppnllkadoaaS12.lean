/- AddTop of the program. -/
import Derived.Test.YtophppnllkadoaaS11
import Derived.Test.YtophppnllkadoaaS5
namespace Go.Proofs.Ytophppnllkadoaa
open Go.RowKit


set_option maxRecDepth 100000 in
set_option maxHeartbeats 4000000 in
theorem iadd_any (lo hi n : Nat) (v : Value) (L : List Hv) (key num : Int) (w : World) (hL : L.length = n) (hr : Row 3 w lo hi v n (flat L)) (hh : hi ≤ w.heap.size) : Calls Try.prog 45 #[.agg #[v], .int .i64 key, .int .i64 num] w (TabBPost (addL L key num) (addB L key num) w) := by
  have HR := Lib.hid hr
  obtain ⟨ad, cp, rfl, hn, _⟩ := hr.opened
  clear hr
  cases ht : topB L with
  | false =>
    obtain ⟨e2, e1⟩ := addB_no (L := L) (k := key) (n := num) (.inl ht)
    have E1 := Lib.hid e1
    have E2 := Lib.hid e2
    clear e1 e2
    go_enter Try.func45, Try.ntmps45
    go_wp2_with fail
    go_at_call 42
    refine (itop_any lo hi n _ L _ hL (HR.out.below (B := w.heap.size) (by go_grown) (by omega)) (by simp; omega)).mono ?_
    rw [ht]
    rintro e v1 ⟨rfl, hb1⟩
    have sz1 : w.heap.size + 3 ≤ v1.heap.size := by have hh := hb1.size; simp at hh; omega
    have st1 : Below w.heap.size w v1 := Below.trans (by go_grown) (hb1.mono (by simp <;> omega))
    have c1_0 : v1.cell? ⟨w.heap.size, 0, none⟩ = some (.slice ad n cp) := by rw [(bcell hb1).1 _ _ (by simp <;> omega), old_box (by simp <;> omega), old_box (by simp <;> omega)]; first | (rw [new_at (by simp)]; rfl) | simp
    have c1_1 : v1.cell? ⟨w.heap.size + 1, 0, none⟩ = some (.slice none 0 0) := by rw [(bcell hb1).1 _ _ (by simp <;> omega), old_box (by simp <;> omega)]; first | (rw [new_at (by simp)]; rfl) | simp
    have c1_2 : v1.cell? ⟨w.heap.size + 1 + 1, 0, none⟩ = some (.int .i64 key) := by rw [(bcell hb1).1 _ _ (by simp)]; first | (rw [new_at (by simp)]; rfl) | simp
    have c1_3 : v1.cell? ⟨w.heap.size + 1 + 1, 1, none⟩ = some (.int .i64 num) := by rw [(bcell hb1).1 _ _ (by simp)]; first | (rw [new_at (by simp)]; rfl) | simp
    have g1_0 : v1.frozen? ⟨w.heap.size + 1, 0, none⟩ = false := by rw [(bcell hb1).2 _ _ (by simp <;> omega), old_frz (by simp <;> omega), new_frz (by simp)]
    have B1 : Hid (Below w.heap.size w v1) := st1
    have R1_0 : Hid (Row 3 v1 (lo) (hi) (.slice ad n cp) n (flat L)) := HR.out.below st1 (by omega)
    have d1_0 : w.heap.size < v1.heap.size := by omega
    have e1_0 : w.heap.size ≠ v1.heap.size := by omega
    have d1_1 : w.heap.size + 1 < v1.heap.size := by omega
    have e1_1 : w.heap.size + 1 ≠ v1.heap.size := by omega
    have d1_2 : w.heap.size + 1 + 1 < v1.heap.size := by omega
    have e1_2 : w.heap.size + 1 + 1 ≠ v1.heap.size := by omega
    have ST1 := Lib.hid st1
    clear st1 HR hb1
    go_wp2_with fail
    go_at_call 78
    refine (icpT_any lo hi n _ L _ hL R1_0.out (by omega)).mono ?_
    rintro e v2 ⟨rv3, rfl, hr3, hb2⟩
    have sz2 : v1.heap.size ≤ v2.heap.size := hb2.size
    have st2 : Below v1.heap.size v1 v2 := hb2
    have c2_0 : v2.cell? ⟨w.heap.size, 0, none⟩ = some (.slice ad n cp) := by rw [(bcell st2).1 _ _ (by omega)]; exact c1_0
    have c2_1 : v2.cell? ⟨w.heap.size + 1, 0, none⟩ = some (.slice none 0 0) := by rw [(bcell st2).1 _ _ (by omega)]; exact c1_1
    have c2_2 : v2.cell? ⟨w.heap.size + 1 + 1, 0, none⟩ = some (.int .i64 key) := by rw [(bcell st2).1 _ _ (by omega)]; exact c1_2
    have c2_3 : v2.cell? ⟨w.heap.size + 1 + 1, 1, none⟩ = some (.int .i64 num) := by rw [(bcell st2).1 _ _ (by omega)]; exact c1_3
    have g2_0 : v2.frozen? ⟨w.heap.size + 1, 0, none⟩ = false := by rw [(bcell st2).2 _ _ (by omega)]; exact g1_0
    have B2 : Hid (Below w.heap.size w v2) := B1.out.trans (st2.mono (by omega))
    have R2_0 : Hid (Row 3 v2 (lo) (hi) (.slice ad n cp) n (flat L)) := R1_0.out.below st2 (by omega)
    have d2_0 : w.heap.size < v2.heap.size := by omega
    have e2_0 : w.heap.size ≠ v2.heap.size := by omega
    have d2_1 : w.heap.size + 1 < v2.heap.size := by omega
    have e2_1 : w.heap.size + 1 ≠ v2.heap.size := by omega
    have d2_2 : w.heap.size + 1 + 1 < v2.heap.size := by omega
    have e2_2 : w.heap.size + 1 + 1 ≠ v2.heap.size := by omega
    have ST2 := Lib.hid st2
    clear d1_0 e1_0 d1_1 e1_1 d1_2 e1_2 c1_0 c1_1 c1_2 c1_3 g1_0 B1 st2 R1_0 hb2
    obtain ⟨sa, sc, rfl⟩ := hr3.slice
    rw [hL] at hr3
    have HR3 := Lib.hid hr3
    clear hr3
    have r0 : (v2.setCell ⟨w.heap.size + 1, 0, none⟩ (.slice sa n sc)).cell? ⟨w.heap.size + 1, 0, none⟩ = some (.slice sa n sc) := World.cell?_setCell_same' _ _ _ (by rw [c2_1]; rfl)
    have Hrow := Lib.hid ((HR3.out.setCell (p := ⟨w.heap.size + 1, 0, none⟩) (.inl (by show w.heap.size + 1 < v1.heap.size; omega)) (.slice sa n sc)).wide (lo' := w.heap.size) (hi' := (v2.setCell ⟨w.heap.size + 1, 0, none⟩ (.slice sa n sc)).heap.size) (by omega) (by simp [World.setCell] <;> omega))
    go_wp2_with fail
    refine bodyPost_ret (v := .tuple #[.agg #[.slice sa n sc], .bool false]) (by simp [results, Try.results45, go_sem, r0]) rfl ⟨_, by rw [E2.out], ?_, ?_⟩
    · rw [E1.out, hL]; exact Hrow.out
    · exact B2.out.setCell (by show _ ≤ w.heap.size + 1; omega) _
  | true =>
    cases ha : adB key num with
    | false =>
      obtain ⟨e2, e1⟩ := addB_no (L := L) (k := key) (n := num) (.inr (.inl ha))
      have E1 := Lib.hid e1
      have E2 := Lib.hid e2
      clear e1 e2
      go_enter Try.func45, Try.ntmps45
      go_wp2_with fail
      go_at_call 42
      refine (itop_any lo hi n _ L _ hL (HR.out.below (B := w.heap.size) (by go_grown) (by omega)) (by simp; omega)).mono ?_
      rw [ht]
      rintro e v1 ⟨rfl, hb1⟩
      have sz1 : w.heap.size + 3 ≤ v1.heap.size := by have hh := hb1.size; simp at hh; omega
      have st1 : Below w.heap.size w v1 := Below.trans (by go_grown) (hb1.mono (by simp <;> omega))
      have c1_0 : v1.cell? ⟨w.heap.size, 0, none⟩ = some (.slice ad n cp) := by rw [(bcell hb1).1 _ _ (by simp <;> omega), old_box (by simp <;> omega), old_box (by simp <;> omega)]; first | (rw [new_at (by simp)]; rfl) | simp
      have c1_1 : v1.cell? ⟨w.heap.size + 1, 0, none⟩ = some (.slice none 0 0) := by rw [(bcell hb1).1 _ _ (by simp <;> omega), old_box (by simp <;> omega)]; first | (rw [new_at (by simp)]; rfl) | simp
      have c1_2 : v1.cell? ⟨w.heap.size + 1 + 1, 0, none⟩ = some (.int .i64 key) := by rw [(bcell hb1).1 _ _ (by simp)]; first | (rw [new_at (by simp)]; rfl) | simp
      have c1_3 : v1.cell? ⟨w.heap.size + 1 + 1, 1, none⟩ = some (.int .i64 num) := by rw [(bcell hb1).1 _ _ (by simp)]; first | (rw [new_at (by simp)]; rfl) | simp
      have g1_0 : v1.frozen? ⟨w.heap.size + 1, 0, none⟩ = false := by rw [(bcell hb1).2 _ _ (by simp <;> omega), old_frz (by simp <;> omega), new_frz (by simp)]
      have B1 : Hid (Below w.heap.size w v1) := st1
      have R1_0 : Hid (Row 3 v1 (lo) (hi) (.slice ad n cp) n (flat L)) := HR.out.below st1 (by omega)
      have d1_0 : w.heap.size < v1.heap.size := by omega
      have e1_0 : w.heap.size ≠ v1.heap.size := by omega
      have d1_1 : w.heap.size + 1 < v1.heap.size := by omega
      have e1_1 : w.heap.size + 1 ≠ v1.heap.size := by omega
      have d1_2 : w.heap.size + 1 + 1 < v1.heap.size := by omega
      have e1_2 : w.heap.size + 1 + 1 ≠ v1.heap.size := by omega
      have ST1 := Lib.hid st1
      clear st1 HR hb1
      go_wp2_with fail
      go_at_call 54
      refine (addok_any key num _).mono ?_
      rw [ha]
      rintro e v2 ⟨rfl, hb2⟩
      have sz2 : v1.heap.size ≤ v2.heap.size := hb2.size
      have st2 : Below v1.heap.size v1 v2 := hb2
      have c2_0 : v2.cell? ⟨w.heap.size, 0, none⟩ = some (.slice ad n cp) := by rw [(bcell st2).1 _ _ (by omega)]; exact c1_0
      have c2_1 : v2.cell? ⟨w.heap.size + 1, 0, none⟩ = some (.slice none 0 0) := by rw [(bcell st2).1 _ _ (by omega)]; exact c1_1
      have c2_2 : v2.cell? ⟨w.heap.size + 1 + 1, 0, none⟩ = some (.int .i64 key) := by rw [(bcell st2).1 _ _ (by omega)]; exact c1_2
      have c2_3 : v2.cell? ⟨w.heap.size + 1 + 1, 1, none⟩ = some (.int .i64 num) := by rw [(bcell st2).1 _ _ (by omega)]; exact c1_3
      have g2_0 : v2.frozen? ⟨w.heap.size + 1, 0, none⟩ = false := by rw [(bcell st2).2 _ _ (by omega)]; exact g1_0
      have B2 : Hid (Below w.heap.size w v2) := B1.out.trans (st2.mono (by omega))
      have R2_0 : Hid (Row 3 v2 (lo) (hi) (.slice ad n cp) n (flat L)) := R1_0.out.below st2 (by omega)
      have d2_0 : w.heap.size < v2.heap.size := by omega
      have e2_0 : w.heap.size ≠ v2.heap.size := by omega
      have d2_1 : w.heap.size + 1 < v2.heap.size := by omega
      have e2_1 : w.heap.size + 1 ≠ v2.heap.size := by omega
      have d2_2 : w.heap.size + 1 + 1 < v2.heap.size := by omega
      have e2_2 : w.heap.size + 1 + 1 ≠ v2.heap.size := by omega
      have ST2 := Lib.hid st2
      clear d1_0 e1_0 d1_1 e1_1 d1_2 e1_2 c1_0 c1_1 c1_2 c1_3 g1_0 B1 st2 R1_0 hb2
      go_wp2_with fail
      go_at_call 78
      refine (icpT_any lo hi n _ L _ hL R2_0.out (by omega)).mono ?_
      rintro e v3 ⟨rv3, rfl, hr3, hb3⟩
      have sz3 : v2.heap.size ≤ v3.heap.size := hb3.size
      have st3 : Below v2.heap.size v2 v3 := hb3
      have c3_0 : v3.cell? ⟨w.heap.size, 0, none⟩ = some (.slice ad n cp) := by rw [(bcell st3).1 _ _ (by omega)]; exact c2_0
      have c3_1 : v3.cell? ⟨w.heap.size + 1, 0, none⟩ = some (.slice none 0 0) := by rw [(bcell st3).1 _ _ (by omega)]; exact c2_1
      have c3_2 : v3.cell? ⟨w.heap.size + 1 + 1, 0, none⟩ = some (.int .i64 key) := by rw [(bcell st3).1 _ _ (by omega)]; exact c2_2
      have c3_3 : v3.cell? ⟨w.heap.size + 1 + 1, 1, none⟩ = some (.int .i64 num) := by rw [(bcell st3).1 _ _ (by omega)]; exact c2_3
      have g3_0 : v3.frozen? ⟨w.heap.size + 1, 0, none⟩ = false := by rw [(bcell st3).2 _ _ (by omega)]; exact g2_0
      have B3 : Hid (Below w.heap.size w v3) := B2.out.trans (st3.mono (by omega))
      have R3_0 : Hid (Row 3 v3 (lo) (hi) (.slice ad n cp) n (flat L)) := R2_0.out.below st3 (by omega)
      have d3_0 : w.heap.size < v3.heap.size := by omega
      have e3_0 : w.heap.size ≠ v3.heap.size := by omega
      have d3_1 : w.heap.size + 1 < v3.heap.size := by omega
      have e3_1 : w.heap.size + 1 ≠ v3.heap.size := by omega
      have d3_2 : w.heap.size + 1 + 1 < v3.heap.size := by omega
      have e3_2 : w.heap.size + 1 + 1 ≠ v3.heap.size := by omega
      have ST3 := Lib.hid st3
      clear d2_0 e2_0 d2_1 e2_1 d2_2 e2_2 c2_0 c2_1 c2_2 c2_3 g2_0 B2 st3 R2_0 hb3
      obtain ⟨sa, sc, rfl⟩ := hr3.slice
      rw [hL] at hr3
      have HR3 := Lib.hid hr3
      clear hr3
      have r0 : (v3.setCell ⟨w.heap.size + 1, 0, none⟩ (.slice sa n sc)).cell? ⟨w.heap.size + 1, 0, none⟩ = some (.slice sa n sc) := World.cell?_setCell_same' _ _ _ (by rw [c3_1]; rfl)
      have Hrow := Lib.hid ((HR3.out.setCell (p := ⟨w.heap.size + 1, 0, none⟩) (.inl (by show w.heap.size + 1 < v2.heap.size; omega)) (.slice sa n sc)).wide (lo' := w.heap.size) (hi' := (v3.setCell ⟨w.heap.size + 1, 0, none⟩ (.slice sa n sc)).heap.size) (by omega) (by simp [World.setCell] <;> omega))
      go_wp2_with fail
      refine bodyPost_ret (v := .tuple #[.agg #[.slice sa n sc], .bool false]) (by simp [results, Try.results45, go_sem, r0]) rfl ⟨_, by rw [E2.out], ?_, ?_⟩
      · rw [E1.out, hL]; exact Hrow.out
      · exact B3.out.setCell (by show _ ≤ w.heap.size + 1; omega) _
    | true =>
      have hT := topB_iff.1 ht
      have hol := addOut_len hT key num
      have HT := Lib.hid hT
      clear hT
      go_enter Try.func45, Try.ntmps45
      go_wp2_with fail
      go_at_call 42
      refine (itop_any lo hi n _ L _ hL (HR.out.below (B := w.heap.size) (by go_grown) (by omega)) (by simp; omega)).mono ?_
      rw [ht]
      rintro e v1 ⟨rfl, hb1⟩
      have sz1 : w.heap.size + 3 ≤ v1.heap.size := by have hh := hb1.size; simp at hh; omega
      have st1 : Below w.heap.size w v1 := Below.trans (by go_grown) (hb1.mono (by simp <;> omega))
      have c1_0 : v1.cell? ⟨w.heap.size, 0, none⟩ = some (.slice ad n cp) := by rw [(bcell hb1).1 _ _ (by simp <;> omega), old_box (by simp <;> omega), old_box (by simp <;> omega)]; first | (rw [new_at (by simp)]; rfl) | simp
      have c1_1 : v1.cell? ⟨w.heap.size + 1, 0, none⟩ = some (.slice none 0 0) := by rw [(bcell hb1).1 _ _ (by simp <;> omega), old_box (by simp <;> omega)]; first | (rw [new_at (by simp)]; rfl) | simp
      have c1_2 : v1.cell? ⟨w.heap.size + 1 + 1, 0, none⟩ = some (.int .i64 key) := by rw [(bcell hb1).1 _ _ (by simp)]; first | (rw [new_at (by simp)]; rfl) | simp
      have c1_3 : v1.cell? ⟨w.heap.size + 1 + 1, 1, none⟩ = some (.int .i64 num) := by rw [(bcell hb1).1 _ _ (by simp)]; first | (rw [new_at (by simp)]; rfl) | simp
      have g1_0 : v1.frozen? ⟨w.heap.size + 1, 0, none⟩ = false := by rw [(bcell hb1).2 _ _ (by simp <;> omega), old_frz (by simp <;> omega), new_frz (by simp)]
      have B1 : Hid (Below w.heap.size w v1) := st1
      have R1_0 : Hid (Row 3 v1 (lo) (hi) (.slice ad n cp) n (flat L)) := HR.out.below st1 (by omega)
      have d1_0 : w.heap.size < v1.heap.size := by omega
      have e1_0 : w.heap.size ≠ v1.heap.size := by omega
      have d1_1 : w.heap.size + 1 < v1.heap.size := by omega
      have e1_1 : w.heap.size + 1 ≠ v1.heap.size := by omega
      have d1_2 : w.heap.size + 1 + 1 < v1.heap.size := by omega
      have e1_2 : w.heap.size + 1 + 1 ≠ v1.heap.size := by omega
      have ST1 := Lib.hid st1
      clear st1 HR hb1
      go_wp2_with fail
      go_at_call 54
      refine (addok_any key num _).mono ?_
      rw [ha]
      rintro e v2 ⟨rfl, hb2⟩
      have sz2 : v1.heap.size ≤ v2.heap.size := hb2.size
      have st2 : Below v1.heap.size v1 v2 := hb2
      have c2_0 : v2.cell? ⟨w.heap.size, 0, none⟩ = some (.slice ad n cp) := by rw [(bcell st2).1 _ _ (by omega)]; exact c1_0
      have c2_1 : v2.cell? ⟨w.heap.size + 1, 0, none⟩ = some (.slice none 0 0) := by rw [(bcell st2).1 _ _ (by omega)]; exact c1_1
      have c2_2 : v2.cell? ⟨w.heap.size + 1 + 1, 0, none⟩ = some (.int .i64 key) := by rw [(bcell st2).1 _ _ (by omega)]; exact c1_2
      have c2_3 : v2.cell? ⟨w.heap.size + 1 + 1, 1, none⟩ = some (.int .i64 num) := by rw [(bcell st2).1 _ _ (by omega)]; exact c1_3
      have g2_0 : v2.frozen? ⟨w.heap.size + 1, 0, none⟩ = false := by rw [(bcell st2).2 _ _ (by omega)]; exact g1_0
      have B2 : Hid (Below w.heap.size w v2) := B1.out.trans (st2.mono (by omega))
      have R2_0 : Hid (Row 3 v2 (lo) (hi) (.slice ad n cp) n (flat L)) := R1_0.out.below st2 (by omega)
      have d2_0 : w.heap.size < v2.heap.size := by omega
      have e2_0 : w.heap.size ≠ v2.heap.size := by omega
      have d2_1 : w.heap.size + 1 < v2.heap.size := by omega
      have e2_1 : w.heap.size + 1 ≠ v2.heap.size := by omega
      have d2_2 : w.heap.size + 1 + 1 < v2.heap.size := by omega
      have e2_2 : w.heap.size + 1 + 1 ≠ v2.heap.size := by omega
      have ST2 := Lib.hid st2
      clear d1_0 e1_0 d1_1 e1_1 d1_2 e1_2 c1_0 c1_1 c1_2 c1_3 g1_0 B1 st2 R1_0 hb2
      go_wp2_with fail
      go_at_call 79
      refine (iplus_any lo hi n _ L key num _ hL R2_0.out (by omega) HT.out ha).mono ?_
      rintro e v3 ⟨rv, rfl, hr2, hb3⟩
      have sz3 : v2.heap.size ≤ v3.heap.size := hb3.size
      have st3 : Below v2.heap.size v2 v3 := hb3
      have c3_0 : v3.cell? ⟨w.heap.size, 0, none⟩ = some (.slice ad n cp) := by rw [(bcell st3).1 _ _ (by omega)]; exact c2_0
      have c3_1 : v3.cell? ⟨w.heap.size + 1, 0, none⟩ = some (.slice none 0 0) := by rw [(bcell st3).1 _ _ (by omega)]; exact c2_1
      have c3_2 : v3.cell? ⟨w.heap.size + 1 + 1, 0, none⟩ = some (.int .i64 key) := by rw [(bcell st3).1 _ _ (by omega)]; exact c2_2
      have c3_3 : v3.cell? ⟨w.heap.size + 1 + 1, 1, none⟩ = some (.int .i64 num) := by rw [(bcell st3).1 _ _ (by omega)]; exact c2_3
      have g3_0 : v3.frozen? ⟨w.heap.size + 1, 0, none⟩ = false := by rw [(bcell st3).2 _ _ (by omega)]; exact g2_0
      have B3 : Hid (Below w.heap.size w v3) := B2.out.trans (st3.mono (by omega))
      have R3_0 : Hid (Row 3 v3 (lo) (hi) (.slice ad n cp) n (flat L)) := R2_0.out.below st3 (by omega)
      have d3_0 : w.heap.size < v3.heap.size := by omega
      have e3_0 : w.heap.size ≠ v3.heap.size := by omega
      have d3_1 : w.heap.size + 1 < v3.heap.size := by omega
      have e3_1 : w.heap.size + 1 ≠ v3.heap.size := by omega
      have d3_2 : w.heap.size + 1 + 1 < v3.heap.size := by omega
      have e3_2 : w.heap.size + 1 + 1 ≠ v3.heap.size := by omega
      have ST3 := Lib.hid st3
      clear d2_0 e2_0 d2_1 e2_1 d2_2 e2_2 c2_0 c2_1 c2_2 c2_3 g2_0 B2 st3 R2_0 hb3
      obtain ⟨M, hM⟩ : ∃ M, M = (addOut L key num).length := ⟨_, rfl⟩
      rw [← hM] at hr2 hol
      obtain ⟨ra, rc, rfl⟩ := hr2.slice
      have HR2 := Lib.hid hr2
      have HM := Lib.hid hM
      clear hr2 hM
      cases hto : topB (addOut L key num) with
      | true =>
        obtain ⟨e2, e1⟩ := addB_yes ht ha hto
        have E1 := Lib.hid e1
        have E2 := Lib.hid e2
        clear e1 e2
        go_wp2_with fail
        go_at_call 42
        refine (itop_any v2.heap.size v3.heap.size M _ (addOut L key num) _ HM.out.symm (HR2.out.below (B := v3.heap.size) (by go_grown) (Nat.le_refl _)) (by simp)).mono ?_
        rw [hto]
        rintro e v4 ⟨rfl, hb4⟩
        have sz4 : v3.heap.size + 1 ≤ v4.heap.size := by have hh := hb4.size; simp at hh; omega
        have st4 : Below v3.heap.size v3 v4 := Below.trans (by go_grown) (hb4.mono (by simp))
        have c4_0 : v4.cell? ⟨w.heap.size, 0, none⟩ = some (.slice ad n cp) := by rw [(bcell st4).1 _ _ (by omega)]; exact c3_0
        have c4_1 : v4.cell? ⟨w.heap.size + 1, 0, none⟩ = some (.slice none 0 0) := by rw [(bcell st4).1 _ _ (by omega)]; exact c3_1
        have c4_2 : v4.cell? ⟨w.heap.size + 1 + 1, 0, none⟩ = some (.int .i64 key) := by rw [(bcell st4).1 _ _ (by omega)]; exact c3_2
        have c4_3 : v4.cell? ⟨w.heap.size + 1 + 1, 1, none⟩ = some (.int .i64 num) := by rw [(bcell st4).1 _ _ (by omega)]; exact c3_3
        have c4_4 : v4.cell? ⟨v3.heap.size, 0, none⟩ = some (.slice ra M rc) := by rw [(bcell hb4).1 _ _ (by simp)]; first | (rw [new_at (by simp)]; rfl) | simp
        have g4_0 : v4.frozen? ⟨w.heap.size + 1, 0, none⟩ = false := by rw [(bcell st4).2 _ _ (by omega)]; exact g3_0
        have B4 : Hid (Below w.heap.size w v4) := B3.out.trans (st4.mono (by omega))
        have R4_0 : Hid (Row 3 v4 (lo) (hi) (.slice ad n cp) n (flat L)) := R3_0.out.below st4 (by omega)
        have R4_1 : Hid (Row 3 v4 (v2.heap.size) (v3.heap.size) (.slice ra M rc) M (flat (addOut L key num))) := HR2.out.below st4 (by omega)
        have d4_0 : w.heap.size < v4.heap.size := by omega
        have e4_0 : w.heap.size ≠ v4.heap.size := by omega
        have d4_1 : w.heap.size + 1 < v4.heap.size := by omega
        have e4_1 : w.heap.size + 1 ≠ v4.heap.size := by omega
        have d4_2 : w.heap.size + 1 + 1 < v4.heap.size := by omega
        have e4_2 : w.heap.size + 1 + 1 ≠ v4.heap.size := by omega
        have d4_3 : v3.heap.size < v4.heap.size := by omega
        have e4_3 : v3.heap.size ≠ v4.heap.size := by omega
        have ST4 := Lib.hid st4
        clear d3_0 e3_0 d3_1 e3_1 d3_2 e3_2 c3_0 c3_1 c3_2 c3_3 g3_0 B3 st4 R3_0 HR2 hb4
        have r0 : (v4.setCell ⟨w.heap.size + 1, 0, none⟩ (.slice ra M rc)).cell? ⟨w.heap.size + 1, 0, none⟩ = some (.slice ra M rc) := World.cell?_setCell_same' _ _ _ (by rw [c4_1]; rfl)
        have Hrow := Lib.hid ((R4_1.out.setCell (p := ⟨w.heap.size + 1, 0, none⟩) (.inl (by show w.heap.size + 1 < v2.heap.size; omega)) (.slice ra M rc)).wide (lo' := w.heap.size) (hi' := (v4.setCell ⟨w.heap.size + 1, 0, none⟩ (.slice ra M rc)).heap.size) (by omega) (by simp [World.setCell] <;> omega))
        go_wp2_with fail
        refine bodyPost_ret (v := .tuple #[.agg #[.slice ra M rc], .bool true]) (by simp [results, Try.results45, go_sem, r0]) rfl ⟨_, by rw [E2.out], ?_, ?_⟩
        · rw [E1.out, ← HM.out]; exact Hrow.out
        · exact B4.out.setCell (by show _ ≤ w.heap.size + 1; omega) _
      | false =>
        obtain ⟨e2, e1⟩ := addB_no (L := L) (.inr (.inr hto))
        have E1 := Lib.hid e1
        have E2 := Lib.hid e2
        clear e1 e2
        go_wp2_with fail
        go_at_call 42
        refine (itop_any v2.heap.size v3.heap.size M _ (addOut L key num) _ HM.out.symm (HR2.out.below (B := v3.heap.size) (by go_grown) (Nat.le_refl _)) (by simp)).mono ?_
        rw [hto]
        rintro e v4 ⟨rfl, hb4⟩
        have sz4 : v3.heap.size + 1 ≤ v4.heap.size := by have hh := hb4.size; simp at hh; omega
        have st4 : Below v3.heap.size v3 v4 := Below.trans (by go_grown) (hb4.mono (by simp))
        have c4_0 : v4.cell? ⟨w.heap.size, 0, none⟩ = some (.slice ad n cp) := by rw [(bcell st4).1 _ _ (by omega)]; exact c3_0
        have c4_1 : v4.cell? ⟨w.heap.size + 1, 0, none⟩ = some (.slice none 0 0) := by rw [(bcell st4).1 _ _ (by omega)]; exact c3_1
        have c4_2 : v4.cell? ⟨w.heap.size + 1 + 1, 0, none⟩ = some (.int .i64 key) := by rw [(bcell st4).1 _ _ (by omega)]; exact c3_2
        have c4_3 : v4.cell? ⟨w.heap.size + 1 + 1, 1, none⟩ = some (.int .i64 num) := by rw [(bcell st4).1 _ _ (by omega)]; exact c3_3
        have c4_4 : v4.cell? ⟨v3.heap.size, 0, none⟩ = some (.slice ra M rc) := by rw [(bcell hb4).1 _ _ (by simp)]; first | (rw [new_at (by simp)]; rfl) | simp
        have g4_0 : v4.frozen? ⟨w.heap.size + 1, 0, none⟩ = false := by rw [(bcell st4).2 _ _ (by omega)]; exact g3_0
        have B4 : Hid (Below w.heap.size w v4) := B3.out.trans (st4.mono (by omega))
        have R4_0 : Hid (Row 3 v4 (lo) (hi) (.slice ad n cp) n (flat L)) := R3_0.out.below st4 (by omega)
        have R4_1 : Hid (Row 3 v4 (v2.heap.size) (v3.heap.size) (.slice ra M rc) M (flat (addOut L key num))) := HR2.out.below st4 (by omega)
        have d4_0 : w.heap.size < v4.heap.size := by omega
        have e4_0 : w.heap.size ≠ v4.heap.size := by omega
        have d4_1 : w.heap.size + 1 < v4.heap.size := by omega
        have e4_1 : w.heap.size + 1 ≠ v4.heap.size := by omega
        have d4_2 : w.heap.size + 1 + 1 < v4.heap.size := by omega
        have e4_2 : w.heap.size + 1 + 1 ≠ v4.heap.size := by omega
        have d4_3 : v3.heap.size < v4.heap.size := by omega
        have e4_3 : v3.heap.size ≠ v4.heap.size := by omega
        have ST4 := Lib.hid st4
        clear d3_0 e3_0 d3_1 e3_1 d3_2 e3_2 c3_0 c3_1 c3_2 c3_3 g3_0 B3 st4 R3_0 HR2 hb4
        go_wp2_with fail
        go_at_call 78
        refine (icpT_any lo hi n _ L _ hL R4_0.out (by omega)).mono ?_
        rintro e v5 ⟨rv3, rfl, hr3, hb5⟩
        have sz5 : v4.heap.size ≤ v5.heap.size := hb5.size
        have st5 : Below v4.heap.size v4 v5 := hb5
        have c5_0 : v5.cell? ⟨w.heap.size, 0, none⟩ = some (.slice ad n cp) := by rw [(bcell st5).1 _ _ (by omega)]; exact c4_0
        have c5_1 : v5.cell? ⟨w.heap.size + 1, 0, none⟩ = some (.slice none 0 0) := by rw [(bcell st5).1 _ _ (by omega)]; exact c4_1
        have c5_2 : v5.cell? ⟨w.heap.size + 1 + 1, 0, none⟩ = some (.int .i64 key) := by rw [(bcell st5).1 _ _ (by omega)]; exact c4_2
        have c5_3 : v5.cell? ⟨w.heap.size + 1 + 1, 1, none⟩ = some (.int .i64 num) := by rw [(bcell st5).1 _ _ (by omega)]; exact c4_3
        have c5_4 : v5.cell? ⟨v3.heap.size, 0, none⟩ = some (.slice ra M rc) := by rw [(bcell st5).1 _ _ (by omega)]; exact c4_4
        have g5_0 : v5.frozen? ⟨w.heap.size + 1, 0, none⟩ = false := by rw [(bcell st5).2 _ _ (by omega)]; exact g4_0
        have B5 : Hid (Below w.heap.size w v5) := B4.out.trans (st5.mono (by omega))
        have R5_0 : Hid (Row 3 v5 (lo) (hi) (.slice ad n cp) n (flat L)) := R4_0.out.below st5 (by omega)
        have R5_1 : Hid (Row 3 v5 (v2.heap.size) (v3.heap.size) (.slice ra M rc) M (flat (addOut L key num))) := R4_1.out.below st5 (by omega)
        have d5_0 : w.heap.size < v5.heap.size := by omega
        have e5_0 : w.heap.size ≠ v5.heap.size := by omega
        have d5_1 : w.heap.size + 1 < v5.heap.size := by omega
        have e5_1 : w.heap.size + 1 ≠ v5.heap.size := by omega
        have d5_2 : w.heap.size + 1 + 1 < v5.heap.size := by omega
        have e5_2 : w.heap.size + 1 + 1 ≠ v5.heap.size := by omega
        have d5_3 : v3.heap.size < v5.heap.size := by omega
        have e5_3 : v3.heap.size ≠ v5.heap.size := by omega
        have ST5 := Lib.hid st5
        clear d4_0 e4_0 d4_1 e4_1 d4_2 e4_2 d4_3 e4_3 c4_0 c4_1 c4_2 c4_3 c4_4 g4_0 B4 st5 R4_0 R4_1 hb5
        obtain ⟨sa, sc, rfl⟩ := hr3.slice
        rw [hL] at hr3
        have HR3 := Lib.hid hr3
        clear hr3
        have r0 : (v5.setCell ⟨w.heap.size + 1, 0, none⟩ (.slice sa n sc)).cell? ⟨w.heap.size + 1, 0, none⟩ = some (.slice sa n sc) := World.cell?_setCell_same' _ _ _ (by rw [c5_1]; rfl)
        have Hrow := Lib.hid ((HR3.out.setCell (p := ⟨w.heap.size + 1, 0, none⟩) (.inl (by show w.heap.size + 1 < v4.heap.size; omega)) (.slice sa n sc)).wide (lo' := w.heap.size) (hi' := (v5.setCell ⟨w.heap.size + 1, 0, none⟩ (.slice sa n sc)).heap.size) (by omega) (by simp [World.setCell] <;> omega))
        go_wp2_with fail
        refine bodyPost_ret (v := .tuple #[.agg #[.slice sa n sc], .bool false]) (by simp [results, Try.results45, go_sem, r0]) rfl ⟨_, by rw [E2.out], ?_, ?_⟩
        · rw [E1.out, hL]; exact Hrow.out
        · exact B5.out.setCell (by show _ ≤ w.heap.size + 1; omega) _

end Go.Proofs.Ytophppnllkadoaa
