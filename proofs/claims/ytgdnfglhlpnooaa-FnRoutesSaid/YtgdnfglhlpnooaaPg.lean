/- DropRoute of the model and of the program. -/
import Derived.Test.YtgdnfglhlpnooaaPf
import Derived.Test.YtgdnfglhlpnooaaPe
import Derived.Test.YtgdnfglhlpnooaaTi
namespace Go.Proofs.Ytgdnfglhlpnooaa
open Go.RowKit


set_option maxRecDepth 100000 in
set_option maxHeartbeats 4000000 in
theorem sdrop_any (lo hi n : Nat) (v : Value) (L : List Rt) (pn pl : Int) (w : World) (hL : L.length = n) (hr : Row 3 w lo hi v n (flat L)) (hh : hi ≤ w.heap.size) : Calls Try.prog 12 #[.agg #[v], .agg #[.int .i64 pn, .int .i64 pl]] w (TabBPost (drpL L pn pl) (drpB L pn pl) w) := by
  have HR := Lib.hid hr
  obtain ⟨ad, cp, rfl, hn, _⟩ := hr.opened
  clear hr
  cases ht : tok L with
  | false =>
    have hd := drp_bad (pn := pn) (pl := pl) ht
    rw [hd.1, hd.2]
    go_enter Try.func12, Try.ntmps12
    obtain ⟨m, hm⟩ : ∃ m, m = (L.filter (notP pn pl)).length := ⟨_, rfl⟩
    have hm2 : m ≤ n := by rw [hm, ← hL]; exact List.length_filter_le _ _
    have HM := Lib.hid hm
    have HD := Lib.hid hd
    clear hm hd
    go_wp2_with fail
    go_at_call 52
    refine (sless_any lo hi n _ L pn pl _ hL (HR.out.below (B := w.heap.size) (by go_grown) (by omega)) (by simp; omega)).mono ?_
    rintro e v1 ⟨rv, rfl, hr2, hb1⟩
    have sz1 : w.heap.size + 3 ≤ v1.heap.size := by have hh := hb1.size; simp at hh; omega
    have st1 : Below w.heap.size w v1 := Below.trans (by go_grown) (hb1.mono (by simp <;> omega))
    have c1_0 : v1.cell? ⟨w.heap.size, 0, none⟩ = some (.slice ad n cp) := by rw [(bcell hb1).1 _ _ (by simp <;> omega), old_box (by simp <;> omega), old_box (by simp <;> omega)]; first | (rw [new_at (by simp)]; rfl) | simp
    have c1_1 : v1.cell? ⟨w.heap.size + 1, 0, none⟩ = some (.int .i64 pn) := by rw [(bcell hb1).1 _ _ (by simp <;> omega), old_box (by simp <;> omega)]; first | (rw [new_at (by simp)]; rfl) | simp
    have c1_2 : v1.cell? ⟨w.heap.size + 1, 1, none⟩ = some (.int .i64 pl) := by rw [(bcell hb1).1 _ _ (by simp <;> omega), old_box (by simp <;> omega)]; first | (rw [new_at (by simp)]; rfl) | simp
    have c1_3 : v1.cell? ⟨w.heap.size + 1 + 1, 0, none⟩ = some (.slice none 0 0) := by rw [(bcell hb1).1 _ _ (by simp)]; first | (rw [new_at (by simp)]; rfl) | simp
    have g1_0 : v1.frozen? ⟨w.heap.size + 1 + 1, 0, none⟩ = false := by rw [(bcell hb1).2 _ _ (by simp), new_frz (by simp)]
    have B1 : Hid (Below w.heap.size w v1) := st1
    have R1_0 : Hid (Row 3 v1 (lo) (hi) (.slice ad n cp) n (flat L)) := HR.out.below st1 (by omega)
    have d1_0 : w.heap.size < v1.heap.size := by omega
    have e1_0 : w.heap.size ≠ v1.heap.size := by omega
    have d1_1 : w.heap.size + 1 < v1.heap.size := by omega
    have e1_1 : w.heap.size + 1 ≠ v1.heap.size := by omega
    have d1_2 : w.heap.size + 1 + 1 < v1.heap.size := by omega
    have e1_2 : w.heap.size + 1 + 1 ≠ v1.heap.size := by omega
    have ST1 := Lib.hid st1
    clear st1 HR hb1
    rw [← HM.out] at hr2
    obtain ⟨ra, rc, rfl⟩ := hr2.slice
    have HR2 := Lib.hid hr2
    clear hr2
    have HR2' : Hid (Row 3 v1 (w.heap.size + 1 + 1 + 1) v1.heap.size (.slice ra m rc) m (flat (L.filter (notP pn pl)))) := by have hh := HR2.out; simp at hh; exact Lib.hid hh
    clear HR2
    go_wp2_with fail
    go_at_call 39
    refine (stok_any lo hi n _ L _ hL (R1_0.out.below (B := v1.heap.size) (by go_grown) (by omega)) (by simp; omega)).mono ?_
    rw [ht]
    rintro e v2 ⟨rfl, hb2⟩
    have sz2 : v1.heap.size + 1 ≤ v2.heap.size := by have hh := hb2.size; simp at hh; omega
    have st2 : Below v1.heap.size v1 v2 := Below.trans (by go_grown) (hb2.mono (by simp))
    have c2_0 : v2.cell? ⟨w.heap.size, 0, none⟩ = some (.slice ad n cp) := by rw [(bcell st2).1 _ _ (by omega)]; exact c1_0
    have c2_1 : v2.cell? ⟨w.heap.size + 1, 0, none⟩ = some (.int .i64 pn) := by rw [(bcell st2).1 _ _ (by omega)]; exact c1_1
    have c2_2 : v2.cell? ⟨w.heap.size + 1, 1, none⟩ = some (.int .i64 pl) := by rw [(bcell st2).1 _ _ (by omega)]; exact c1_2
    have c2_3 : v2.cell? ⟨w.heap.size + 1 + 1, 0, none⟩ = some (.slice none 0 0) := by rw [(bcell st2).1 _ _ (by omega)]; exact c1_3
    have c2_4 : v2.cell? ⟨v1.heap.size, 0, none⟩ = some (.slice ra m rc) := by rw [(bcell hb2).1 _ _ (by simp)]; first | (rw [new_at (by simp)]; rfl) | simp
    have g2_0 : v2.frozen? ⟨w.heap.size + 1 + 1, 0, none⟩ = false := by rw [(bcell st2).2 _ _ (by omega)]; exact g1_0
    have B2 : Hid (Below w.heap.size w v2) := B1.out.trans (st2.mono (by omega))
    have R2_0 : Hid (Row 3 v2 (lo) (hi) (.slice ad n cp) n (flat L)) := R1_0.out.below st2 (by omega)
    have R2_1 : Hid (Row 3 v2 (w.heap.size + 1 + 1 + 1) (v1.heap.size) (.slice ra m rc) m (flat (L.filter (notP pn pl)))) := HR2'.out.below st2 (by omega)
    have d2_0 : w.heap.size < v2.heap.size := by omega
    have e2_0 : w.heap.size ≠ v2.heap.size := by omega
    have d2_1 : w.heap.size + 1 < v2.heap.size := by omega
    have e2_1 : w.heap.size + 1 ≠ v2.heap.size := by omega
    have d2_2 : w.heap.size + 1 + 1 < v2.heap.size := by omega
    have e2_2 : w.heap.size + 1 + 1 ≠ v2.heap.size := by omega
    have d2_3 : v1.heap.size < v2.heap.size := by omega
    have e2_3 : v1.heap.size ≠ v2.heap.size := by omega
    have ST2 := Lib.hid st2
    clear d1_0 e1_0 d1_1 e1_1 d1_2 e1_2 c1_0 c1_1 c1_2 c1_3 g1_0 B1 st2 R1_0 HR2' hb2
    go_wp2_with fail
    go_at_call 53
    refine (scopy_any lo hi n _ L _ hL R2_0.out (by omega)).mono ?_
    rintro e v3 ⟨rv3, rfl, hr3, hb3⟩
    have sz3 : v2.heap.size ≤ v3.heap.size := hb3.size
    have st3 : Below v2.heap.size v2 v3 := hb3
    have c3_0 : v3.cell? ⟨w.heap.size, 0, none⟩ = some (.slice ad n cp) := by rw [(bcell st3).1 _ _ (by omega)]; exact c2_0
    have c3_1 : v3.cell? ⟨w.heap.size + 1, 0, none⟩ = some (.int .i64 pn) := by rw [(bcell st3).1 _ _ (by omega)]; exact c2_1
    have c3_2 : v3.cell? ⟨w.heap.size + 1, 1, none⟩ = some (.int .i64 pl) := by rw [(bcell st3).1 _ _ (by omega)]; exact c2_2
    have c3_3 : v3.cell? ⟨w.heap.size + 1 + 1, 0, none⟩ = some (.slice none 0 0) := by rw [(bcell st3).1 _ _ (by omega)]; exact c2_3
    have c3_4 : v3.cell? ⟨v1.heap.size, 0, none⟩ = some (.slice ra m rc) := by rw [(bcell st3).1 _ _ (by omega)]; exact c2_4
    have g3_0 : v3.frozen? ⟨w.heap.size + 1 + 1, 0, none⟩ = false := by rw [(bcell st3).2 _ _ (by omega)]; exact g2_0
    have B3 : Hid (Below w.heap.size w v3) := B2.out.trans (st3.mono (by omega))
    have R3_0 : Hid (Row 3 v3 (lo) (hi) (.slice ad n cp) n (flat L)) := R2_0.out.below st3 (by omega)
    have R3_1 : Hid (Row 3 v3 (w.heap.size + 1 + 1 + 1) (v1.heap.size) (.slice ra m rc) m (flat (L.filter (notP pn pl)))) := R2_1.out.below st3 (by omega)
    have d3_0 : w.heap.size < v3.heap.size := by omega
    have e3_0 : w.heap.size ≠ v3.heap.size := by omega
    have d3_1 : w.heap.size + 1 < v3.heap.size := by omega
    have e3_1 : w.heap.size + 1 ≠ v3.heap.size := by omega
    have d3_2 : w.heap.size + 1 + 1 < v3.heap.size := by omega
    have e3_2 : w.heap.size + 1 + 1 ≠ v3.heap.size := by omega
    have d3_3 : v1.heap.size < v3.heap.size := by omega
    have e3_3 : v1.heap.size ≠ v3.heap.size := by omega
    have ST3 := Lib.hid st3
    clear d2_0 e2_0 d2_1 e2_1 d2_2 e2_2 d2_3 e2_3 c2_0 c2_1 c2_2 c2_3 c2_4 g2_0 B2 st3 R2_0 R2_1 hb3
    obtain ⟨sa, sc, rfl⟩ := hr3.slice
    rw [hL] at hr3
    have HR3 := Lib.hid hr3
    clear hr3
    obtain ⟨h1, h2⟩ := HD.out
    have r0 : (v3.setCell ⟨w.heap.size + 1 + 1, 0, none⟩ (.slice sa n sc)).cell? ⟨w.heap.size + 1 + 1, 0, none⟩ = some (.slice sa n sc) := World.cell?_setCell_same' _ _ _ (by rw [c3_3]; rfl)
    have Hrow := Lib.hid ((HR3.out.setCell (p := ⟨w.heap.size + 1 + 1, 0, none⟩) (.inl (by show w.heap.size + 1 + 1 < v2.heap.size; omega)) (.slice sa n sc)).wide (lo' := w.heap.size) (hi' := (v3.setCell ⟨w.heap.size + 1 + 1, 0, none⟩ (.slice sa n sc)).heap.size) (by omega) (by simp [World.setCell] <;> omega))
    go_wp2_with fail
    refine bodyPost_ret (v := .tuple #[.agg #[.slice sa n sc], .bool false]) (by simp [results, Try.results12, go_sem, r0]) rfl ⟨_, rfl, ?_, ?_⟩
    · rw [hL]; exact Hrow.out
    · exact B3.out.setCell (by show _ ≤ w.heap.size + 1 + 1; omega) _
  | true =>
    cases hf : fndB L pn pl with
    | false =>
      have hd := drp_no ht hf
      rw [hd.1, hd.2.1]
      go_enter Try.func12, Try.ntmps12
      obtain ⟨m, hm⟩ : ∃ m, m = (L.filter (notP pn pl)).length := ⟨_, rfl⟩
      have hm2 : m ≤ n := by rw [hm, ← hL]; exact List.length_filter_le _ _
      have HM := Lib.hid hm
      have hmn : m = n := by rw [hm, hd.2.2, hL]
      have d0 : ((m : Int) == (n : Int)) = true := by simp [hmn]
      have d1 : (m == n) = true := by simp [hmn]
      have HMN := Lib.hid hmn
      clear hmn
      have HD := Lib.hid hd
      clear hm hd
      go_wp2_with fail
      go_at_call 52
      refine (sless_any lo hi n _ L pn pl _ hL (HR.out.below (B := w.heap.size) (by go_grown) (by omega)) (by simp; omega)).mono ?_
      rintro e v1 ⟨rv, rfl, hr2, hb1⟩
      have sz1 : w.heap.size + 3 ≤ v1.heap.size := by have hh := hb1.size; simp at hh; omega
      have st1 : Below w.heap.size w v1 := Below.trans (by go_grown) (hb1.mono (by simp <;> omega))
      have c1_0 : v1.cell? ⟨w.heap.size, 0, none⟩ = some (.slice ad n cp) := by rw [(bcell hb1).1 _ _ (by simp <;> omega), old_box (by simp <;> omega), old_box (by simp <;> omega)]; first | (rw [new_at (by simp)]; rfl) | simp
      have c1_1 : v1.cell? ⟨w.heap.size + 1, 0, none⟩ = some (.int .i64 pn) := by rw [(bcell hb1).1 _ _ (by simp <;> omega), old_box (by simp <;> omega)]; first | (rw [new_at (by simp)]; rfl) | simp
      have c1_2 : v1.cell? ⟨w.heap.size + 1, 1, none⟩ = some (.int .i64 pl) := by rw [(bcell hb1).1 _ _ (by simp <;> omega), old_box (by simp <;> omega)]; first | (rw [new_at (by simp)]; rfl) | simp
      have c1_3 : v1.cell? ⟨w.heap.size + 1 + 1, 0, none⟩ = some (.slice none 0 0) := by rw [(bcell hb1).1 _ _ (by simp)]; first | (rw [new_at (by simp)]; rfl) | simp
      have g1_0 : v1.frozen? ⟨w.heap.size + 1 + 1, 0, none⟩ = false := by rw [(bcell hb1).2 _ _ (by simp), new_frz (by simp)]
      have B1 : Hid (Below w.heap.size w v1) := st1
      have R1_0 : Hid (Row 3 v1 (lo) (hi) (.slice ad n cp) n (flat L)) := HR.out.below st1 (by omega)
      have d1_0 : w.heap.size < v1.heap.size := by omega
      have e1_0 : w.heap.size ≠ v1.heap.size := by omega
      have d1_1 : w.heap.size + 1 < v1.heap.size := by omega
      have e1_1 : w.heap.size + 1 ≠ v1.heap.size := by omega
      have d1_2 : w.heap.size + 1 + 1 < v1.heap.size := by omega
      have e1_2 : w.heap.size + 1 + 1 ≠ v1.heap.size := by omega
      have ST1 := Lib.hid st1
      clear st1 HR hb1
      rw [← HM.out] at hr2
      obtain ⟨ra, rc, rfl⟩ := hr2.slice
      have HR2 := Lib.hid hr2
      clear hr2
      have HR2' : Hid (Row 3 v1 (w.heap.size + 1 + 1 + 1) v1.heap.size (.slice ra m rc) m (flat (L.filter (notP pn pl)))) := by have hh := HR2.out; simp at hh; exact Lib.hid hh
      clear HR2
      go_wp2_with fail
      go_at_call 39
      refine (stok_any lo hi n _ L _ hL (R1_0.out.below (B := v1.heap.size) (by go_grown) (by omega)) (by simp; omega)).mono ?_
      rw [ht]
      rintro e v2 ⟨rfl, hb2⟩
      have sz2 : v1.heap.size + 1 ≤ v2.heap.size := by have hh := hb2.size; simp at hh; omega
      have st2 : Below v1.heap.size v1 v2 := Below.trans (by go_grown) (hb2.mono (by simp))
      have c2_0 : v2.cell? ⟨w.heap.size, 0, none⟩ = some (.slice ad n cp) := by rw [(bcell st2).1 _ _ (by omega)]; exact c1_0
      have c2_1 : v2.cell? ⟨w.heap.size + 1, 0, none⟩ = some (.int .i64 pn) := by rw [(bcell st2).1 _ _ (by omega)]; exact c1_1
      have c2_2 : v2.cell? ⟨w.heap.size + 1, 1, none⟩ = some (.int .i64 pl) := by rw [(bcell st2).1 _ _ (by omega)]; exact c1_2
      have c2_3 : v2.cell? ⟨w.heap.size + 1 + 1, 0, none⟩ = some (.slice none 0 0) := by rw [(bcell st2).1 _ _ (by omega)]; exact c1_3
      have c2_4 : v2.cell? ⟨v1.heap.size, 0, none⟩ = some (.slice ra m rc) := by rw [(bcell hb2).1 _ _ (by simp)]; first | (rw [new_at (by simp)]; rfl) | simp
      have g2_0 : v2.frozen? ⟨w.heap.size + 1 + 1, 0, none⟩ = false := by rw [(bcell st2).2 _ _ (by omega)]; exact g1_0
      have B2 : Hid (Below w.heap.size w v2) := B1.out.trans (st2.mono (by omega))
      have R2_0 : Hid (Row 3 v2 (lo) (hi) (.slice ad n cp) n (flat L)) := R1_0.out.below st2 (by omega)
      have R2_1 : Hid (Row 3 v2 (w.heap.size + 1 + 1 + 1) (v1.heap.size) (.slice ra m rc) m (flat (L.filter (notP pn pl)))) := HR2'.out.below st2 (by omega)
      have d2_0 : w.heap.size < v2.heap.size := by omega
      have e2_0 : w.heap.size ≠ v2.heap.size := by omega
      have d2_1 : w.heap.size + 1 < v2.heap.size := by omega
      have e2_1 : w.heap.size + 1 ≠ v2.heap.size := by omega
      have d2_2 : w.heap.size + 1 + 1 < v2.heap.size := by omega
      have e2_2 : w.heap.size + 1 + 1 ≠ v2.heap.size := by omega
      have d2_3 : v1.heap.size < v2.heap.size := by omega
      have e2_3 : v1.heap.size ≠ v2.heap.size := by omega
      have ST2 := Lib.hid st2
      clear d1_0 e1_0 d1_1 e1_1 d1_2 e1_2 c1_0 c1_1 c1_2 c1_3 g1_0 B1 st2 R1_0 HR2' hb2
      go_wp2_with fail
      go_at_call 53
      refine (scopy_any lo hi n _ L _ hL R2_0.out (by omega)).mono ?_
      rintro e v3 ⟨rv3, rfl, hr3, hb3⟩
      have sz3 : v2.heap.size ≤ v3.heap.size := hb3.size
      have st3 : Below v2.heap.size v2 v3 := hb3
      have c3_0 : v3.cell? ⟨w.heap.size, 0, none⟩ = some (.slice ad n cp) := by rw [(bcell st3).1 _ _ (by omega)]; exact c2_0
      have c3_1 : v3.cell? ⟨w.heap.size + 1, 0, none⟩ = some (.int .i64 pn) := by rw [(bcell st3).1 _ _ (by omega)]; exact c2_1
      have c3_2 : v3.cell? ⟨w.heap.size + 1, 1, none⟩ = some (.int .i64 pl) := by rw [(bcell st3).1 _ _ (by omega)]; exact c2_2
      have c3_3 : v3.cell? ⟨w.heap.size + 1 + 1, 0, none⟩ = some (.slice none 0 0) := by rw [(bcell st3).1 _ _ (by omega)]; exact c2_3
      have c3_4 : v3.cell? ⟨v1.heap.size, 0, none⟩ = some (.slice ra m rc) := by rw [(bcell st3).1 _ _ (by omega)]; exact c2_4
      have g3_0 : v3.frozen? ⟨w.heap.size + 1 + 1, 0, none⟩ = false := by rw [(bcell st3).2 _ _ (by omega)]; exact g2_0
      have B3 : Hid (Below w.heap.size w v3) := B2.out.trans (st3.mono (by omega))
      have R3_0 : Hid (Row 3 v3 (lo) (hi) (.slice ad n cp) n (flat L)) := R2_0.out.below st3 (by omega)
      have R3_1 : Hid (Row 3 v3 (w.heap.size + 1 + 1 + 1) (v1.heap.size) (.slice ra m rc) m (flat (L.filter (notP pn pl)))) := R2_1.out.below st3 (by omega)
      have d3_0 : w.heap.size < v3.heap.size := by omega
      have e3_0 : w.heap.size ≠ v3.heap.size := by omega
      have d3_1 : w.heap.size + 1 < v3.heap.size := by omega
      have e3_1 : w.heap.size + 1 ≠ v3.heap.size := by omega
      have d3_2 : w.heap.size + 1 + 1 < v3.heap.size := by omega
      have e3_2 : w.heap.size + 1 + 1 ≠ v3.heap.size := by omega
      have d3_3 : v1.heap.size < v3.heap.size := by omega
      have e3_3 : v1.heap.size ≠ v3.heap.size := by omega
      have ST3 := Lib.hid st3
      clear d2_0 e2_0 d2_1 e2_1 d2_2 e2_2 d2_3 e2_3 c2_0 c2_1 c2_2 c2_3 c2_4 g2_0 B2 st3 R2_0 R2_1 hb3
      obtain ⟨sa, sc, rfl⟩ := hr3.slice
      rw [hL] at hr3
      have HR3 := Lib.hid hr3
      clear hr3
      obtain ⟨h1, h2⟩ : drpL L pn pl = L ∧ drpB L pn pl = false := ⟨HD.out.1, HD.out.2.1⟩
      have r0 : (v3.setCell ⟨w.heap.size + 1 + 1, 0, none⟩ (.slice sa n sc)).cell? ⟨w.heap.size + 1 + 1, 0, none⟩ = some (.slice sa n sc) := World.cell?_setCell_same' _ _ _ (by rw [c3_3]; rfl)
      have Hrow := Lib.hid ((HR3.out.setCell (p := ⟨w.heap.size + 1 + 1, 0, none⟩) (.inl (by show w.heap.size + 1 + 1 < v2.heap.size; omega)) (.slice sa n sc)).wide (lo' := w.heap.size) (hi' := (v3.setCell ⟨w.heap.size + 1 + 1, 0, none⟩ (.slice sa n sc)).heap.size) (by omega) (by simp [World.setCell] <;> omega))
      go_wp2_with fail
      refine bodyPost_ret (v := .tuple #[.agg #[.slice sa n sc], .bool false]) (by simp [results, Try.results12, go_sem, r0]) rfl ⟨_, rfl, ?_, ?_⟩
      · rw [hL]; exact Hrow.out
      · exact B3.out.setCell (by show _ ≤ w.heap.size + 1 + 1; omega) _
    | true =>
      have hd := drp_yes ht hf
      rw [hd.1, hd.2.1, ← hd.2.2.1]
      go_enter Try.func12, Try.ntmps12
      obtain ⟨m, hm⟩ : ∃ m, m = (L.filter (notP pn pl)).length := ⟨_, rfl⟩
      have hm2 : m ≤ n := by rw [hm, ← hL]; exact List.length_filter_le _ _
      have HM := Lib.hid hm
      have hmn : m ≠ n := by rw [hm, ← hL]; exact hd.2.2.2
      have d0 : ((m : Int) == (n : Int)) = false := by simp; omega
      have d1 : (m == n) = false := by simp [hmn]
      have HD := Lib.hid hd
      clear hm hd
      go_wp2_with fail
      go_at_call 52
      refine (sless_any lo hi n _ L pn pl _ hL (HR.out.below (B := w.heap.size) (by go_grown) (by omega)) (by simp; omega)).mono ?_
      rintro e v1 ⟨rv, rfl, hr2, hb1⟩
      have sz1 : w.heap.size + 3 ≤ v1.heap.size := by have hh := hb1.size; simp at hh; omega
      have st1 : Below w.heap.size w v1 := Below.trans (by go_grown) (hb1.mono (by simp <;> omega))
      have c1_0 : v1.cell? ⟨w.heap.size, 0, none⟩ = some (.slice ad n cp) := by rw [(bcell hb1).1 _ _ (by simp <;> omega), old_box (by simp <;> omega), old_box (by simp <;> omega)]; first | (rw [new_at (by simp)]; rfl) | simp
      have c1_1 : v1.cell? ⟨w.heap.size + 1, 0, none⟩ = some (.int .i64 pn) := by rw [(bcell hb1).1 _ _ (by simp <;> omega), old_box (by simp <;> omega)]; first | (rw [new_at (by simp)]; rfl) | simp
      have c1_2 : v1.cell? ⟨w.heap.size + 1, 1, none⟩ = some (.int .i64 pl) := by rw [(bcell hb1).1 _ _ (by simp <;> omega), old_box (by simp <;> omega)]; first | (rw [new_at (by simp)]; rfl) | simp
      have c1_3 : v1.cell? ⟨w.heap.size + 1 + 1, 0, none⟩ = some (.slice none 0 0) := by rw [(bcell hb1).1 _ _ (by simp)]; first | (rw [new_at (by simp)]; rfl) | simp
      have g1_0 : v1.frozen? ⟨w.heap.size + 1 + 1, 0, none⟩ = false := by rw [(bcell hb1).2 _ _ (by simp), new_frz (by simp)]
      have B1 : Hid (Below w.heap.size w v1) := st1
      have R1_0 : Hid (Row 3 v1 (lo) (hi) (.slice ad n cp) n (flat L)) := HR.out.below st1 (by omega)
      have d1_0 : w.heap.size < v1.heap.size := by omega
      have e1_0 : w.heap.size ≠ v1.heap.size := by omega
      have d1_1 : w.heap.size + 1 < v1.heap.size := by omega
      have e1_1 : w.heap.size + 1 ≠ v1.heap.size := by omega
      have d1_2 : w.heap.size + 1 + 1 < v1.heap.size := by omega
      have e1_2 : w.heap.size + 1 + 1 ≠ v1.heap.size := by omega
      have ST1 := Lib.hid st1
      clear st1 HR hb1
      rw [← HM.out] at hr2
      obtain ⟨ra, rc, rfl⟩ := hr2.slice
      have HR2 := Lib.hid hr2
      clear hr2
      have HR2' : Hid (Row 3 v1 (w.heap.size + 1 + 1 + 1) v1.heap.size (.slice ra m rc) m (flat (L.filter (notP pn pl)))) := by have hh := HR2.out; simp at hh; exact Lib.hid hh
      clear HR2
      go_wp2_with fail
      go_at_call 39
      refine (stok_any lo hi n _ L _ hL (R1_0.out.below (B := v1.heap.size) (by go_grown) (by omega)) (by simp; omega)).mono ?_
      rw [ht]
      rintro e v2 ⟨rfl, hb2⟩
      have sz2 : v1.heap.size + 1 ≤ v2.heap.size := by have hh := hb2.size; simp at hh; omega
      have st2 : Below v1.heap.size v1 v2 := Below.trans (by go_grown) (hb2.mono (by simp))
      have c2_0 : v2.cell? ⟨w.heap.size, 0, none⟩ = some (.slice ad n cp) := by rw [(bcell st2).1 _ _ (by omega)]; exact c1_0
      have c2_1 : v2.cell? ⟨w.heap.size + 1, 0, none⟩ = some (.int .i64 pn) := by rw [(bcell st2).1 _ _ (by omega)]; exact c1_1
      have c2_2 : v2.cell? ⟨w.heap.size + 1, 1, none⟩ = some (.int .i64 pl) := by rw [(bcell st2).1 _ _ (by omega)]; exact c1_2
      have c2_3 : v2.cell? ⟨w.heap.size + 1 + 1, 0, none⟩ = some (.slice none 0 0) := by rw [(bcell st2).1 _ _ (by omega)]; exact c1_3
      have c2_4 : v2.cell? ⟨v1.heap.size, 0, none⟩ = some (.slice ra m rc) := by rw [(bcell hb2).1 _ _ (by simp)]; first | (rw [new_at (by simp)]; rfl) | simp
      have g2_0 : v2.frozen? ⟨w.heap.size + 1 + 1, 0, none⟩ = false := by rw [(bcell st2).2 _ _ (by omega)]; exact g1_0
      have B2 : Hid (Below w.heap.size w v2) := B1.out.trans (st2.mono (by omega))
      have R2_0 : Hid (Row 3 v2 (lo) (hi) (.slice ad n cp) n (flat L)) := R1_0.out.below st2 (by omega)
      have R2_1 : Hid (Row 3 v2 (w.heap.size + 1 + 1 + 1) (v1.heap.size) (.slice ra m rc) m (flat (L.filter (notP pn pl)))) := HR2'.out.below st2 (by omega)
      have d2_0 : w.heap.size < v2.heap.size := by omega
      have e2_0 : w.heap.size ≠ v2.heap.size := by omega
      have d2_1 : w.heap.size + 1 < v2.heap.size := by omega
      have e2_1 : w.heap.size + 1 ≠ v2.heap.size := by omega
      have d2_2 : w.heap.size + 1 + 1 < v2.heap.size := by omega
      have e2_2 : w.heap.size + 1 + 1 ≠ v2.heap.size := by omega
      have d2_3 : v1.heap.size < v2.heap.size := by omega
      have e2_3 : v1.heap.size ≠ v2.heap.size := by omega
      have ST2 := Lib.hid st2
      clear d1_0 e1_0 d1_1 e1_1 d1_2 e1_2 c1_0 c1_1 c1_2 c1_3 g1_0 B1 st2 R1_0 HR2' hb2
      have r0 : (v2.setCell ⟨w.heap.size + 1 + 1, 0, none⟩ (.slice ra m rc)).cell? ⟨w.heap.size + 1 + 1, 0, none⟩ = some (.slice ra m rc) := World.cell?_setCell_same' _ _ _ (by rw [c2_3]; rfl)
      have Hrow := Lib.hid ((R2_1.out.setCell (p := ⟨w.heap.size + 1 + 1, 0, none⟩) (.inl (by show w.heap.size + 1 + 1 < w.heap.size + 1 + 1 + 1; omega)) (.slice ra m rc)).wide (lo' := w.heap.size) (hi' := (v2.setCell ⟨w.heap.size + 1 + 1, 0, none⟩ (.slice ra m rc)).heap.size) (by omega) (by simp [World.setCell] <;> omega))
      go_wp2_with fail
      refine bodyPost_ret (v := .tuple #[.agg #[.slice ra m rc], .bool true]) (by simp [results, Try.results12, go_sem, r0]) rfl ⟨_, rfl, ?_, ?_⟩
      · rw [← HM.out]; exact Hrow.out
      · exact B2.out.setCell (by show _ ≤ w.heap.size + 1 + 1; omega) _

set_option maxRecDepth 100000 in
set_option maxHeartbeats 4000000 in
theorem idrop_any (lo hi n : Nat) (v : Value) (L : List Rt) (pn pl : Int) (w : World) (hL : L.length = n) (hr : Row 3 w lo hi v n (flat L)) (hh : hi ≤ w.heap.size) : Calls Try.prog 15 #[.agg #[v], .agg #[.int .i64 pn, .int .i64 pl]] w (TabBPost (drpL L pn pl) (drpB L pn pl) w) := by
  have HR := Lib.hid hr
  obtain ⟨ad, cp, rfl, hn, _⟩ := hr.opened
  clear hr
  cases ht : tok L with
  | false =>
    have hd := drp_bad (pn := pn) (pl := pl) ht
    rw [hd.1, hd.2]
    go_enter Try.func15, Try.ntmps15
    have HD := Lib.hid hd
    clear hd
    go_wp2_with fail
    go_at_call 55
    refine (icp_any lo hi n _ L _ hL (HR.out.below (B := w.heap.size) (by go_grown) (by omega)) (by simp; omega)).mono ?_
    rintro e v1 ⟨rv, rfl, hO⟩
    have hb1 := hO.below
    obtain ⟨ra, rc, rfl⟩ := own_slice hO.row
    have HO := Lib.hid hO
    clear hO
    have sz1 : w.heap.size + 3 ≤ v1.heap.size := by have hh := hb1.size; simp at hh; omega
    have st1 : Below w.heap.size w v1 := Below.trans (by go_grown) (hb1.mono (by simp <;> omega))
    have c1_0 : v1.cell? ⟨w.heap.size, 0, none⟩ = some (.slice ad n cp) := by rw [(bcell hb1).1 _ _ (by simp <;> omega), old_box (by simp <;> omega), old_box (by simp <;> omega)]; first | (rw [new_at (by simp)]; rfl) | simp
    have c1_1 : v1.cell? ⟨w.heap.size + 1, 0, none⟩ = some (.int .i64 pn) := by rw [(bcell hb1).1 _ _ (by simp <;> omega), old_box (by simp <;> omega)]; first | (rw [new_at (by simp)]; rfl) | simp
    have c1_2 : v1.cell? ⟨w.heap.size + 1, 1, none⟩ = some (.int .i64 pl) := by rw [(bcell hb1).1 _ _ (by simp <;> omega), old_box (by simp <;> omega)]; first | (rw [new_at (by simp)]; rfl) | simp
    have c1_3 : v1.cell? ⟨w.heap.size + 1 + 1, 0, none⟩ = some (.slice none 0 0) := by rw [(bcell hb1).1 _ _ (by simp)]; first | (rw [new_at (by simp)]; rfl) | simp
    have g1_0 : v1.frozen? ⟨w.heap.size + 1 + 1, 0, none⟩ = false := by rw [(bcell hb1).2 _ _ (by simp), new_frz (by simp)]
    have B1 : Hid (Below w.heap.size w v1) := st1
    have R1_0 : Hid (Row 3 v1 (lo) (hi) (.slice ad n cp) n (flat L)) := HR.out.below st1 (by omega)
    have d1_0 : w.heap.size < v1.heap.size := by omega
    have e1_0 : w.heap.size ≠ v1.heap.size := by omega
    have d1_1 : w.heap.size + 1 < v1.heap.size := by omega
    have e1_1 : w.heap.size + 1 ≠ v1.heap.size := by omega
    have d1_2 : w.heap.size + 1 + 1 < v1.heap.size := by omega
    have e1_2 : w.heap.size + 1 + 1 ≠ v1.heap.size := by omega
    have ST1 := Lib.hid st1
    clear st1 HR hb1
    have HR2 : Hid (Row 3 v1 (w.heap.size + 1 + 1 + 1) v1.heap.size (.slice ra n rc) n (flat L)) := by have hh := HO.out.toRow (by omega); simp at hh; exact Lib.hid hh
    go_wp2_with fail
    go_at_call 56
    refine (itok_any lo hi n _ L _ hL (R1_0.out.below (B := v1.heap.size) (by go_grown) (by omega)) (by simp; omega)).mono ?_
    rw [ht]
    rintro e v2 ⟨rfl, hb2⟩
    have sz2 : v1.heap.size + 1 ≤ v2.heap.size := by have hh := hb2.size; simp at hh; omega
    have st2 : Below v1.heap.size v1 v2 := Below.trans (by go_grown) (hb2.mono (by simp))
    have c2_0 : v2.cell? ⟨w.heap.size, 0, none⟩ = some (.slice ad n cp) := by rw [(bcell st2).1 _ _ (by omega)]; exact c1_0
    have c2_1 : v2.cell? ⟨w.heap.size + 1, 0, none⟩ = some (.int .i64 pn) := by rw [(bcell st2).1 _ _ (by omega)]; exact c1_1
    have c2_2 : v2.cell? ⟨w.heap.size + 1, 1, none⟩ = some (.int .i64 pl) := by rw [(bcell st2).1 _ _ (by omega)]; exact c1_2
    have c2_3 : v2.cell? ⟨w.heap.size + 1 + 1, 0, none⟩ = some (.slice none 0 0) := by rw [(bcell st2).1 _ _ (by omega)]; exact c1_3
    have c2_4 : v2.cell? ⟨v1.heap.size, 0, none⟩ = some (.slice ra n rc) := by rw [(bcell hb2).1 _ _ (by simp)]; first | (rw [new_at (by simp)]; rfl) | simp
    have g2_0 : v2.frozen? ⟨w.heap.size + 1 + 1, 0, none⟩ = false := by rw [(bcell st2).2 _ _ (by omega)]; exact g1_0
    have g2_1 : v2.frozen? ⟨v1.heap.size, 0, none⟩ = false := by rw [(bcell hb2).2 _ _ (by simp), new_frz (by simp)]
    have B2 : Hid (Below w.heap.size w v2) := B1.out.trans (st2.mono (by omega))
    have R2_0 : Hid (Row 3 v2 (lo) (hi) (.slice ad n cp) n (flat L)) := R1_0.out.below st2 (by omega)
    have R2_1 : Hid (Row 3 v2 (w.heap.size + 1 + 1 + 1) (v1.heap.size) (.slice ra n rc) n (flat L)) := HR2.out.below st2 (by omega)
    have d2_0 : w.heap.size < v2.heap.size := by omega
    have e2_0 : w.heap.size ≠ v2.heap.size := by omega
    have d2_1 : w.heap.size + 1 < v2.heap.size := by omega
    have e2_1 : w.heap.size + 1 ≠ v2.heap.size := by omega
    have d2_2 : w.heap.size + 1 + 1 < v2.heap.size := by omega
    have e2_2 : w.heap.size + 1 + 1 ≠ v2.heap.size := by omega
    have d2_3 : v1.heap.size < v2.heap.size := by omega
    have e2_3 : v1.heap.size ≠ v2.heap.size := by omega
    have ST2 := Lib.hid st2
    clear d1_0 e1_0 d1_1 e1_1 d1_2 e1_2 c1_0 c1_1 c1_2 c1_3 g1_0 B1 st2 R1_0 HR2 hb2
    obtain ⟨h1, h2⟩ := HD.out
    have r0 : (v2.setCell ⟨w.heap.size + 1 + 1, 0, none⟩ (.slice ra n rc)).cell? ⟨w.heap.size + 1 + 1, 0, none⟩ = some (.slice ra n rc) := World.cell?_setCell_same' _ _ _ (by rw [c2_3]; rfl)
    have Hrow := Lib.hid ((R2_1.out.setCell (p := ⟨w.heap.size + 1 + 1, 0, none⟩) (.inl (by show w.heap.size + 1 + 1 < w.heap.size + 1 + 1 + 1; omega)) (.slice ra n rc)).wide (lo' := w.heap.size) (hi' := (v2.setCell ⟨w.heap.size + 1 + 1, 0, none⟩ (.slice ra n rc)).heap.size) (by omega) (by simp [World.setCell] <;> omega))
    go_wp2_with fail
    refine bodyPost_ret (v := .tuple #[.agg #[.slice ra n rc], .bool false]) (by simp [results, Try.results15, go_sem, r0]) rfl ⟨_, rfl, ?_, ?_⟩
    · rw [hL]; exact Hrow.out
    · exact B2.out.setCell (by show _ ≤ w.heap.size + 1 + 1; omega) _
  | true =>
    have h120 := (tok_parts ht).1
    obtain ⟨P, hP⟩ : ∃ P, P = plc L pn pl := ⟨_, rfl⟩
    cases hf : fndB L pn pl with
    | false =>
      have hd := drp_no ht hf
      rw [hd.1, hd.2.1]
      have HP : Hid (P = plc L pn pl ∧ True) := ⟨hP, trivial⟩
      clear hP
      go_enter Try.func15, Try.ntmps15
      have HD := Lib.hid hd
      clear hd
      go_wp2_with fail
      go_at_call 55
      refine (icp_any lo hi n _ L _ hL (HR.out.below (B := w.heap.size) (by go_grown) (by omega)) (by simp; omega)).mono ?_
      rintro e v1 ⟨rv, rfl, hO⟩
      have hb1 := hO.below
      obtain ⟨ra, rc, rfl⟩ := own_slice hO.row
      have HO := Lib.hid hO
      clear hO
      have sz1 : w.heap.size + 3 ≤ v1.heap.size := by have hh := hb1.size; simp at hh; omega
      have st1 : Below w.heap.size w v1 := Below.trans (by go_grown) (hb1.mono (by simp <;> omega))
      have c1_0 : v1.cell? ⟨w.heap.size, 0, none⟩ = some (.slice ad n cp) := by rw [(bcell hb1).1 _ _ (by simp <;> omega), old_box (by simp <;> omega), old_box (by simp <;> omega)]; first | (rw [new_at (by simp)]; rfl) | simp
      have c1_1 : v1.cell? ⟨w.heap.size + 1, 0, none⟩ = some (.int .i64 pn) := by rw [(bcell hb1).1 _ _ (by simp <;> omega), old_box (by simp <;> omega)]; first | (rw [new_at (by simp)]; rfl) | simp
      have c1_2 : v1.cell? ⟨w.heap.size + 1, 1, none⟩ = some (.int .i64 pl) := by rw [(bcell hb1).1 _ _ (by simp <;> omega), old_box (by simp <;> omega)]; first | (rw [new_at (by simp)]; rfl) | simp
      have c1_3 : v1.cell? ⟨w.heap.size + 1 + 1, 0, none⟩ = some (.slice none 0 0) := by rw [(bcell hb1).1 _ _ (by simp)]; first | (rw [new_at (by simp)]; rfl) | simp
      have g1_0 : v1.frozen? ⟨w.heap.size + 1 + 1, 0, none⟩ = false := by rw [(bcell hb1).2 _ _ (by simp), new_frz (by simp)]
      have B1 : Hid (Below w.heap.size w v1) := st1
      have R1_0 : Hid (Row 3 v1 (lo) (hi) (.slice ad n cp) n (flat L)) := HR.out.below st1 (by omega)
      have d1_0 : w.heap.size < v1.heap.size := by omega
      have e1_0 : w.heap.size ≠ v1.heap.size := by omega
      have d1_1 : w.heap.size + 1 < v1.heap.size := by omega
      have e1_1 : w.heap.size + 1 ≠ v1.heap.size := by omega
      have d1_2 : w.heap.size + 1 + 1 < v1.heap.size := by omega
      have e1_2 : w.heap.size + 1 + 1 ≠ v1.heap.size := by omega
      have ST1 := Lib.hid st1
      clear st1 HR hb1
      have HR2 : Hid (Row 3 v1 (w.heap.size + 1 + 1 + 1) v1.heap.size (.slice ra n rc) n (flat L)) := by have hh := HO.out.toRow (by omega); simp at hh; exact Lib.hid hh
      go_wp2_with fail
      go_at_call 56
      refine (itok_any lo hi n _ L _ hL (R1_0.out.below (B := v1.heap.size) (by go_grown) (by omega)) (by simp; omega)).mono ?_
      rw [ht]
      rintro e v2 ⟨rfl, hb2⟩
      have sz2 : v1.heap.size + 1 ≤ v2.heap.size := by have hh := hb2.size; simp at hh; omega
      have st2 : Below v1.heap.size v1 v2 := Below.trans (by go_grown) (hb2.mono (by simp))
      have c2_0 : v2.cell? ⟨w.heap.size, 0, none⟩ = some (.slice ad n cp) := by rw [(bcell st2).1 _ _ (by omega)]; exact c1_0
      have c2_1 : v2.cell? ⟨w.heap.size + 1, 0, none⟩ = some (.int .i64 pn) := by rw [(bcell st2).1 _ _ (by omega)]; exact c1_1
      have c2_2 : v2.cell? ⟨w.heap.size + 1, 1, none⟩ = some (.int .i64 pl) := by rw [(bcell st2).1 _ _ (by omega)]; exact c1_2
      have c2_3 : v2.cell? ⟨w.heap.size + 1 + 1, 0, none⟩ = some (.slice none 0 0) := by rw [(bcell st2).1 _ _ (by omega)]; exact c1_3
      have c2_4 : v2.cell? ⟨v1.heap.size, 0, none⟩ = some (.slice ra n rc) := by rw [(bcell hb2).1 _ _ (by simp)]; first | (rw [new_at (by simp)]; rfl) | simp
      have g2_0 : v2.frozen? ⟨w.heap.size + 1 + 1, 0, none⟩ = false := by rw [(bcell st2).2 _ _ (by omega)]; exact g1_0
      have g2_1 : v2.frozen? ⟨v1.heap.size, 0, none⟩ = false := by rw [(bcell hb2).2 _ _ (by simp), new_frz (by simp)]
      have B2 : Hid (Below w.heap.size w v2) := B1.out.trans (st2.mono (by omega))
      have R2_0 : Hid (Row 3 v2 (lo) (hi) (.slice ad n cp) n (flat L)) := R1_0.out.below st2 (by omega)
      have R2_1 : Hid (Row 3 v2 (w.heap.size + 1 + 1 + 1) (v1.heap.size) (.slice ra n rc) n (flat L)) := HR2.out.below st2 (by omega)
      have d2_0 : w.heap.size < v2.heap.size := by omega
      have e2_0 : w.heap.size ≠ v2.heap.size := by omega
      have d2_1 : w.heap.size + 1 < v2.heap.size := by omega
      have e2_1 : w.heap.size + 1 ≠ v2.heap.size := by omega
      have d2_2 : w.heap.size + 1 + 1 < v2.heap.size := by omega
      have e2_2 : w.heap.size + 1 + 1 ≠ v2.heap.size := by omega
      have d2_3 : v1.heap.size < v2.heap.size := by omega
      have e2_3 : v1.heap.size ≠ v2.heap.size := by omega
      have ST2 := Lib.hid st2
      clear d1_0 e1_0 d1_1 e1_1 d1_2 e1_2 c1_0 c1_1 c1_2 c1_3 g1_0 B1 st2 R1_0 HR2 hb2
      go_wp2_with fail
      go_at_call 57
      refine (place_any lo hi n _ L pn pl _ hL R2_0.out (by omega) ht).mono ?_
      rw [← HP.out.1, hf]
      rintro e v3 ⟨rfl, hb3⟩
      have sz3 : v2.heap.size ≤ v3.heap.size := hb3.size
      have st3 : Below v2.heap.size v2 v3 := hb3
      have c3_0 : v3.cell? ⟨w.heap.size, 0, none⟩ = some (.slice ad n cp) := by rw [(bcell st3).1 _ _ (by omega)]; exact c2_0
      have c3_1 : v3.cell? ⟨w.heap.size + 1, 0, none⟩ = some (.int .i64 pn) := by rw [(bcell st3).1 _ _ (by omega)]; exact c2_1
      have c3_2 : v3.cell? ⟨w.heap.size + 1, 1, none⟩ = some (.int .i64 pl) := by rw [(bcell st3).1 _ _ (by omega)]; exact c2_2
      have c3_3 : v3.cell? ⟨w.heap.size + 1 + 1, 0, none⟩ = some (.slice none 0 0) := by rw [(bcell st3).1 _ _ (by omega)]; exact c2_3
      have c3_4 : v3.cell? ⟨v1.heap.size, 0, none⟩ = some (.slice ra n rc) := by rw [(bcell st3).1 _ _ (by omega)]; exact c2_4
      have g3_0 : v3.frozen? ⟨w.heap.size + 1 + 1, 0, none⟩ = false := by rw [(bcell st3).2 _ _ (by omega)]; exact g2_0
      have g3_1 : v3.frozen? ⟨v1.heap.size, 0, none⟩ = false := by rw [(bcell st3).2 _ _ (by omega)]; exact g2_1
      have B3 : Hid (Below w.heap.size w v3) := B2.out.trans (st3.mono (by omega))
      have R3_0 : Hid (Row 3 v3 (lo) (hi) (.slice ad n cp) n (flat L)) := R2_0.out.below st3 (by omega)
      have R3_1 : Hid (Row 3 v3 (w.heap.size + 1 + 1 + 1) (v1.heap.size) (.slice ra n rc) n (flat L)) := R2_1.out.below st3 (by omega)
      have d3_0 : w.heap.size < v3.heap.size := by omega
      have e3_0 : w.heap.size ≠ v3.heap.size := by omega
      have d3_1 : w.heap.size + 1 < v3.heap.size := by omega
      have e3_1 : w.heap.size + 1 ≠ v3.heap.size := by omega
      have d3_2 : w.heap.size + 1 + 1 < v3.heap.size := by omega
      have e3_2 : w.heap.size + 1 + 1 ≠ v3.heap.size := by omega
      have d3_3 : v1.heap.size < v3.heap.size := by omega
      have e3_3 : v1.heap.size ≠ v3.heap.size := by omega
      have ST3 := Lib.hid st3
      clear d2_0 e2_0 d2_1 e2_1 d2_2 e2_2 d2_3 e2_3 c2_0 c2_1 c2_2 c2_3 c2_4 g2_0 g2_1 B2 st3 R2_0 R2_1 hb3
      obtain ⟨h1, h2⟩ : drpL L pn pl = L ∧ drpB L pn pl = false := ⟨HD.out.1, HD.out.2.1⟩
      have r0 : (v3.setCell ⟨w.heap.size + 1 + 1, 0, none⟩ (.slice ra n rc)).cell? ⟨w.heap.size + 1 + 1, 0, none⟩ = some (.slice ra n rc) := World.cell?_setCell_same' _ _ _ (by rw [c3_3]; rfl)
      have Hrow := Lib.hid ((R3_1.out.setCell (p := ⟨w.heap.size + 1 + 1, 0, none⟩) (.inl (by show w.heap.size + 1 + 1 < w.heap.size + 1 + 1 + 1; omega)) (.slice ra n rc)).wide (lo' := w.heap.size) (hi' := (v3.setCell ⟨w.heap.size + 1 + 1, 0, none⟩ (.slice ra n rc)).heap.size) (by omega) (by simp [World.setCell] <;> omega))
      go_wp2_with fail
      refine bodyPost_ret (v := .tuple #[.agg #[.slice ra n rc], .bool false]) (by simp [results, Try.results15, go_sem, r0]) rfl ⟨_, rfl, ?_, ?_⟩
      · rw [hL]; exact Hrow.out
      · exact B3.out.setCell (by show _ ≤ w.heap.size + 1 + 1; omega) _
    | true =>
      have hd := drp_yes ht hf
      rw [hd.1, hd.2.1, ← hP]
      have HP : Hid (P = plc L pn pl ∧ P < n ∧ True) := ⟨hP, by rw [hP, ← hL]; exact fndB_lt hf, trivial⟩
      clear hP
      go_enter Try.func15, Try.ntmps15
      have HD := Lib.hid hd
      clear hd
      go_wp2_with fail
      go_at_call 55
      refine (icp_any lo hi n _ L _ hL (HR.out.below (B := w.heap.size) (by go_grown) (by omega)) (by simp; omega)).mono ?_
      rintro e v1 ⟨rv, rfl, hO⟩
      have hb1 := hO.below
      obtain ⟨ra, rc, rfl⟩ := own_slice hO.row
      have HO := Lib.hid hO
      clear hO
      have sz1 : w.heap.size + 3 ≤ v1.heap.size := by have hh := hb1.size; simp at hh; omega
      have st1 : Below w.heap.size w v1 := Below.trans (by go_grown) (hb1.mono (by simp <;> omega))
      have c1_0 : v1.cell? ⟨w.heap.size, 0, none⟩ = some (.slice ad n cp) := by rw [(bcell hb1).1 _ _ (by simp <;> omega), old_box (by simp <;> omega), old_box (by simp <;> omega)]; first | (rw [new_at (by simp)]; rfl) | simp
      have c1_1 : v1.cell? ⟨w.heap.size + 1, 0, none⟩ = some (.int .i64 pn) := by rw [(bcell hb1).1 _ _ (by simp <;> omega), old_box (by simp <;> omega)]; first | (rw [new_at (by simp)]; rfl) | simp
      have c1_2 : v1.cell? ⟨w.heap.size + 1, 1, none⟩ = some (.int .i64 pl) := by rw [(bcell hb1).1 _ _ (by simp <;> omega), old_box (by simp <;> omega)]; first | (rw [new_at (by simp)]; rfl) | simp
      have c1_3 : v1.cell? ⟨w.heap.size + 1 + 1, 0, none⟩ = some (.slice none 0 0) := by rw [(bcell hb1).1 _ _ (by simp)]; first | (rw [new_at (by simp)]; rfl) | simp
      have g1_0 : v1.frozen? ⟨w.heap.size + 1 + 1, 0, none⟩ = false := by rw [(bcell hb1).2 _ _ (by simp), new_frz (by simp)]
      have B1 : Hid (Below w.heap.size w v1) := st1
      have R1_0 : Hid (Row 3 v1 (lo) (hi) (.slice ad n cp) n (flat L)) := HR.out.below st1 (by omega)
      have d1_0 : w.heap.size < v1.heap.size := by omega
      have e1_0 : w.heap.size ≠ v1.heap.size := by omega
      have d1_1 : w.heap.size + 1 < v1.heap.size := by omega
      have e1_1 : w.heap.size + 1 ≠ v1.heap.size := by omega
      have d1_2 : w.heap.size + 1 + 1 < v1.heap.size := by omega
      have e1_2 : w.heap.size + 1 + 1 ≠ v1.heap.size := by omega
      have ST1 := Lib.hid st1
      clear st1 HR hb1
      have HR2 : Hid (Row 3 v1 (w.heap.size + 1 + 1 + 1) v1.heap.size (.slice ra n rc) n (flat L)) := by have hh := HO.out.toRow (by omega); simp at hh; exact Lib.hid hh
      go_wp2_with fail
      go_at_call 56
      refine (itok_any lo hi n _ L _ hL (R1_0.out.below (B := v1.heap.size) (by go_grown) (by omega)) (by simp; omega)).mono ?_
      rw [ht]
      rintro e v2 ⟨rfl, hb2⟩
      have sz2 : v1.heap.size + 1 ≤ v2.heap.size := by have hh := hb2.size; simp at hh; omega
      have st2 : Below v1.heap.size v1 v2 := Below.trans (by go_grown) (hb2.mono (by simp))
      have c2_0 : v2.cell? ⟨w.heap.size, 0, none⟩ = some (.slice ad n cp) := by rw [(bcell st2).1 _ _ (by omega)]; exact c1_0
      have c2_1 : v2.cell? ⟨w.heap.size + 1, 0, none⟩ = some (.int .i64 pn) := by rw [(bcell st2).1 _ _ (by omega)]; exact c1_1
      have c2_2 : v2.cell? ⟨w.heap.size + 1, 1, none⟩ = some (.int .i64 pl) := by rw [(bcell st2).1 _ _ (by omega)]; exact c1_2
      have c2_3 : v2.cell? ⟨w.heap.size + 1 + 1, 0, none⟩ = some (.slice none 0 0) := by rw [(bcell st2).1 _ _ (by omega)]; exact c1_3
      have c2_4 : v2.cell? ⟨v1.heap.size, 0, none⟩ = some (.slice ra n rc) := by rw [(bcell hb2).1 _ _ (by simp)]; first | (rw [new_at (by simp)]; rfl) | simp
      have g2_0 : v2.frozen? ⟨w.heap.size + 1 + 1, 0, none⟩ = false := by rw [(bcell st2).2 _ _ (by omega)]; exact g1_0
      have g2_1 : v2.frozen? ⟨v1.heap.size, 0, none⟩ = false := by rw [(bcell hb2).2 _ _ (by simp), new_frz (by simp)]
      have B2 : Hid (Below w.heap.size w v2) := B1.out.trans (st2.mono (by omega))
      have R2_0 : Hid (Row 3 v2 (lo) (hi) (.slice ad n cp) n (flat L)) := R1_0.out.below st2 (by omega)
      have d2_0 : w.heap.size < v2.heap.size := by omega
      have e2_0 : w.heap.size ≠ v2.heap.size := by omega
      have d2_1 : w.heap.size + 1 < v2.heap.size := by omega
      have e2_1 : w.heap.size + 1 ≠ v2.heap.size := by omega
      have d2_2 : w.heap.size + 1 + 1 < v2.heap.size := by omega
      have e2_2 : w.heap.size + 1 + 1 ≠ v2.heap.size := by omega
      have d2_3 : v1.heap.size < v2.heap.size := by omega
      have e2_3 : v1.heap.size ≠ v2.heap.size := by omega
      have ST2 := Lib.hid st2
      clear d1_0 e1_0 d1_1 e1_1 d1_2 e1_2 c1_0 c1_1 c1_2 c1_3 g1_0 B1 st2 R1_0 hb2
      go_wp2_with fail
      go_at_call 57
      refine (place_any lo hi n _ L pn pl _ hL R2_0.out (by omega) ht).mono ?_
      rw [← HP.out.1, hf]
      rintro e v3 ⟨rfl, hb3⟩
      have sz3 : v2.heap.size ≤ v3.heap.size := hb3.size
      have st3 : Below v2.heap.size v2 v3 := hb3
      have c3_0 : v3.cell? ⟨w.heap.size, 0, none⟩ = some (.slice ad n cp) := by rw [(bcell st3).1 _ _ (by omega)]; exact c2_0
      have c3_1 : v3.cell? ⟨w.heap.size + 1, 0, none⟩ = some (.int .i64 pn) := by rw [(bcell st3).1 _ _ (by omega)]; exact c2_1
      have c3_2 : v3.cell? ⟨w.heap.size + 1, 1, none⟩ = some (.int .i64 pl) := by rw [(bcell st3).1 _ _ (by omega)]; exact c2_2
      have c3_3 : v3.cell? ⟨w.heap.size + 1 + 1, 0, none⟩ = some (.slice none 0 0) := by rw [(bcell st3).1 _ _ (by omega)]; exact c2_3
      have c3_4 : v3.cell? ⟨v1.heap.size, 0, none⟩ = some (.slice ra n rc) := by rw [(bcell st3).1 _ _ (by omega)]; exact c2_4
      have g3_0 : v3.frozen? ⟨w.heap.size + 1 + 1, 0, none⟩ = false := by rw [(bcell st3).2 _ _ (by omega)]; exact g2_0
      have g3_1 : v3.frozen? ⟨v1.heap.size, 0, none⟩ = false := by rw [(bcell st3).2 _ _ (by omega)]; exact g2_1
      have B3 : Hid (Below w.heap.size w v3) := B2.out.trans (st3.mono (by omega))
      have R3_0 : Hid (Row 3 v3 (lo) (hi) (.slice ad n cp) n (flat L)) := R2_0.out.below st3 (by omega)
      have d3_0 : w.heap.size < v3.heap.size := by omega
      have e3_0 : w.heap.size ≠ v3.heap.size := by omega
      have d3_1 : w.heap.size + 1 < v3.heap.size := by omega
      have e3_1 : w.heap.size + 1 ≠ v3.heap.size := by omega
      have d3_2 : w.heap.size + 1 + 1 < v3.heap.size := by omega
      have e3_2 : w.heap.size + 1 + 1 ≠ v3.heap.size := by omega
      have d3_3 : v1.heap.size < v3.heap.size := by omega
      have e3_3 : v1.heap.size ≠ v3.heap.size := by omega
      have ST3 := Lib.hid st3
      clear d2_0 e2_0 d2_1 e2_1 d2_2 e2_2 d2_3 e2_3 c2_0 c2_1 c2_2 c2_3 c2_4 g2_0 g2_1 B2 st3 R2_0 hb3
      have HO3 : Hid (OwnR 43 3 _ v3 (.slice ra n rc) n (flat L)) := Lib.hid ((HO.out.grow ST2.out).grow ST3.out)
      have hPn : P < n := HP.out.2.1
      obtain ⟨G, cap, hsl, _⟩ := HO3.out.row.form (by omega)
      obtain ⟨rfl, rfl⟩ : ra = some ⟨G, 0, none⟩ ∧ rc = cap := by simpa using hsl
      obtain ⟨hBk, hnc, hcm, _⟩ := Blk.start HO3.out.row
      have HBk := Lib.hid hBk
      have hG1 : w.heap.size + 1 + 1 + 1 ≤ G := by have := (HO.out.row.lt G rfl).1; simp at this; exact this
      have hG2 : G < v1.heap.size := (HO.out.row.lt G rfl).2
      have hG3 : G ≠ v1.heap.size := by omega
      have hG4 : G ≠ w.heap.size + 1 + 1 := by omega
      have hP9 : P ≤ 120 := by omega
      clear hsl hBk HO HO3
      go_wp2_with fail
      go_at_call 58
      refine (del_any G n rc P L _ HBk.out hnc hcm hL hPn).mono ?_
      rintro e v4 ⟨rfl, hb4⟩
      have HB4 := Lib.hid hb4
      clear hb4 HBk
      have k0 : v4.cell? ⟨w.heap.size, 0, none⟩ = some (.slice ad n cp) := by rw [HB4.out.els.cell (by omega) (by omega)]; exact c3_0
      have k1 : v4.cell? ⟨w.heap.size + 1, 0, none⟩ = some (.int .i64 pn) := by rw [HB4.out.els.cell (by omega) (by omega)]; exact c3_1
      have k2 : v4.cell? ⟨w.heap.size + 1, 1, none⟩ = some (.int .i64 pl) := by rw [HB4.out.els.cell (by omega) (by omega)]; exact c3_2
      have k3 : v4.cell? ⟨w.heap.size + 1 + 1, 0, none⟩ = some (.slice none 0 0) := by rw [HB4.out.els.cell (by omega) (by omega)]; exact c3_3
      have k4 : v4.cell? ⟨v1.heap.size, 0, none⟩ = some (.slice (some ⟨G, 0, none⟩) n rc) := by rw [HB4.out.els.cell (by omega) (by omega)]; exact c3_4
      have j0 : v4.frozen? ⟨w.heap.size + 1 + 1, 0, none⟩ = false := by rw [World.frozen?_of_block (w := v3) (a := ⟨w.heap.size + 1 + 1, 0, none⟩) (HB4.out.els.2.2.2.2 _ (by show w.heap.size + 1 + 1 < _; omega) (by show w.heap.size + 1 + 1 ≠ G; omega))]; exact g3_0
      have j1 : v4.frozen? ⟨v1.heap.size, 0, none⟩ = false := by rw [World.frozen?_of_block (w := v3) (a := ⟨v1.heap.size, 0, none⟩) (HB4.out.els.2.2.2.2 _ (by show v1.heap.size < _; omega) (by show v1.heap.size ≠ G; omega))]; exact g3_1
      have HBl : Hid (Below w.heap.size w v4) := Lib.hid (B3.out.trans (HB4.out.els.below (by omega) (by omega)))
      have hs4 : v3.heap.size ≤ v4.heap.size := HB4.out.els.2.2.2.1
      obtain ⟨w5, hw5⟩ : ∃ w5, w5 = v4.setCell ⟨v1.heap.size, 0, none⟩ (.slice (some ⟨G, 0, none⟩) (n - 1) rc) := ⟨_, rfl⟩
      have m0 : w5.cell? ⟨v1.heap.size, 0, none⟩ = some (.slice (some ⟨G, 0, none⟩) (n - 1) rc) := by rw [hw5]; exact World.cell?_setCell_same' _ _ _ (by rw [k4]; rfl)
      have m1 : w5.cell? ⟨w.heap.size + 1 + 1, 0, none⟩ = some (.slice none 0 0) := by rw [hw5, World.cell?_setCell_other _ _ _ _ (by simp <;> omega)]; exact k3
      have m2 : w5.frozen? ⟨w.heap.size + 1 + 1, 0, none⟩ = false := by rw [hw5, World.frozen?_setCell]; exact j0
      have hs5 : v4.heap.size ≤ w5.heap.size := by rw [hw5]; simp [World.setCell]
      have HBl5 : Hid (Below w.heap.size w w5) := by rw [hw5]; exact Lib.hid (HBl.out.setCell (by show _ ≤ v1.heap.size; omega) _)
      have hlen : (L.eraseIdx P).length = n - 1 := by rw [List.length_eraseIdx, if_pos (by omega), hL]
      have HRw : Hid (Row 3 w5 G (G + 1) (.slice (some ⟨G, 0, none⟩) (n - 1) rc) (n - 1) (flat (L.eraseIdx P))) := by rw [hw5]; exact Lib.hid ((HB4.out.row hlen (by omega) (Nat.le_refl _) (Nat.lt_succ_self _)).setCell (p := ⟨v1.heap.size, 0, none⟩) (.inr (by show G + 1 ≤ v1.heap.size; omega)) _)
      have HLn := Lib.hid hlen
      clear c3_0 c3_1 c3_2 c3_3 c3_4 g3_0 g3_1
      clear hlen
      go_upto_region 8 with fail
      rw [← hw5]
      clear hw5 k0 k1 k2 k3 k4 j0 j1
      have r0 : (w5.setCell ⟨w.heap.size + 1 + 1, 0, none⟩ (.slice (some ⟨G, 0, none⟩) (n - 1) rc)).cell? ⟨w.heap.size + 1 + 1, 0, none⟩ = some (.slice (some ⟨G, 0, none⟩) (n - 1) rc) := World.cell?_setCell_same' _ _ _ (by rw [m1]; rfl)
      have Hrow := Lib.hid ((HRw.out.setCell (p := ⟨w.heap.size + 1 + 1, 0, none⟩) (.inl (by show w.heap.size + 1 + 1 < G; omega)) (.slice (some ⟨G, 0, none⟩) (n - 1) rc)).wide (lo' := w.heap.size) (hi' := (w5.setCell ⟨w.heap.size + 1 + 1, 0, none⟩ (.slice (some ⟨G, 0, none⟩) (n - 1) rc)).heap.size) (by omega) (by simp [World.setCell] <;> omega))
      go_wp2_with fail
      refine bodyPost_ret (v := .tuple #[.agg #[.slice (some ⟨G, 0, none⟩) (n - 1) rc], .bool true]) (by simp [results, Try.results15, go_sem, r0]) rfl ⟨_, rfl, ?_, ?_⟩
      · rw [HLn.out]; exact Hrow.out
      · exact HBl5.out.setCell (by show _ ≤ w.heap.size + 1 + 1; omega) _

end Go.Proofs.Ytgdnfglhlpnooaa
