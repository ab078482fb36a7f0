/- AddTop of the model, where it refuses. -/
import Derived.Test.YtophppnllkadoaaS7
namespace Go.Proofs.Ytophppnllkadoaa
open Go.RowKit


set_option maxRecDepth 100000 in
set_option maxHeartbeats 4000000 in
theorem sadd_bad (lo hi n : Nat) (v : Value) (L : List Hv) (key num : Int) (w : World) (hL : L.length = n) (hr : Row 3 w lo hi v n (flat L)) (hh : hi ≤ w.heap.size) (hb : topB L = false ∨ adB key num = false) : Calls Try.prog 44 #[.agg #[v], .int .i64 key, .int .i64 num] w (TabBPost L false w) := by
  have HR := Lib.hid hr
  obtain ⟨ad, cp, rfl, hn, hop⟩ := hr.opened
  have HOP := Lib.hid hop
  clear hr hop
  cases ht : topB L with
  | false =>
    clear hb
    go_enter Try.func44, Try.ntmps44
    go_wp2_with fail
    go_at_call 25
    refine (stop_any lo hi n _ L _ hL (HR.out.below (B := w.heap.size) (by go_grown) (by omega)) (by simp; omega)).mono ?_
    rw [ht]
    rintro e v1 ⟨rfl, hb1⟩
    have sz1 : w.heap.size + 2 ≤ v1.heap.size := by have hh := hb1.size; simp at hh; omega
    have st1 : Below w.heap.size w v1 := Below.trans (by go_grown) (hb1.mono (by simp <;> omega))
    have c1_0 : v1.cell? ⟨w.heap.size, 0, none⟩ = some (.slice ad n cp) := by rw [(bcell hb1).1 _ _ (by simp <;> omega), old_box (by simp <;> omega)]; first | (rw [new_at (by simp)]; rfl) | simp
    have c1_1 : v1.cell? ⟨w.heap.size + 1, 0, none⟩ = some (.slice none 0 0) := by rw [(bcell hb1).1 _ _ (by simp)]; first | (rw [new_at (by simp)]; rfl) | simp
    have g1_0 : v1.frozen? ⟨w.heap.size + 1, 0, none⟩ = false := by rw [(bcell hb1).2 _ _ (by simp), new_frz (by simp)]
    have B1 : Hid (Below w.heap.size w v1) := st1
    have R1_0 : Hid (Row 3 v1 (lo) (hi) (.slice ad n cp) n (flat L)) := HR.out.below st1 (by omega)
    have d1_0 : w.heap.size < v1.heap.size := by omega
    have e1_0 : w.heap.size ≠ v1.heap.size := by omega
    have d1_1 : w.heap.size + 1 < v1.heap.size := by omega
    have e1_1 : w.heap.size + 1 ≠ v1.heap.size := by omega
    have ST1 := Lib.hid st1
    clear st1 HR hb1
    go_wp2_with fail
    go_at_call 77
    refine (scopy_any lo hi n _ L _ hL R1_0.out (by omega)).mono ?_
    rintro e v2 ⟨rv3, rfl, hr3, hb2⟩
    have sz2 : v1.heap.size ≤ v2.heap.size := hb2.size
    have st2 : Below v1.heap.size v1 v2 := hb2
    have c2_0 : v2.cell? ⟨w.heap.size, 0, none⟩ = some (.slice ad n cp) := by rw [(bcell st2).1 _ _ (by omega)]; exact c1_0
    have c2_1 : v2.cell? ⟨w.heap.size + 1, 0, none⟩ = some (.slice none 0 0) := by rw [(bcell st2).1 _ _ (by omega)]; exact c1_1
    have g2_0 : v2.frozen? ⟨w.heap.size + 1, 0, none⟩ = false := by rw [(bcell st2).2 _ _ (by omega)]; exact g1_0
    have B2 : Hid (Below w.heap.size w v2) := B1.out.trans (st2.mono (by omega))
    have R2_0 : Hid (Row 3 v2 (lo) (hi) (.slice ad n cp) n (flat L)) := R1_0.out.below st2 (by omega)
    have d2_0 : w.heap.size < v2.heap.size := by omega
    have e2_0 : w.heap.size ≠ v2.heap.size := by omega
    have d2_1 : w.heap.size + 1 < v2.heap.size := by omega
    have e2_1 : w.heap.size + 1 ≠ v2.heap.size := by omega
    have ST2 := Lib.hid st2
    clear d1_0 e1_0 d1_1 e1_1 c1_0 c1_1 g1_0 B1 st2 R1_0 hb2
    obtain ⟨sa, sc, rfl⟩ := hr3.slice
    rw [hL] at hr3
    have HR3 := Lib.hid hr3
    clear hr3
    have r0 : (v2.setCell ⟨w.heap.size + 1, 0, none⟩ (.slice sa n sc)).cell? ⟨w.heap.size + 1, 0, none⟩ = some (.slice sa n sc) := World.cell?_setCell_same' _ _ _ (by rw [c2_1]; rfl)
    have Hrow := Lib.hid ((HR3.out.setCell (p := ⟨w.heap.size + 1, 0, none⟩) (.inl (by show w.heap.size + 1 < v1.heap.size; omega)) (.slice sa n sc)).wide (lo' := w.heap.size) (hi' := (v2.setCell ⟨w.heap.size + 1, 0, none⟩ (.slice sa n sc)).heap.size) (by omega) (by simp [World.setCell] <;> omega))
    go_wp2_with fail
    refine bodyPost_ret (v := .tuple #[.agg #[.slice sa n sc], .bool false]) (by simp [results, Try.results44, go_sem, r0]) rfl ⟨_, rfl, ?_, ?_⟩
    · rw [hL]; exact Hrow.out
    · exact B2.out.setCell (by show _ ≤ w.heap.size + 1; omega) _
  | true =>
    have ha : adB key num = false := hb.resolve_left (by rw [ht]; simp)
    clear hb
    cases hk : keyB key with
    | false =>
      clear ha
      go_enter Try.func44, Try.ntmps44
      go_wp2_with fail
      go_at_call 25
      refine (stop_any lo hi n _ L _ hL (HR.out.below (B := w.heap.size) (by go_grown) (by omega)) (by simp; omega)).mono ?_
      rw [ht]
      rintro e v1 ⟨rfl, hb1⟩
      have sz1 : w.heap.size + 2 ≤ v1.heap.size := by have hh := hb1.size; simp at hh; omega
      have st1 : Below w.heap.size w v1 := Below.trans (by go_grown) (hb1.mono (by simp <;> omega))
      have c1_0 : v1.cell? ⟨w.heap.size, 0, none⟩ = some (.slice ad n cp) := by rw [(bcell hb1).1 _ _ (by simp <;> omega), old_box (by simp <;> omega)]; first | (rw [new_at (by simp)]; rfl) | simp
      have c1_1 : v1.cell? ⟨w.heap.size + 1, 0, none⟩ = some (.slice none 0 0) := by rw [(bcell hb1).1 _ _ (by simp)]; first | (rw [new_at (by simp)]; rfl) | simp
      have g1_0 : v1.frozen? ⟨w.heap.size + 1, 0, none⟩ = false := by rw [(bcell hb1).2 _ _ (by simp), new_frz (by simp)]
      have B1 : Hid (Below w.heap.size w v1) := st1
      have R1_0 : Hid (Row 3 v1 (lo) (hi) (.slice ad n cp) n (flat L)) := HR.out.below st1 (by omega)
      have d1_0 : w.heap.size < v1.heap.size := by omega
      have e1_0 : w.heap.size ≠ v1.heap.size := by omega
      have d1_1 : w.heap.size + 1 < v1.heap.size := by omega
      have e1_1 : w.heap.size + 1 ≠ v1.heap.size := by omega
      have ST1 := Lib.hid st1
      clear st1 HR hb1
      go_wp2_with fail
      go_at_call 60
      refine (key_any key _).mono ?_
      rw [hk]
      rintro e w' ⟨rfl, rfl⟩
      go_wp2_with fail
      go_at_call 77
      refine (scopy_any lo hi n _ L _ hL R1_0.out (by omega)).mono ?_
      rintro e v2 ⟨rv3, rfl, hr3, hb2⟩
      have sz2 : v1.heap.size ≤ v2.heap.size := hb2.size
      have st2 : Below v1.heap.size v1 v2 := hb2
      have c2_0 : v2.cell? ⟨w.heap.size, 0, none⟩ = some (.slice ad n cp) := by rw [(bcell st2).1 _ _ (by omega)]; exact c1_0
      have c2_1 : v2.cell? ⟨w.heap.size + 1, 0, none⟩ = some (.slice none 0 0) := by rw [(bcell st2).1 _ _ (by omega)]; exact c1_1
      have g2_0 : v2.frozen? ⟨w.heap.size + 1, 0, none⟩ = false := by rw [(bcell st2).2 _ _ (by omega)]; exact g1_0
      have B2 : Hid (Below w.heap.size w v2) := B1.out.trans (st2.mono (by omega))
      have R2_0 : Hid (Row 3 v2 (lo) (hi) (.slice ad n cp) n (flat L)) := R1_0.out.below st2 (by omega)
      have d2_0 : w.heap.size < v2.heap.size := by omega
      have e2_0 : w.heap.size ≠ v2.heap.size := by omega
      have d2_1 : w.heap.size + 1 < v2.heap.size := by omega
      have e2_1 : w.heap.size + 1 ≠ v2.heap.size := by omega
      have ST2 := Lib.hid st2
      clear d1_0 e1_0 d1_1 e1_1 c1_0 c1_1 g1_0 B1 st2 R1_0 hb2
      obtain ⟨sa, sc, rfl⟩ := hr3.slice
      rw [hL] at hr3
      have HR3 := Lib.hid hr3
      clear hr3
      have r0 : (v2.setCell ⟨w.heap.size + 1, 0, none⟩ (.slice sa n sc)).cell? ⟨w.heap.size + 1, 0, none⟩ = some (.slice sa n sc) := World.cell?_setCell_same' _ _ _ (by rw [c2_1]; rfl)
      have Hrow := Lib.hid ((HR3.out.setCell (p := ⟨w.heap.size + 1, 0, none⟩) (.inl (by show w.heap.size + 1 < v1.heap.size; omega)) (.slice sa n sc)).wide (lo' := w.heap.size) (hi' := (v2.setCell ⟨w.heap.size + 1, 0, none⟩ (.slice sa n sc)).heap.size) (by omega) (by simp [World.setCell] <;> omega))
      go_wp2_with fail
      refine bodyPost_ret (v := .tuple #[.agg #[.slice sa n sc], .bool false]) (by simp [results, Try.results44, go_sem, r0]) rfl ⟨_, rfl, ?_, ?_⟩
      · rw [hL]; exact Hrow.out
      · exact B2.out.setCell (by show _ ≤ w.heap.size + 1; omega) _
    | true =>
      have hi2 : inB num 1 1000000 = false := by unfold adB at ha; rw [hk, Bool.true_and] at ha; exact ha
      clear ha
      go_enter Try.func44, Try.ntmps44
      go_wp2_with fail
      go_at_call 25
      refine (stop_any lo hi n _ L _ hL (HR.out.below (B := w.heap.size) (by go_grown) (by omega)) (by simp; omega)).mono ?_
      rw [ht]
      rintro e v1 ⟨rfl, hb1⟩
      have sz1 : w.heap.size + 2 ≤ v1.heap.size := by have hh := hb1.size; simp at hh; omega
      have st1 : Below w.heap.size w v1 := Below.trans (by go_grown) (hb1.mono (by simp <;> omega))
      have c1_0 : v1.cell? ⟨w.heap.size, 0, none⟩ = some (.slice ad n cp) := by rw [(bcell hb1).1 _ _ (by simp <;> omega), old_box (by simp <;> omega)]; first | (rw [new_at (by simp)]; rfl) | simp
      have c1_1 : v1.cell? ⟨w.heap.size + 1, 0, none⟩ = some (.slice none 0 0) := by rw [(bcell hb1).1 _ _ (by simp)]; first | (rw [new_at (by simp)]; rfl) | simp
      have g1_0 : v1.frozen? ⟨w.heap.size + 1, 0, none⟩ = false := by rw [(bcell hb1).2 _ _ (by simp), new_frz (by simp)]
      have B1 : Hid (Below w.heap.size w v1) := st1
      have R1_0 : Hid (Row 3 v1 (lo) (hi) (.slice ad n cp) n (flat L)) := HR.out.below st1 (by omega)
      have d1_0 : w.heap.size < v1.heap.size := by omega
      have e1_0 : w.heap.size ≠ v1.heap.size := by omega
      have d1_1 : w.heap.size + 1 < v1.heap.size := by omega
      have e1_1 : w.heap.size + 1 ≠ v1.heap.size := by omega
      have ST1 := Lib.hid st1
      clear st1 HR hb1
      go_wp2_with fail
      go_at_call 60
      refine (key_any key _).mono ?_
      rw [hk]
      rintro e w' ⟨rfl, rfl⟩
      go_wp2_with fail
      go_at_call 61
      refine (in_any num 1 1000000 _).mono ?_
      rw [hi2]
      rintro e w' ⟨rfl, rfl⟩
      go_wp2_with fail
      go_at_call 77
      refine (scopy_any lo hi n _ L _ hL R1_0.out (by omega)).mono ?_
      rintro e v2 ⟨rv3, rfl, hr3, hb2⟩
      have sz2 : v1.heap.size ≤ v2.heap.size := hb2.size
      have st2 : Below v1.heap.size v1 v2 := hb2
      have c2_0 : v2.cell? ⟨w.heap.size, 0, none⟩ = some (.slice ad n cp) := by rw [(bcell st2).1 _ _ (by omega)]; exact c1_0
      have c2_1 : v2.cell? ⟨w.heap.size + 1, 0, none⟩ = some (.slice none 0 0) := by rw [(bcell st2).1 _ _ (by omega)]; exact c1_1
      have g2_0 : v2.frozen? ⟨w.heap.size + 1, 0, none⟩ = false := by rw [(bcell st2).2 _ _ (by omega)]; exact g1_0
      have B2 : Hid (Below w.heap.size w v2) := B1.out.trans (st2.mono (by omega))
      have R2_0 : Hid (Row 3 v2 (lo) (hi) (.slice ad n cp) n (flat L)) := R1_0.out.below st2 (by omega)
      have d2_0 : w.heap.size < v2.heap.size := by omega
      have e2_0 : w.heap.size ≠ v2.heap.size := by omega
      have d2_1 : w.heap.size + 1 < v2.heap.size := by omega
      have e2_1 : w.heap.size + 1 ≠ v2.heap.size := by omega
      have ST2 := Lib.hid st2
      clear d1_0 e1_0 d1_1 e1_1 c1_0 c1_1 g1_0 B1 st2 R1_0 hb2
      obtain ⟨sa, sc, rfl⟩ := hr3.slice
      rw [hL] at hr3
      have HR3 := Lib.hid hr3
      clear hr3
      have r0 : (v2.setCell ⟨w.heap.size + 1, 0, none⟩ (.slice sa n sc)).cell? ⟨w.heap.size + 1, 0, none⟩ = some (.slice sa n sc) := World.cell?_setCell_same' _ _ _ (by rw [c2_1]; rfl)
      have Hrow := Lib.hid ((HR3.out.setCell (p := ⟨w.heap.size + 1, 0, none⟩) (.inl (by show w.heap.size + 1 < v1.heap.size; omega)) (.slice sa n sc)).wide (lo' := w.heap.size) (hi' := (v2.setCell ⟨w.heap.size + 1, 0, none⟩ (.slice sa n sc)).heap.size) (by omega) (by simp [World.setCell] <;> omega))
      go_wp2_with fail
      refine bodyPost_ret (v := .tuple #[.agg #[.slice sa n sc], .bool false]) (by simp [results, Try.results44, go_sem, r0]) rfl ⟨_, rfl, ?_, ?_⟩
      · rw [hL]; exact Hrow.out
      · exact B2.out.setCell (by show _ ≤ w.heap.size + 1; omega) _

/-- As HRS, the list a slice of its first elements. -/
structure HRW (w3 wr : World) (X : Nat) (h : Hv) (v : Value) (O : List Hv) : Prop where
  below : Below X w3 wr
  lt : X < w3.heap.size
  c0 : wr.cell? ⟨X, 0, none⟩ = some (.int .i64 h.1)
  c1 : wr.cell? ⟨X, 1, none⟩ = some (.int .i64 h.2.1)
  c2 : wr.cell? ⟨X, 2, none⟩ = some (.int .i64 h.2.2)
  row : Row 3 wr (X + 1) wr.heap.size v O.length (flat O)
theorem HRS.toW {w3 wr : World} {X : Nat} {h : Hv} {v : Value} {O : List Hv} (s : HRS w3 wr X h v O) (hl : O.length ≤ 1100000) : HRW w3 wr X h v O := ⟨s.below, s.lt, s.c0, s.c1, s.c2, s.row hl⟩

end Go.Proofs.Ytophppnllkadoaa
