/- The hop of a node: both sides. -/
import Derived.Test.YtjenjdhoblcohaaOa
import Derived.Test.YtjenjdhoblcohaaKq
import Derived.Test.YtjenjdhoblcohaaWj
import Derived.Test.YtjenjdhoblcohaaLm
namespace Go.Proofs.Ytjenjdhoblcohaa
open Go.RowKit


set_option maxRecDepth 100000 in
set_option maxHeartbeats 4000000 in
theorem shv_no0 (N : Int) (lo hi n : Nat) (v : Value) (L : List Ed) (x d : Int) (w : World) (hL : L.length = n) (hr : Row 3 w lo hi v n (flat L)) (hh : hi ≤ w.heap.size) (hn : gok N L = false) :
    Calls Try.prog 12 #[.agg #[.int .i64 N, v], .int .i64 x, .int .i64 d] w fun e w' => e = .returned (.int .i64 (hopV N L x d)) ∧ Below w.heap.size w w' := by
  have HR := Lib.hid hr
  have Hn := Lib.hid hn
  rw [hopV_no (fun h => by rw [h.1] at hn; cases hn)]
  obtain ⟨ad, cp, rfl⟩ := hr.slice
  clear hr hn
  go_enter Try.func12, Try.ntmps12
  go_wp2_with fail
  go_at_call 47
  refine (sgok_any N lo hi n _ L _ hL (HR.out.below (B := w.heap.size) (by go_grown) (by omega)) (by simp; omega)).mono ?_
  rw [Hn.out]
  rintro e v1 ⟨rfl, hb1⟩
  have sz1 : w.heap.size + 1 ≤ v1.heap.size := by have hh := hb1.size; simp at hh; omega
  have st1 : Below w.heap.size w v1 := Below.trans (by go_grown) (hb1.mono (by simp))
  have c1_0 : v1.cell? ⟨w.heap.size, 0, none⟩ = some (.int .i64 N) := by rw [(bcell hb1).1 _ _ (by simp)]; first | (rw [new_at (by simp)]; rfl) | simp
  have c1_1 : v1.cell? ⟨w.heap.size, 1, none⟩ = some (.slice ad n cp) := by rw [(bcell hb1).1 _ _ (by simp)]; first | (rw [new_at (by simp)]; rfl) | simp
  have B1 : Hid (Below w.heap.size w v1) := st1
  have R1_0 : Hid (Row 3 v1 (lo) (hi) (.slice ad n cp) n (flat L)) := HR.out.below st1 (by omega)
  have d1_0 : w.heap.size < v1.heap.size := by omega
  have e1_0 : w.heap.size ≠ v1.heap.size := by omega
  clear st1 HR hb1
  go_wp2_with fail
  go_ret
  exact ⟨rfl, B1.out⟩

set_option maxRecDepth 100000 in
set_option maxHeartbeats 4000000 in
theorem shv_no1 (N : Int) (lo hi n : Nat) (v : Value) (L : List Ed) (x d : Int) (w : World) (hL : L.length = n) (hr : Row 3 w lo hi v n (flat L)) (hh : hi ≤ w.heap.size) (hn : gok N L = true ∧ ndB N x = false) :
    Calls Try.prog 12 #[.agg #[.int .i64 N, v], .int .i64 x, .int .i64 d] w fun e w' => e = .returned (.int .i64 (hopV N L x d)) ∧ Below w.heap.size w w' := by
  have HR := Lib.hid hr
  have Hn := Lib.hid hn
  rw [hopV_no (fun h => by rw [h.2.1] at hn; cases hn.2)]
  obtain ⟨ad, cp, rfl⟩ := hr.slice
  clear hr hn
  have hN1 := (gok_parts Hn.out.1).1
  have hN2 := (gok_parts Hn.out.1).2.1
  go_enter Try.func12, Try.ntmps12
  go_wp2_with fail
  go_at_call 47
  refine (sgok_any N lo hi n _ L _ hL (HR.out.below (B := w.heap.size) (by go_grown) (by omega)) (by simp; omega)).mono ?_
  rw [Hn.out.1]
  rintro e v1 ⟨rfl, hb1⟩
  have sz1 : w.heap.size + 1 ≤ v1.heap.size := by have hh := hb1.size; simp at hh; omega
  have st1 : Below w.heap.size w v1 := Below.trans (by go_grown) (hb1.mono (by simp))
  have c1_0 : v1.cell? ⟨w.heap.size, 0, none⟩ = some (.int .i64 N) := by rw [(bcell hb1).1 _ _ (by simp)]; first | (rw [new_at (by simp)]; rfl) | simp
  have c1_1 : v1.cell? ⟨w.heap.size, 1, none⟩ = some (.slice ad n cp) := by rw [(bcell hb1).1 _ _ (by simp)]; first | (rw [new_at (by simp)]; rfl) | simp
  have B1 : Hid (Below w.heap.size w v1) := st1
  have R1_0 : Hid (Row 3 v1 (lo) (hi) (.slice ad n cp) n (flat L)) := HR.out.below st1 (by omega)
  have d1_0 : w.heap.size < v1.heap.size := by omega
  have e1_0 : w.heap.size ≠ v1.heap.size := by omega
  clear st1 HR hb1
  go_wp2_with fail
  go_at_call 48
  refine (node_any N _ _ _ x _ hN1 hN2).mono ?_
  rw [Hn.out.2]
  rintro e v2 ⟨rfl, hb2⟩
  have sz2 : v1.heap.size ≤ v2.heap.size := hb2.size
  have st2 : Below v1.heap.size v1 v2 := hb2
  have c2_0 : v2.cell? ⟨w.heap.size, 0, none⟩ = some (.int .i64 N) := by rw [(bcell st2).1 _ _ (by omega)]; exact c1_0
  have c2_1 : v2.cell? ⟨w.heap.size, 1, none⟩ = some (.slice ad n cp) := by rw [(bcell st2).1 _ _ (by omega)]; exact c1_1
  have B2 : Hid (Below w.heap.size w v2) := B1.out.trans (st2.mono (by omega))
  have R2_0 : Hid (Row 3 v2 (lo) (hi) (.slice ad n cp) n (flat L)) := R1_0.out.below st2 (by omega)
  have d2_0 : w.heap.size < v2.heap.size := by omega
  have e2_0 : w.heap.size ≠ v2.heap.size := by omega
  clear d1_0 e1_0 c1_0 c1_1 B1 st2 R1_0 hb2
  go_wp2_with fail
  go_ret
  exact ⟨rfl, B2.out⟩

set_option maxRecDepth 100000 in
set_option maxHeartbeats 4000000 in
theorem shv_no2 (N : Int) (lo hi n : Nat) (v : Value) (L : List Ed) (x d : Int) (w : World) (hL : L.length = n) (hr : Row 3 w lo hi v n (flat L)) (hh : hi ≤ w.heap.size) (hn : gok N L = true ∧ ndB N x = true ∧ ndB N d = false) :
    Calls Try.prog 12 #[.agg #[.int .i64 N, v], .int .i64 x, .int .i64 d] w fun e w' => e = .returned (.int .i64 (hopV N L x d)) ∧ Below w.heap.size w w' := by
  have HR := Lib.hid hr
  have Hn := Lib.hid hn
  rw [hopV_no (fun h => by rw [h.2.2] at hn; cases hn.2.2)]
  obtain ⟨ad, cp, rfl⟩ := hr.slice
  clear hr hn
  have hN1 := (gok_parts Hn.out.1).1
  have hN2 := (gok_parts Hn.out.1).2.1
  go_enter Try.func12, Try.ntmps12
  go_wp2_with fail
  go_at_call 47
  refine (sgok_any N lo hi n _ L _ hL (HR.out.below (B := w.heap.size) (by go_grown) (by omega)) (by simp; omega)).mono ?_
  rw [Hn.out.1]
  rintro e v1 ⟨rfl, hb1⟩
  have sz1 : w.heap.size + 1 ≤ v1.heap.size := by have hh := hb1.size; simp at hh; omega
  have st1 : Below w.heap.size w v1 := Below.trans (by go_grown) (hb1.mono (by simp))
  have c1_0 : v1.cell? ⟨w.heap.size, 0, none⟩ = some (.int .i64 N) := by rw [(bcell hb1).1 _ _ (by simp)]; first | (rw [new_at (by simp)]; rfl) | simp
  have c1_1 : v1.cell? ⟨w.heap.size, 1, none⟩ = some (.slice ad n cp) := by rw [(bcell hb1).1 _ _ (by simp)]; first | (rw [new_at (by simp)]; rfl) | simp
  have B1 : Hid (Below w.heap.size w v1) := st1
  have R1_0 : Hid (Row 3 v1 (lo) (hi) (.slice ad n cp) n (flat L)) := HR.out.below st1 (by omega)
  have d1_0 : w.heap.size < v1.heap.size := by omega
  have e1_0 : w.heap.size ≠ v1.heap.size := by omega
  clear st1 HR hb1
  go_wp2_with fail
  go_at_call 48
  refine (node_any N _ _ _ x _ hN1 hN2).mono ?_
  rw [Hn.out.2.1]
  rintro e v2 ⟨rfl, hb2⟩
  have sz2 : v1.heap.size ≤ v2.heap.size := hb2.size
  have st2 : Below v1.heap.size v1 v2 := hb2
  have c2_0 : v2.cell? ⟨w.heap.size, 0, none⟩ = some (.int .i64 N) := by rw [(bcell st2).1 _ _ (by omega)]; exact c1_0
  have c2_1 : v2.cell? ⟨w.heap.size, 1, none⟩ = some (.slice ad n cp) := by rw [(bcell st2).1 _ _ (by omega)]; exact c1_1
  have B2 : Hid (Below w.heap.size w v2) := B1.out.trans (st2.mono (by omega))
  have R2_0 : Hid (Row 3 v2 (lo) (hi) (.slice ad n cp) n (flat L)) := R1_0.out.below st2 (by omega)
  have d2_0 : w.heap.size < v2.heap.size := by omega
  have e2_0 : w.heap.size ≠ v2.heap.size := by omega
  clear d1_0 e1_0 c1_0 c1_1 B1 st2 R1_0 hb2
  go_wp2_with fail
  go_at_call 48
  refine (node_any N _ _ _ d _ hN1 hN2).mono ?_
  rw [Hn.out.2.2]
  rintro e v3 ⟨rfl, hb3⟩
  have sz3 : v2.heap.size ≤ v3.heap.size := hb3.size
  have st3 : Below v2.heap.size v2 v3 := hb3
  have c3_0 : v3.cell? ⟨w.heap.size, 0, none⟩ = some (.int .i64 N) := by rw [(bcell st3).1 _ _ (by omega)]; exact c2_0
  have c3_1 : v3.cell? ⟨w.heap.size, 1, none⟩ = some (.slice ad n cp) := by rw [(bcell st3).1 _ _ (by omega)]; exact c2_1
  have B3 : Hid (Below w.heap.size w v3) := B2.out.trans (st3.mono (by omega))
  have R3_0 : Hid (Row 3 v3 (lo) (hi) (.slice ad n cp) n (flat L)) := R2_0.out.below st3 (by omega)
  have d3_0 : w.heap.size < v3.heap.size := by omega
  have e3_0 : w.heap.size ≠ v3.heap.size := by omega
  clear d2_0 e2_0 c2_0 c2_1 B2 st3 R2_0 hb3
  go_wp2_with fail
  go_ret
  exact ⟨rfl, B3.out⟩

set_option maxRecDepth 100000 in
set_option maxHeartbeats 4000000 in
theorem shv_yes (N : Int) (lo hi n : Nat) (v : Value) (L : List Ed) (x d : Int) (w : World) (hL : L.length = n) (hr : Row 3 w lo hi v n (flat L)) (hh : hi ≤ w.heap.size) (hn : gok N L = true ∧ ndB N x = true ∧ ndB N d = true) :
    Calls Try.prog 12 #[.agg #[.int .i64 N, v], .int .i64 x, .int .i64 d] w fun e w' => e = .returned (.int .i64 (hopV N L x d)) ∧ Below w.heap.size w w' := by
  have HR := Lib.hid hr
  have Hn := Lib.hid hn
  have hN1 := (gok_parts Hn.out.1).1
  have hN2 := (gok_parts Hn.out.1).2.1
  obtain ⟨ad, cp, rfl⟩ := hr.slice
  clear hr hn
  by_cases hxd : x = d
  · subst hxd
    have e1 : (x == x) = true := by simp
    rw [hopV_self Hn.out.1 Hn.out.2.2]
    go_enter Try.func12, Try.ntmps12
    go_wp2_with fail
    go_at_call 47
    refine (sgok_any N lo hi n _ L _ hL (HR.out.below (B := w.heap.size) (by go_grown) (by omega)) (by simp; omega)).mono ?_
    rw [Hn.out.1]
    rintro e v1 ⟨rfl, hb1⟩
    have sz1 : w.heap.size + 1 ≤ v1.heap.size := by have hh := hb1.size; simp at hh; omega
    have st1 : Below w.heap.size w v1 := Below.trans (by go_grown) (hb1.mono (by simp))
    have c1_0 : v1.cell? ⟨w.heap.size, 0, none⟩ = some (.int .i64 N) := by rw [(bcell hb1).1 _ _ (by simp)]; first | (rw [new_at (by simp)]; rfl) | simp
    have c1_1 : v1.cell? ⟨w.heap.size, 1, none⟩ = some (.slice ad n cp) := by rw [(bcell hb1).1 _ _ (by simp)]; first | (rw [new_at (by simp)]; rfl) | simp
    have B1 : Hid (Below w.heap.size w v1) := st1
    have R1_0 : Hid (Row 3 v1 (lo) (hi) (.slice ad n cp) n (flat L)) := HR.out.below st1 (by omega)
    have d1_0 : w.heap.size < v1.heap.size := by omega
    have e1_0 : w.heap.size ≠ v1.heap.size := by omega
    clear st1 HR hb1
    go_wp2_with fail
    go_at_call 48
    refine (node_any N _ _ _ x _ hN1 hN2).mono ?_
    rw [Hn.out.2.1]
    rintro e v2 ⟨rfl, hb2⟩
    have sz2 : v1.heap.size ≤ v2.heap.size := hb2.size
    have st2 : Below v1.heap.size v1 v2 := hb2
    have c2_0 : v2.cell? ⟨w.heap.size, 0, none⟩ = some (.int .i64 N) := by rw [(bcell st2).1 _ _ (by omega)]; exact c1_0
    have c2_1 : v2.cell? ⟨w.heap.size, 1, none⟩ = some (.slice ad n cp) := by rw [(bcell st2).1 _ _ (by omega)]; exact c1_1
    have B2 : Hid (Below w.heap.size w v2) := B1.out.trans (st2.mono (by omega))
    have R2_0 : Hid (Row 3 v2 (lo) (hi) (.slice ad n cp) n (flat L)) := R1_0.out.below st2 (by omega)
    have d2_0 : w.heap.size < v2.heap.size := by omega
    have e2_0 : w.heap.size ≠ v2.heap.size := by omega
    clear d1_0 e1_0 c1_0 c1_1 B1 st2 R1_0 hb2
    go_wp2_with fail
    go_at_call 48
    refine (node_any N _ _ _ x _ hN1 hN2).mono ?_
    rw [Hn.out.2.2]
    rintro e v3 ⟨rfl, hb3⟩
    have sz3 : v2.heap.size ≤ v3.heap.size := hb3.size
    have st3 : Below v2.heap.size v2 v3 := hb3
    have c3_0 : v3.cell? ⟨w.heap.size, 0, none⟩ = some (.int .i64 N) := by rw [(bcell st3).1 _ _ (by omega)]; exact c2_0
    have c3_1 : v3.cell? ⟨w.heap.size, 1, none⟩ = some (.slice ad n cp) := by rw [(bcell st3).1 _ _ (by omega)]; exact c2_1
    have B3 : Hid (Below w.heap.size w v3) := B2.out.trans (st3.mono (by omega))
    have R3_0 : Hid (Row 3 v3 (lo) (hi) (.slice ad n cp) n (flat L)) := R2_0.out.below st3 (by omega)
    have d3_0 : w.heap.size < v3.heap.size := by omega
    have e3_0 : w.heap.size ≠ v3.heap.size := by omega
    clear d2_0 e2_0 c2_0 c2_1 B2 st3 R2_0 hb3
    go_wp2_with fail
    go_ret
    exact ⟨rfl, B3.out⟩
  · have e1 : (x == d) = false := by simp [hxd]
    rw [hopV_ne Hn.out.1 Hn.out.2.1 Hn.out.2.2 hxd]
    clear hxd
    go_enter Try.func12, Try.ntmps12
    go_wp2_with fail
    go_at_call 47
    refine (sgok_any N lo hi n _ L _ hL (HR.out.below (B := w.heap.size) (by go_grown) (by omega)) (by simp; omega)).mono ?_
    rw [Hn.out.1]
    rintro e v1 ⟨rfl, hb1⟩
    have sz1 : w.heap.size + 1 ≤ v1.heap.size := by have hh := hb1.size; simp at hh; omega
    have st1 : Below w.heap.size w v1 := Below.trans (by go_grown) (hb1.mono (by simp))
    have c1_0 : v1.cell? ⟨w.heap.size, 0, none⟩ = some (.int .i64 N) := by rw [(bcell hb1).1 _ _ (by simp)]; first | (rw [new_at (by simp)]; rfl) | simp
    have c1_1 : v1.cell? ⟨w.heap.size, 1, none⟩ = some (.slice ad n cp) := by rw [(bcell hb1).1 _ _ (by simp)]; first | (rw [new_at (by simp)]; rfl) | simp
    have B1 : Hid (Below w.heap.size w v1) := st1
    have R1_0 : Hid (Row 3 v1 (lo) (hi) (.slice ad n cp) n (flat L)) := HR.out.below st1 (by omega)
    have d1_0 : w.heap.size < v1.heap.size := by omega
    have e1_0 : w.heap.size ≠ v1.heap.size := by omega
    clear st1 HR hb1
    go_wp2_with fail
    go_at_call 48
    refine (node_any N _ _ _ x _ hN1 hN2).mono ?_
    rw [Hn.out.2.1]
    rintro e v2 ⟨rfl, hb2⟩
    have sz2 : v1.heap.size ≤ v2.heap.size := hb2.size
    have st2 : Below v1.heap.size v1 v2 := hb2
    have c2_0 : v2.cell? ⟨w.heap.size, 0, none⟩ = some (.int .i64 N) := by rw [(bcell st2).1 _ _ (by omega)]; exact c1_0
    have c2_1 : v2.cell? ⟨w.heap.size, 1, none⟩ = some (.slice ad n cp) := by rw [(bcell st2).1 _ _ (by omega)]; exact c1_1
    have B2 : Hid (Below w.heap.size w v2) := B1.out.trans (st2.mono (by omega))
    have R2_0 : Hid (Row 3 v2 (lo) (hi) (.slice ad n cp) n (flat L)) := R1_0.out.below st2 (by omega)
    have d2_0 : w.heap.size < v2.heap.size := by omega
    have e2_0 : w.heap.size ≠ v2.heap.size := by omega
    clear d1_0 e1_0 c1_0 c1_1 B1 st2 R1_0 hb2
    go_wp2_with fail
    go_at_call 48
    refine (node_any N _ _ _ d _ hN1 hN2).mono ?_
    rw [Hn.out.2.2]
    rintro e v3 ⟨rfl, hb3⟩
    have sz3 : v2.heap.size ≤ v3.heap.size := hb3.size
    have st3 : Below v2.heap.size v2 v3 := hb3
    have c3_0 : v3.cell? ⟨w.heap.size, 0, none⟩ = some (.int .i64 N) := by rw [(bcell st3).1 _ _ (by omega)]; exact c2_0
    have c3_1 : v3.cell? ⟨w.heap.size, 1, none⟩ = some (.slice ad n cp) := by rw [(bcell st3).1 _ _ (by omega)]; exact c2_1
    have B3 : Hid (Below w.heap.size w v3) := B2.out.trans (st3.mono (by omega))
    have R3_0 : Hid (Row 3 v3 (lo) (hi) (.slice ad n cp) n (flat L)) := R2_0.out.below st3 (by omega)
    have d3_0 : w.heap.size < v3.heap.size := by omega
    have e3_0 : w.heap.size ≠ v3.heap.size := by omega
    clear d2_0 e2_0 c2_0 c2_1 B2 st3 R2_0 hb3
    go_wp2_with fail
    go_at_call 49
    refine (shop_any N lo hi n _ L x d _ hL R3_0.out (by omega)).mono ?_
    rintro e w5 ⟨rv, rfl, hrow, hb5⟩
    have HB5 : Hid (Below w.heap.size w w5) := B3.out.trans (hb5.mono (by omega))
    clear hb5
    obtain ⟨Z, hZ⟩ : ∃ Z, hopsL N L x d = Z := ⟨_, rfl⟩
    rw [hZ] at hrow
    have HZ := Lib.hid hZ
    clear hZ
    cases Z with
    | nil =>
      obtain ⟨ra, rc, rfl⟩ := hrow.slice
      clear hrow
      go_wp2_with fail
      go_ret
      exact ⟨by rw [HZ.out]; rfl, HB5.out⟩
    | cons z l =>
      obtain ⟨g, c, rfl, _, hg, hc⟩ := row_cells (by simp) hrow
      have z0 : w5.cell? ⟨g, 0, none⟩ = some (.int .i64 z) := hc 0 z rfl
      obtain ⟨m, hm⟩ : ∃ m, m = (z :: l).length := ⟨_, rfl⟩
      have hm1 : 1 ≤ m := by rw [hm]; simp
      rw [← hm]
      have q1 : ((m : Int) == 0) = false := by simp; omega
      have q2 : (0 : Int) < (m : Int) := by omega
      clear hrow hc hm
      go_wp2_with fail
      go_ret
      exact ⟨by rw [HZ.out]; rfl, HB5.out⟩

theorem shv_any (N : Int) (lo hi n : Nat) (v : Value) (L : List Ed) (x d : Int) (w : World) (hL : L.length = n) (hr : Row 3 w lo hi v n (flat L)) (hh : hi ≤ w.heap.size) :
    Calls Try.prog 12 #[.agg #[.int .i64 N, v], .int .i64 x, .int .i64 d] w fun e w' => e = .returned (.int .i64 (hopV N L x d)) ∧ Below w.heap.size w w' := by
  by_cases hG : gok N L = true
  · by_cases hx : ndB N x = true
    · by_cases hd : ndB N d = true
      · exact shv_yes N lo hi n v L x d w hL hr hh ⟨hG, hx, hd⟩
      · exact shv_no2 N lo hi n v L x d w hL hr hh ⟨hG, hx, by simpa using hd⟩
    · exact shv_no1 N lo hi n v L x d w hL hr hh ⟨hG, by simpa using hx⟩
  · exact shv_no0 N lo hi n v L x d w hL hr hh (by simpa using hG)

set_option maxRecDepth 100000 in
set_option maxHeartbeats 4000000 in
theorem ihv_no0 (N : Int) (lo hi n : Nat) (v : Value) (L : List Ed) (x d : Int) (w : World) (hL : L.length = n) (hr : Row 3 w lo hi v n (flat L)) (hh : hi ≤ w.heap.size) (hn : gok N L = false) :
    Calls Try.prog 14 #[.agg #[.int .i64 N, v], .int .i64 x, .int .i64 d] w fun e w' => e = .returned (.int .i64 (hopV N L x d)) ∧ Below w.heap.size w w' := by
  have HR := Lib.hid hr
  have Hn := Lib.hid hn
  rw [hopV_no (fun h => by rw [h.1] at hn; cases hn)]
  obtain ⟨ad, cp, rfl⟩ := hr.slice
  clear hr hn
  go_enter Try.func14, Try.ntmps14
  go_wp2_with fail
  go_at_call 51
  refine (igok_any N lo hi n _ L _ hL (HR.out.below (B := w.heap.size) (by go_grown) (by omega)) (by simp; omega)).mono ?_
  rw [Hn.out]
  rintro e v1 ⟨rfl, hb1⟩
  have sz1 : w.heap.size + 1 ≤ v1.heap.size := by have hh := hb1.size; simp at hh; omega
  have st1 : Below w.heap.size w v1 := Below.trans (by go_grown) (hb1.mono (by simp))
  have c1_0 : v1.cell? ⟨w.heap.size, 0, none⟩ = some (.int .i64 N) := by rw [(bcell hb1).1 _ _ (by simp)]; first | (rw [new_at (by simp)]; rfl) | simp
  have c1_1 : v1.cell? ⟨w.heap.size, 1, none⟩ = some (.slice ad n cp) := by rw [(bcell hb1).1 _ _ (by simp)]; first | (rw [new_at (by simp)]; rfl) | simp
  have B1 : Hid (Below w.heap.size w v1) := st1
  have R1_0 : Hid (Row 3 v1 (lo) (hi) (.slice ad n cp) n (flat L)) := HR.out.below st1 (by omega)
  have d1_0 : w.heap.size < v1.heap.size := by omega
  have e1_0 : w.heap.size ≠ v1.heap.size := by omega
  clear st1 HR hb1
  go_wp2_with fail
  go_ret
  exact ⟨rfl, B1.out⟩

set_option maxRecDepth 100000 in
set_option maxHeartbeats 4000000 in
theorem ihv_no1 (N : Int) (lo hi n : Nat) (v : Value) (L : List Ed) (x d : Int) (w : World) (hL : L.length = n) (hr : Row 3 w lo hi v n (flat L)) (hh : hi ≤ w.heap.size) (hn : gok N L = true ∧ ndB N x = false) :
    Calls Try.prog 14 #[.agg #[.int .i64 N, v], .int .i64 x, .int .i64 d] w fun e w' => e = .returned (.int .i64 (hopV N L x d)) ∧ Below w.heap.size w w' := by
  have HR := Lib.hid hr
  have Hn := Lib.hid hn
  rw [hopV_no (fun h => by rw [h.2.1] at hn; cases hn.2)]
  obtain ⟨ad, cp, rfl⟩ := hr.slice
  clear hr hn
  have hN1 := (gok_parts Hn.out.1).1
  have hN2 := (gok_parts Hn.out.1).2.1
  go_enter Try.func14, Try.ntmps14
  go_wp2_with fail
  go_at_call 51
  refine (igok_any N lo hi n _ L _ hL (HR.out.below (B := w.heap.size) (by go_grown) (by omega)) (by simp; omega)).mono ?_
  rw [Hn.out.1]
  rintro e v1 ⟨rfl, hb1⟩
  have sz1 : w.heap.size + 1 ≤ v1.heap.size := by have hh := hb1.size; simp at hh; omega
  have st1 : Below w.heap.size w v1 := Below.trans (by go_grown) (hb1.mono (by simp))
  have c1_0 : v1.cell? ⟨w.heap.size, 0, none⟩ = some (.int .i64 N) := by rw [(bcell hb1).1 _ _ (by simp)]; first | (rw [new_at (by simp)]; rfl) | simp
  have c1_1 : v1.cell? ⟨w.heap.size, 1, none⟩ = some (.slice ad n cp) := by rw [(bcell hb1).1 _ _ (by simp)]; first | (rw [new_at (by simp)]; rfl) | simp
  have B1 : Hid (Below w.heap.size w v1) := st1
  have R1_0 : Hid (Row 3 v1 (lo) (hi) (.slice ad n cp) n (flat L)) := HR.out.below st1 (by omega)
  have d1_0 : w.heap.size < v1.heap.size := by omega
  have e1_0 : w.heap.size ≠ v1.heap.size := by omega
  clear st1 HR hb1
  go_wp2_with fail
  go_at_call 52
  refine (hasNode_any N _ _ _ x _).mono ?_
  rw [Hn.out.2]
  rintro e v2 ⟨rfl, hb2⟩
  have sz2 : v1.heap.size ≤ v2.heap.size := hb2.size
  have st2 : Below v1.heap.size v1 v2 := hb2
  have c2_0 : v2.cell? ⟨w.heap.size, 0, none⟩ = some (.int .i64 N) := by rw [(bcell st2).1 _ _ (by omega)]; exact c1_0
  have c2_1 : v2.cell? ⟨w.heap.size, 1, none⟩ = some (.slice ad n cp) := by rw [(bcell st2).1 _ _ (by omega)]; exact c1_1
  have B2 : Hid (Below w.heap.size w v2) := B1.out.trans (st2.mono (by omega))
  have R2_0 : Hid (Row 3 v2 (lo) (hi) (.slice ad n cp) n (flat L)) := R1_0.out.below st2 (by omega)
  have d2_0 : w.heap.size < v2.heap.size := by omega
  have e2_0 : w.heap.size ≠ v2.heap.size := by omega
  clear d1_0 e1_0 c1_0 c1_1 B1 st2 R1_0 hb2
  go_wp2_with fail
  go_ret
  exact ⟨rfl, B2.out⟩

set_option maxRecDepth 100000 in
set_option maxHeartbeats 4000000 in
theorem ihv_no2 (N : Int) (lo hi n : Nat) (v : Value) (L : List Ed) (x d : Int) (w : World) (hL : L.length = n) (hr : Row 3 w lo hi v n (flat L)) (hh : hi ≤ w.heap.size) (hn : gok N L = true ∧ ndB N x = true ∧ ndB N d = false) :
    Calls Try.prog 14 #[.agg #[.int .i64 N, v], .int .i64 x, .int .i64 d] w fun e w' => e = .returned (.int .i64 (hopV N L x d)) ∧ Below w.heap.size w w' := by
  have HR := Lib.hid hr
  have Hn := Lib.hid hn
  rw [hopV_no (fun h => by rw [h.2.2] at hn; cases hn.2.2)]
  obtain ⟨ad, cp, rfl⟩ := hr.slice
  clear hr hn
  have hN1 := (gok_parts Hn.out.1).1
  have hN2 := (gok_parts Hn.out.1).2.1
  go_enter Try.func14, Try.ntmps14
  go_wp2_with fail
  go_at_call 51
  refine (igok_any N lo hi n _ L _ hL (HR.out.below (B := w.heap.size) (by go_grown) (by omega)) (by simp; omega)).mono ?_
  rw [Hn.out.1]
  rintro e v1 ⟨rfl, hb1⟩
  have sz1 : w.heap.size + 1 ≤ v1.heap.size := by have hh := hb1.size; simp at hh; omega
  have st1 : Below w.heap.size w v1 := Below.trans (by go_grown) (hb1.mono (by simp))
  have c1_0 : v1.cell? ⟨w.heap.size, 0, none⟩ = some (.int .i64 N) := by rw [(bcell hb1).1 _ _ (by simp)]; first | (rw [new_at (by simp)]; rfl) | simp
  have c1_1 : v1.cell? ⟨w.heap.size, 1, none⟩ = some (.slice ad n cp) := by rw [(bcell hb1).1 _ _ (by simp)]; first | (rw [new_at (by simp)]; rfl) | simp
  have B1 : Hid (Below w.heap.size w v1) := st1
  have R1_0 : Hid (Row 3 v1 (lo) (hi) (.slice ad n cp) n (flat L)) := HR.out.below st1 (by omega)
  have d1_0 : w.heap.size < v1.heap.size := by omega
  have e1_0 : w.heap.size ≠ v1.heap.size := by omega
  clear st1 HR hb1
  go_wp2_with fail
  go_at_call 52
  refine (hasNode_any N _ _ _ x _).mono ?_
  rw [Hn.out.2.1]
  rintro e v2 ⟨rfl, hb2⟩
  have sz2 : v1.heap.size ≤ v2.heap.size := hb2.size
  have st2 : Below v1.heap.size v1 v2 := hb2
  have c2_0 : v2.cell? ⟨w.heap.size, 0, none⟩ = some (.int .i64 N) := by rw [(bcell st2).1 _ _ (by omega)]; exact c1_0
  have c2_1 : v2.cell? ⟨w.heap.size, 1, none⟩ = some (.slice ad n cp) := by rw [(bcell st2).1 _ _ (by omega)]; exact c1_1
  have B2 : Hid (Below w.heap.size w v2) := B1.out.trans (st2.mono (by omega))
  have R2_0 : Hid (Row 3 v2 (lo) (hi) (.slice ad n cp) n (flat L)) := R1_0.out.below st2 (by omega)
  have d2_0 : w.heap.size < v2.heap.size := by omega
  have e2_0 : w.heap.size ≠ v2.heap.size := by omega
  clear d1_0 e1_0 c1_0 c1_1 B1 st2 R1_0 hb2
  go_wp2_with fail
  go_at_call 52
  refine (hasNode_any N _ _ _ d _).mono ?_
  rw [Hn.out.2.2]
  rintro e v3 ⟨rfl, hb3⟩
  have sz3 : v2.heap.size ≤ v3.heap.size := hb3.size
  have st3 : Below v2.heap.size v2 v3 := hb3
  have c3_0 : v3.cell? ⟨w.heap.size, 0, none⟩ = some (.int .i64 N) := by rw [(bcell st3).1 _ _ (by omega)]; exact c2_0
  have c3_1 : v3.cell? ⟨w.heap.size, 1, none⟩ = some (.slice ad n cp) := by rw [(bcell st3).1 _ _ (by omega)]; exact c2_1
  have B3 : Hid (Below w.heap.size w v3) := B2.out.trans (st3.mono (by omega))
  have R3_0 : Hid (Row 3 v3 (lo) (hi) (.slice ad n cp) n (flat L)) := R2_0.out.below st3 (by omega)
  have d3_0 : w.heap.size < v3.heap.size := by omega
  have e3_0 : w.heap.size ≠ v3.heap.size := by omega
  clear d2_0 e2_0 c2_0 c2_1 B2 st3 R2_0 hb3
  go_wp2_with fail
  go_ret
  exact ⟨rfl, B3.out⟩

set_option maxRecDepth 100000 in
set_option maxHeartbeats 4000000 in
theorem ihv_yes (N : Int) (lo hi n : Nat) (v : Value) (L : List Ed) (x d : Int) (w : World) (hL : L.length = n) (hr : Row 3 w lo hi v n (flat L)) (hh : hi ≤ w.heap.size) (hn : gok N L = true ∧ ndB N x = true ∧ ndB N d = true) :
    Calls Try.prog 14 #[.agg #[.int .i64 N, v], .int .i64 x, .int .i64 d] w fun e w' => e = .returned (.int .i64 (hopV N L x d)) ∧ Below w.heap.size w w' := by
  have HR := Lib.hid hr
  have Hn := Lib.hid hn
  have hN1 := (gok_parts Hn.out.1).1
  have hN2 := (gok_parts Hn.out.1).2.1
  obtain ⟨ad, cp, rfl⟩ := hr.slice
  clear hr hn
  by_cases hxd : x = d
  · subst hxd
    have e1 : (x == x) = true := by simp
    rw [hopV_self Hn.out.1 Hn.out.2.2]
    go_enter Try.func14, Try.ntmps14
    go_wp2_with fail
    go_at_call 51
    refine (igok_any N lo hi n _ L _ hL (HR.out.below (B := w.heap.size) (by go_grown) (by omega)) (by simp; omega)).mono ?_
    rw [Hn.out.1]
    rintro e v1 ⟨rfl, hb1⟩
    have sz1 : w.heap.size + 1 ≤ v1.heap.size := by have hh := hb1.size; simp at hh; omega
    have st1 : Below w.heap.size w v1 := Below.trans (by go_grown) (hb1.mono (by simp))
    have c1_0 : v1.cell? ⟨w.heap.size, 0, none⟩ = some (.int .i64 N) := by rw [(bcell hb1).1 _ _ (by simp)]; first | (rw [new_at (by simp)]; rfl) | simp
    have c1_1 : v1.cell? ⟨w.heap.size, 1, none⟩ = some (.slice ad n cp) := by rw [(bcell hb1).1 _ _ (by simp)]; first | (rw [new_at (by simp)]; rfl) | simp
    have B1 : Hid (Below w.heap.size w v1) := st1
    have R1_0 : Hid (Row 3 v1 (lo) (hi) (.slice ad n cp) n (flat L)) := HR.out.below st1 (by omega)
    have d1_0 : w.heap.size < v1.heap.size := by omega
    have e1_0 : w.heap.size ≠ v1.heap.size := by omega
    clear st1 HR hb1
    go_wp2_with fail
    go_at_call 52
    refine (hasNode_any N _ _ _ x _).mono ?_
    rw [Hn.out.2.1]
    rintro e v2 ⟨rfl, hb2⟩
    have sz2 : v1.heap.size ≤ v2.heap.size := hb2.size
    have st2 : Below v1.heap.size v1 v2 := hb2
    have c2_0 : v2.cell? ⟨w.heap.size, 0, none⟩ = some (.int .i64 N) := by rw [(bcell st2).1 _ _ (by omega)]; exact c1_0
    have c2_1 : v2.cell? ⟨w.heap.size, 1, none⟩ = some (.slice ad n cp) := by rw [(bcell st2).1 _ _ (by omega)]; exact c1_1
    have B2 : Hid (Below w.heap.size w v2) := B1.out.trans (st2.mono (by omega))
    have R2_0 : Hid (Row 3 v2 (lo) (hi) (.slice ad n cp) n (flat L)) := R1_0.out.below st2 (by omega)
    have d2_0 : w.heap.size < v2.heap.size := by omega
    have e2_0 : w.heap.size ≠ v2.heap.size := by omega
    clear d1_0 e1_0 c1_0 c1_1 B1 st2 R1_0 hb2
    go_wp2_with fail
    go_at_call 52
    refine (hasNode_any N _ _ _ x _).mono ?_
    rw [Hn.out.2.2]
    rintro e v3 ⟨rfl, hb3⟩
    have sz3 : v2.heap.size ≤ v3.heap.size := hb3.size
    have st3 : Below v2.heap.size v2 v3 := hb3
    have c3_0 : v3.cell? ⟨w.heap.size, 0, none⟩ = some (.int .i64 N) := by rw [(bcell st3).1 _ _ (by omega)]; exact c2_0
    have c3_1 : v3.cell? ⟨w.heap.size, 1, none⟩ = some (.slice ad n cp) := by rw [(bcell st3).1 _ _ (by omega)]; exact c2_1
    have B3 : Hid (Below w.heap.size w v3) := B2.out.trans (st3.mono (by omega))
    have R3_0 : Hid (Row 3 v3 (lo) (hi) (.slice ad n cp) n (flat L)) := R2_0.out.below st3 (by omega)
    have d3_0 : w.heap.size < v3.heap.size := by omega
    have e3_0 : w.heap.size ≠ v3.heap.size := by omega
    clear d2_0 e2_0 c2_0 c2_1 B2 st3 R2_0 hb3
    go_wp2_with fail
    go_ret
    exact ⟨rfl, B3.out⟩
  · have e1 : (x == d) = false := by simp [hxd]
    rw [hopV_ne Hn.out.1 Hn.out.2.1 Hn.out.2.2 hxd]
    clear hxd
    go_enter Try.func14, Try.ntmps14
    go_wp2_with fail
    go_at_call 51
    refine (igok_any N lo hi n _ L _ hL (HR.out.below (B := w.heap.size) (by go_grown) (by omega)) (by simp; omega)).mono ?_
    rw [Hn.out.1]
    rintro e v1 ⟨rfl, hb1⟩
    have sz1 : w.heap.size + 1 ≤ v1.heap.size := by have hh := hb1.size; simp at hh; omega
    have st1 : Below w.heap.size w v1 := Below.trans (by go_grown) (hb1.mono (by simp))
    have c1_0 : v1.cell? ⟨w.heap.size, 0, none⟩ = some (.int .i64 N) := by rw [(bcell hb1).1 _ _ (by simp)]; first | (rw [new_at (by simp)]; rfl) | simp
    have c1_1 : v1.cell? ⟨w.heap.size, 1, none⟩ = some (.slice ad n cp) := by rw [(bcell hb1).1 _ _ (by simp)]; first | (rw [new_at (by simp)]; rfl) | simp
    have B1 : Hid (Below w.heap.size w v1) := st1
    have R1_0 : Hid (Row 3 v1 (lo) (hi) (.slice ad n cp) n (flat L)) := HR.out.below st1 (by omega)
    have d1_0 : w.heap.size < v1.heap.size := by omega
    have e1_0 : w.heap.size ≠ v1.heap.size := by omega
    clear st1 HR hb1
    go_wp2_with fail
    go_at_call 52
    refine (hasNode_any N _ _ _ x _).mono ?_
    rw [Hn.out.2.1]
    rintro e v2 ⟨rfl, hb2⟩
    have sz2 : v1.heap.size ≤ v2.heap.size := hb2.size
    have st2 : Below v1.heap.size v1 v2 := hb2
    have c2_0 : v2.cell? ⟨w.heap.size, 0, none⟩ = some (.int .i64 N) := by rw [(bcell st2).1 _ _ (by omega)]; exact c1_0
    have c2_1 : v2.cell? ⟨w.heap.size, 1, none⟩ = some (.slice ad n cp) := by rw [(bcell st2).1 _ _ (by omega)]; exact c1_1
    have B2 : Hid (Below w.heap.size w v2) := B1.out.trans (st2.mono (by omega))
    have R2_0 : Hid (Row 3 v2 (lo) (hi) (.slice ad n cp) n (flat L)) := R1_0.out.below st2 (by omega)
    have d2_0 : w.heap.size < v2.heap.size := by omega
    have e2_0 : w.heap.size ≠ v2.heap.size := by omega
    clear d1_0 e1_0 c1_0 c1_1 B1 st2 R1_0 hb2
    go_wp2_with fail
    go_at_call 52
    refine (hasNode_any N _ _ _ d _).mono ?_
    rw [Hn.out.2.2]
    rintro e v3 ⟨rfl, hb3⟩
    have sz3 : v2.heap.size ≤ v3.heap.size := hb3.size
    have st3 : Below v2.heap.size v2 v3 := hb3
    have c3_0 : v3.cell? ⟨w.heap.size, 0, none⟩ = some (.int .i64 N) := by rw [(bcell st3).1 _ _ (by omega)]; exact c2_0
    have c3_1 : v3.cell? ⟨w.heap.size, 1, none⟩ = some (.slice ad n cp) := by rw [(bcell st3).1 _ _ (by omega)]; exact c2_1
    have B3 : Hid (Below w.heap.size w v3) := B2.out.trans (st3.mono (by omega))
    have R3_0 : Hid (Row 3 v3 (lo) (hi) (.slice ad n cp) n (flat L)) := R2_0.out.below st3 (by omega)
    have d3_0 : w.heap.size < v3.heap.size := by omega
    have e3_0 : w.heap.size ≠ v3.heap.size := by omega
    clear d2_0 e2_0 c2_0 c2_1 B2 st3 R2_0 hb3
    go_wp2_with fail
    go_at_call 42
    refine (ihop_any N lo hi n _ L x d _ hL R3_0.out (by omega)).mono ?_
    rintro e w5 ⟨rv, rfl, hrow, hb5⟩
    have HB5 : Hid (Below w.heap.size w w5) := B3.out.trans (hb5.mono (by omega))
    clear hb5
    obtain ⟨Z, hZ⟩ : ∃ Z, hopsL N L x d = Z := ⟨_, rfl⟩
    rw [hZ] at hrow
    have HZ := Lib.hid hZ
    clear hZ
    cases Z with
    | nil =>
      obtain ⟨ra, rc, rfl⟩ := hrow.slice
      clear hrow
      go_wp2_with fail
      go_ret
      exact ⟨by rw [HZ.out]; rfl, HB5.out⟩
    | cons z l =>
      obtain ⟨g, c, rfl, _, hg, hc⟩ := row_cells (by simp) hrow
      have z0 : w5.cell? ⟨g, 0, none⟩ = some (.int .i64 z) := hc 0 z rfl
      obtain ⟨m, hm⟩ : ∃ m, m = (z :: l).length := ⟨_, rfl⟩
      have hm1 : 1 ≤ m := by rw [hm]; simp
      rw [← hm]
      have q1 : ((m : Int) == 0) = false := by simp; omega
      have q2 : (0 : Int) < (m : Int) := by omega
      clear hrow hc hm
      go_wp2_with fail
      go_ret
      exact ⟨by rw [HZ.out]; rfl, HB5.out⟩

theorem ihv_any (N : Int) (lo hi n : Nat) (v : Value) (L : List Ed) (x d : Int) (w : World) (hL : L.length = n) (hr : Row 3 w lo hi v n (flat L)) (hh : hi ≤ w.heap.size) :
    Calls Try.prog 14 #[.agg #[.int .i64 N, v], .int .i64 x, .int .i64 d] w fun e w' => e = .returned (.int .i64 (hopV N L x d)) ∧ Below w.heap.size w w' := by
  by_cases hG : gok N L = true
  · by_cases hx : ndB N x = true
    · by_cases hd : ndB N d = true
      · exact ihv_yes N lo hi n v L x d w hL hr hh ⟨hG, hx, hd⟩
      · exact ihv_no2 N lo hi n v L x d w hL hr hh ⟨hG, hx, by simpa using hd⟩
    · exact ihv_no1 N lo hi n v L x d w hL hr hh ⟨hG, by simpa using hx⟩
  · exact ihv_no0 N lo hi n v L x d w hL hr hh (by simpa using hG)

end Go.Proofs.Ytjenjdhoblcohaa
