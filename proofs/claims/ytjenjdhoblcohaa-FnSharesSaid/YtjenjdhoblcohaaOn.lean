/- OnWay of the program. -/
import Derived.Test.YtjenjdhoblcohaaBt
namespace Go.Proofs.Ytjenjdhoblcohaa
open Go.RowKit


theorem dist_cells {w : World} {lo hi M x : Nat} {dv : Value} {L : List Ed} (hG : gok (M : Int) L = true) (hx : x < M) (h : Row 1 w lo hi dv (distN (M : Int) L (x : Int)) (distL (M : Int) L (x : Int))) : ∃ g c, dv = .slice (some ⟨g, 0, none⟩) M c ∧ lo ≤ g ∧ g < hi ∧ ∀ j, j < M → w.cell? ⟨g, j, none⟩ = some (.int .i64 (dsT (M : Int) L (x : Int) (j : Int))) := by
  rw [distN_yes hG hx] at h
  obtain ⟨_, h⟩ := h
  rcases h with ⟨h, _⟩ | ⟨g, c, e, h1, h2, _, h3, _⟩
  · omega
  · exact ⟨g, c, e, h1, h2, fun j hj => h3 j _ (adZ_at hG hx hj)⟩
/-- What OnWay answers. -/
def onwB (N : Int) (L : List Ed) (x y z : Int) : Bool := gok N L && ndB N x && ndB N y && ndB N z && btwB N L x y z
theorem onw_no {N : Int} {L : List Ed} {x y z : Int} (h : gok N L = false ∨ ndB N x = false ∨ ndB N y = false ∨ ndB N z = false) : onwB N L x y z = false := by
  unfold onwB
  rcases h with h | h | h | h <;> rw [h] <;> simp
theorem onw_yes {M x y z : Nat} {L : List Ed} (hG : gok (M : Int) L = true) (hx : ndB (M : Int) (x : Int) = true) (hy : ndB (M : Int) (y : Int) = true) (hz : ndB (M : Int) (z : Int) = true) : onwB (M : Int) L (x : Int) (y : Int) (z : Int) = btwB (M : Int) L (x : Int) (y : Int) (z : Int) := by
  unfold onwB
  rw [hG, hx, hy, hz]; rfl
theorem ndB_lt {M x : Nat} (h : ndB (M : Int) (x : Int) = true) : x < M := by
  unfold ndB at h
  rw [inB_iff] at h
  omega

set_option maxRecDepth 100000 in
set_option maxHeartbeats 2400000 in
theorem ionw_no0 (N : Int) (lo hi n : Nat) (v : Value) (L : List Ed) (x y z : Int) (w : World) (hL : L.length = n) (hr : Row 3 w lo hi v n (flat L)) (hh : hi ≤ w.heap.size) (hn : gok N L = false) :
    Calls Try.prog 40 #[.agg #[.int .i64 N, v], .int .i64 x, .int .i64 y, .int .i64 z] w fun e w' => e = .returned (.bool (onwB N L x y z)) ∧ Below w.heap.size w w' := by
  have HR := Lib.hid hr
  have Hn := Lib.hid hn
  have e0 : Hid (onwB N L x y z = false) := onw_no (.inl hn)
  rw [e0.out]
  obtain ⟨ad, cp, rfl⟩ := hr.slice
  clear hr hn
  go_enter Try.func40, Try.ntmps40
  go_wp2_with fail
  go_at_call 51
  refine (igok_any N lo hi n _ L _ hL (HR.out.below (B := w.heap.size) (by go_grown) (by omega)) (by simp; omega)).mono ?_
  rw [Hn.out]
  rintro e v1 ⟨rfl, hb1⟩
  have sz1 : w.heap.size + 1 ≤ v1.heap.size := by have hh := hb1.size; simp at hh; omega
  have st1 : Below w.heap.size w v1 := Below.trans (by go_grown) (hb1.mono (by simp))
  have c1_0 : v1.cell? ⟨w.heap.size, 0, none⟩ = some (.int .i64 N) := by rw [(bcell hb1).1 _ _ (by simp)]; first | (rw [new_at (by simp)]; rfl) | simp
  have c1_1 : v1.cell? ⟨w.heap.size, 1, none⟩ = some (.slice ad n cp) := by rw [(bcell hb1).1 _ _ (by simp)]; first | (rw [new_at (by simp)]; rfl) | simp
  have B1 : Hid (Below w.heap.size w v1) := st1
  have R1_0 : Hid (Row 3 v1 (lo) (hi) (.slice ad n cp) n (flat L)) := HR.out.below st1 (by omega)
  have d1_0 : w.heap.size < v1.heap.size := by omega
  have e1_0 : w.heap.size ≠ v1.heap.size := by omega
  clear st1 HR hb1
  go_wp2_with fail
  go_ret
  exact ⟨rfl, B1.out⟩

set_option maxRecDepth 100000 in
set_option maxHeartbeats 2400000 in
theorem ionw_no1 (N : Int) (lo hi n : Nat) (v : Value) (L : List Ed) (x y z : Int) (w : World) (hL : L.length = n) (hr : Row 3 w lo hi v n (flat L)) (hh : hi ≤ w.heap.size) (hn : gok N L = true ∧ ndB N x = false) :
    Calls Try.prog 40 #[.agg #[.int .i64 N, v], .int .i64 x, .int .i64 y, .int .i64 z] w fun e w' => e = .returned (.bool (onwB N L x y z)) ∧ Below w.heap.size w w' := by
  have HR := Lib.hid hr
  have Hn := Lib.hid hn
  have e0 : Hid (onwB N L x y z = false) := onw_no (.inr (.inl hn.2))
  rw [e0.out]
  obtain ⟨ad, cp, rfl⟩ := hr.slice
  clear hr hn
  go_enter Try.func40, Try.ntmps40
  go_wp2_with fail
  go_at_call 51
  refine (igok_any N lo hi n _ L _ hL (HR.out.below (B := w.heap.size) (by go_grown) (by omega)) (by simp; omega)).mono ?_
  rw [Hn.out.1]
  rintro e v1 ⟨rfl, hb1⟩
  have sz1 : w.heap.size + 1 ≤ v1.heap.size := by have hh := hb1.size; simp at hh; omega
  have st1 : Below w.heap.size w v1 := Below.trans (by go_grown) (hb1.mono (by simp))
  have c1_0 : v1.cell? ⟨w.heap.size, 0, none⟩ = some (.int .i64 N) := by rw [(bcell hb1).1 _ _ (by simp)]; first | (rw [new_at (by simp)]; rfl) | simp
  have c1_1 : v1.cell? ⟨w.heap.size, 1, none⟩ = some (.slice ad n cp) := by rw [(bcell hb1).1 _ _ (by simp)]; first | (rw [new_at (by simp)]; rfl) | simp
  have B1 : Hid (Below w.heap.size w v1) := st1
  have R1_0 : Hid (Row 3 v1 (lo) (hi) (.slice ad n cp) n (flat L)) := HR.out.below st1 (by omega)
  have d1_0 : w.heap.size < v1.heap.size := by omega
  have e1_0 : w.heap.size ≠ v1.heap.size := by omega
  clear st1 HR hb1
  go_wp2_with fail
  go_at_call 52
  refine (hasNode_any N _ _ _ x _).mono ?_
  rw [Hn.out.2]
  rintro e v2 ⟨rfl, hb2⟩
  have sz2 : v1.heap.size ≤ v2.heap.size := hb2.size
  have st2 : Below v1.heap.size v1 v2 := hb2
  have c2_0 : v2.cell? ⟨w.heap.size, 0, none⟩ = some (.int .i64 N) := by rw [(bcell st2).1 _ _ (by omega)]; exact c1_0
  have c2_1 : v2.cell? ⟨w.heap.size, 1, none⟩ = some (.slice ad n cp) := by rw [(bcell st2).1 _ _ (by omega)]; exact c1_1
  have B2 : Hid (Below w.heap.size w v2) := B1.out.trans (st2.mono (by omega))
  have R2_0 : Hid (Row 3 v2 (lo) (hi) (.slice ad n cp) n (flat L)) := R1_0.out.below st2 (by omega)
  have d2_0 : w.heap.size < v2.heap.size := by omega
  have e2_0 : w.heap.size ≠ v2.heap.size := by omega
  clear d1_0 e1_0 c1_0 c1_1 B1 st2 R1_0 hb2
  go_wp2_with fail
  go_ret
  exact ⟨rfl, B2.out⟩

set_option maxRecDepth 100000 in
set_option maxHeartbeats 2400000 in
theorem ionw_no2 (N : Int) (lo hi n : Nat) (v : Value) (L : List Ed) (x y z : Int) (w : World) (hL : L.length = n) (hr : Row 3 w lo hi v n (flat L)) (hh : hi ≤ w.heap.size) (hn : gok N L = true ∧ ndB N x = true ∧ ndB N y = false) :
    Calls Try.prog 40 #[.agg #[.int .i64 N, v], .int .i64 x, .int .i64 y, .int .i64 z] w fun e w' => e = .returned (.bool (onwB N L x y z)) ∧ Below w.heap.size w w' := by
  have HR := Lib.hid hr
  have Hn := Lib.hid hn
  have e0 : Hid (onwB N L x y z = false) := onw_no (.inr (.inr (.inl hn.2.2)))
  rw [e0.out]
  obtain ⟨ad, cp, rfl⟩ := hr.slice
  clear hr hn
  go_enter Try.func40, Try.ntmps40
  go_wp2_with fail
  go_at_call 51
  refine (igok_any N lo hi n _ L _ hL (HR.out.below (B := w.heap.size) (by go_grown) (by omega)) (by simp; omega)).mono ?_
  rw [Hn.out.1]
  rintro e v1 ⟨rfl, hb1⟩
  have sz1 : w.heap.size + 1 ≤ v1.heap.size := by have hh := hb1.size; simp at hh; omega
  have st1 : Below w.heap.size w v1 := Below.trans (by go_grown) (hb1.mono (by simp))
  have c1_0 : v1.cell? ⟨w.heap.size, 0, none⟩ = some (.int .i64 N) := by rw [(bcell hb1).1 _ _ (by simp)]; first | (rw [new_at (by simp)]; rfl) | simp
  have c1_1 : v1.cell? ⟨w.heap.size, 1, none⟩ = some (.slice ad n cp) := by rw [(bcell hb1).1 _ _ (by simp)]; first | (rw [new_at (by simp)]; rfl) | simp
  have B1 : Hid (Below w.heap.size w v1) := st1
  have R1_0 : Hid (Row 3 v1 (lo) (hi) (.slice ad n cp) n (flat L)) := HR.out.below st1 (by omega)
  have d1_0 : w.heap.size < v1.heap.size := by omega
  have e1_0 : w.heap.size ≠ v1.heap.size := by omega
  clear st1 HR hb1
  go_wp2_with fail
  go_at_call 52
  refine (hasNode_any N _ _ _ x _).mono ?_
  rw [Hn.out.2.1]
  rintro e v2 ⟨rfl, hb2⟩
  have sz2 : v1.heap.size ≤ v2.heap.size := hb2.size
  have st2 : Below v1.heap.size v1 v2 := hb2
  have c2_0 : v2.cell? ⟨w.heap.size, 0, none⟩ = some (.int .i64 N) := by rw [(bcell st2).1 _ _ (by omega)]; exact c1_0
  have c2_1 : v2.cell? ⟨w.heap.size, 1, none⟩ = some (.slice ad n cp) := by rw [(bcell st2).1 _ _ (by omega)]; exact c1_1
  have B2 : Hid (Below w.heap.size w v2) := B1.out.trans (st2.mono (by omega))
  have R2_0 : Hid (Row 3 v2 (lo) (hi) (.slice ad n cp) n (flat L)) := R1_0.out.below st2 (by omega)
  have d2_0 : w.heap.size < v2.heap.size := by omega
  have e2_0 : w.heap.size ≠ v2.heap.size := by omega
  clear d1_0 e1_0 c1_0 c1_1 B1 st2 R1_0 hb2
  go_wp2_with fail
  go_at_call 52
  refine (hasNode_any N _ _ _ y _).mono ?_
  rw [Hn.out.2.2]
  rintro e v3 ⟨rfl, hb3⟩
  have sz3 : v2.heap.size ≤ v3.heap.size := hb3.size
  have st3 : Below v2.heap.size v2 v3 := hb3
  have c3_0 : v3.cell? ⟨w.heap.size, 0, none⟩ = some (.int .i64 N) := by rw [(bcell st3).1 _ _ (by omega)]; exact c2_0
  have c3_1 : v3.cell? ⟨w.heap.size, 1, none⟩ = some (.slice ad n cp) := by rw [(bcell st3).1 _ _ (by omega)]; exact c2_1
  have B3 : Hid (Below w.heap.size w v3) := B2.out.trans (st3.mono (by omega))
  have R3_0 : Hid (Row 3 v3 (lo) (hi) (.slice ad n cp) n (flat L)) := R2_0.out.below st3 (by omega)
  have d3_0 : w.heap.size < v3.heap.size := by omega
  have e3_0 : w.heap.size ≠ v3.heap.size := by omega
  clear d2_0 e2_0 c2_0 c2_1 B2 st3 R2_0 hb3
  go_wp2_with fail
  go_ret
  exact ⟨rfl, B3.out⟩

set_option maxRecDepth 100000 in
set_option maxHeartbeats 2400000 in
theorem ionw_no3 (N : Int) (lo hi n : Nat) (v : Value) (L : List Ed) (x y z : Int) (w : World) (hL : L.length = n) (hr : Row 3 w lo hi v n (flat L)) (hh : hi ≤ w.heap.size) (hn : gok N L = true ∧ ndB N x = true ∧ ndB N y = true ∧ ndB N z = false) :
    Calls Try.prog 40 #[.agg #[.int .i64 N, v], .int .i64 x, .int .i64 y, .int .i64 z] w fun e w' => e = .returned (.bool (onwB N L x y z)) ∧ Below w.heap.size w w' := by
  have HR := Lib.hid hr
  have Hn := Lib.hid hn
  have e0 : Hid (onwB N L x y z = false) := onw_no (.inr (.inr (.inr hn.2.2.2)))
  rw [e0.out]
  obtain ⟨ad, cp, rfl⟩ := hr.slice
  clear hr hn
  go_enter Try.func40, Try.ntmps40
  go_wp2_with fail
  go_at_call 51
  refine (igok_any N lo hi n _ L _ hL (HR.out.below (B := w.heap.size) (by go_grown) (by omega)) (by simp; omega)).mono ?_
  rw [Hn.out.1]
  rintro e v1 ⟨rfl, hb1⟩
  have sz1 : w.heap.size + 1 ≤ v1.heap.size := by have hh := hb1.size; simp at hh; omega
  have st1 : Below w.heap.size w v1 := Below.trans (by go_grown) (hb1.mono (by simp))
  have c1_0 : v1.cell? ⟨w.heap.size, 0, none⟩ = some (.int .i64 N) := by rw [(bcell hb1).1 _ _ (by simp)]; first | (rw [new_at (by simp)]; rfl) | simp
  have c1_1 : v1.cell? ⟨w.heap.size, 1, none⟩ = some (.slice ad n cp) := by rw [(bcell hb1).1 _ _ (by simp)]; first | (rw [new_at (by simp)]; rfl) | simp
  have B1 : Hid (Below w.heap.size w v1) := st1
  have R1_0 : Hid (Row 3 v1 (lo) (hi) (.slice ad n cp) n (flat L)) := HR.out.below st1 (by omega)
  have d1_0 : w.heap.size < v1.heap.size := by omega
  have e1_0 : w.heap.size ≠ v1.heap.size := by omega
  clear st1 HR hb1
  go_wp2_with fail
  go_at_call 52
  refine (hasNode_any N _ _ _ x _).mono ?_
  rw [Hn.out.2.1]
  rintro e v2 ⟨rfl, hb2⟩
  have sz2 : v1.heap.size ≤ v2.heap.size := hb2.size
  have st2 : Below v1.heap.size v1 v2 := hb2
  have c2_0 : v2.cell? ⟨w.heap.size, 0, none⟩ = some (.int .i64 N) := by rw [(bcell st2).1 _ _ (by omega)]; exact c1_0
  have c2_1 : v2.cell? ⟨w.heap.size, 1, none⟩ = some (.slice ad n cp) := by rw [(bcell st2).1 _ _ (by omega)]; exact c1_1
  have B2 : Hid (Below w.heap.size w v2) := B1.out.trans (st2.mono (by omega))
  have R2_0 : Hid (Row 3 v2 (lo) (hi) (.slice ad n cp) n (flat L)) := R1_0.out.below st2 (by omega)
  have d2_0 : w.heap.size < v2.heap.size := by omega
  have e2_0 : w.heap.size ≠ v2.heap.size := by omega
  clear d1_0 e1_0 c1_0 c1_1 B1 st2 R1_0 hb2
  go_wp2_with fail
  go_at_call 52
  refine (hasNode_any N _ _ _ y _).mono ?_
  rw [Hn.out.2.2.1]
  rintro e v3 ⟨rfl, hb3⟩
  have sz3 : v2.heap.size ≤ v3.heap.size := hb3.size
  have st3 : Below v2.heap.size v2 v3 := hb3
  have c3_0 : v3.cell? ⟨w.heap.size, 0, none⟩ = some (.int .i64 N) := by rw [(bcell st3).1 _ _ (by omega)]; exact c2_0
  have c3_1 : v3.cell? ⟨w.heap.size, 1, none⟩ = some (.slice ad n cp) := by rw [(bcell st3).1 _ _ (by omega)]; exact c2_1
  have B3 : Hid (Below w.heap.size w v3) := B2.out.trans (st3.mono (by omega))
  have R3_0 : Hid (Row 3 v3 (lo) (hi) (.slice ad n cp) n (flat L)) := R2_0.out.below st3 (by omega)
  have d3_0 : w.heap.size < v3.heap.size := by omega
  have e3_0 : w.heap.size ≠ v3.heap.size := by omega
  clear d2_0 e2_0 c2_0 c2_1 B2 st3 R2_0 hb3
  go_wp2_with fail
  go_at_call 52
  refine (hasNode_any N _ _ _ z _).mono ?_
  rw [Hn.out.2.2.2]
  rintro e v4 ⟨rfl, hb4⟩
  have sz4 : v3.heap.size ≤ v4.heap.size := hb4.size
  have st4 : Below v3.heap.size v3 v4 := hb4
  have c4_0 : v4.cell? ⟨w.heap.size, 0, none⟩ = some (.int .i64 N) := by rw [(bcell st4).1 _ _ (by omega)]; exact c3_0
  have c4_1 : v4.cell? ⟨w.heap.size, 1, none⟩ = some (.slice ad n cp) := by rw [(bcell st4).1 _ _ (by omega)]; exact c3_1
  have B4 : Hid (Below w.heap.size w v4) := B3.out.trans (st4.mono (by omega))
  have R4_0 : Hid (Row 3 v4 (lo) (hi) (.slice ad n cp) n (flat L)) := R3_0.out.below st4 (by omega)
  have d4_0 : w.heap.size < v4.heap.size := by omega
  have e4_0 : w.heap.size ≠ v4.heap.size := by omega
  clear d3_0 e3_0 c3_0 c3_1 B3 st4 R3_0 hb4
  go_wp2_with fail
  go_ret
  exact ⟨rfl, B4.out⟩

set_option maxRecDepth 100000 in
set_option maxHeartbeats 4000000 in
theorem ionw_yes (M : Nat) (lo hi n : Nat) (v : Value) (L : List Ed) (x y z : Nat) (w : World) (hL : L.length = n) (hr : Row 3 w lo hi v n (flat L)) (hh : hi ≤ w.heap.size) (hG : gok (M : Int) L = true) (hx : ndB (M : Int) (x : Int) = true) (hy : ndB (M : Int) (y : Int) = true) (hz : ndB (M : Int) (z : Int) = true) :
    Calls Try.prog 40 #[.agg #[.int .i64 (M : Int), v], .int .i64 (x : Int), .int .i64 (y : Int), .int .i64 (z : Int)] w fun e w' => e = .returned (.bool (onwB (M : Int) L (x : Int) (y : Int) (z : Int))) ∧ Below w.heap.size w w' := by
  have HR := Lib.hid hr
  have HG := Lib.hid hG
  have hN1 := (gok_parts hG).1
  have hN2 := (gok_parts hG).2.1
  rw [onw_yes hG hx hy hz]
  have hx2 := ndB_lt hx
  have hy2 := ndB_lt hy
  have hz2 := ndB_lt hz
  obtain ⟨ad, cp, rfl⟩ := hr.slice
  clear hr hG
  go_enter Try.func40, Try.ntmps40
  go_wp2_with fail
  go_at_call 51
  refine (igok_any (M : Int) lo hi n _ L _ hL (HR.out.below (B := w.heap.size) (by go_grown) (by omega)) (by simp; omega)).mono ?_
  rw [HG.out]
  rintro e v1 ⟨rfl, hb1⟩
  have sz1 : w.heap.size + 1 ≤ v1.heap.size := by have hh := hb1.size; simp at hh; omega
  have st1 : Below w.heap.size w v1 := Below.trans (by go_grown) (hb1.mono (by simp))
  have c1_0 : v1.cell? ⟨w.heap.size, 0, none⟩ = some (.int .i64 (M : Int)) := by rw [(bcell hb1).1 _ _ (by simp)]; first | (rw [new_at (by simp)]; rfl) | simp
  have c1_1 : v1.cell? ⟨w.heap.size, 1, none⟩ = some (.slice ad n cp) := by rw [(bcell hb1).1 _ _ (by simp)]; first | (rw [new_at (by simp)]; rfl) | simp
  have B1 : Hid (Below w.heap.size w v1) := st1
  have R1_0 : Hid (Row 3 v1 (lo) (hi) (.slice ad n cp) n (flat L)) := HR.out.below st1 (by omega)
  have d1_0 : w.heap.size < v1.heap.size := by omega
  have e1_0 : w.heap.size ≠ v1.heap.size := by omega
  clear st1 HR hb1
  go_wp2_with fail
  go_at_call 52
  refine (hasNode_any (M : Int) _ _ _ (x : Int) _).mono ?_
  rw [hx]
  rintro e v2 ⟨rfl, hb2⟩
  have sz2 : v1.heap.size ≤ v2.heap.size := hb2.size
  have st2 : Below v1.heap.size v1 v2 := hb2
  have c2_0 : v2.cell? ⟨w.heap.size, 0, none⟩ = some (.int .i64 (M : Int)) := by rw [(bcell st2).1 _ _ (by omega)]; exact c1_0
  have c2_1 : v2.cell? ⟨w.heap.size, 1, none⟩ = some (.slice ad n cp) := by rw [(bcell st2).1 _ _ (by omega)]; exact c1_1
  have B2 : Hid (Below w.heap.size w v2) := B1.out.trans (st2.mono (by omega))
  have R2_0 : Hid (Row 3 v2 (lo) (hi) (.slice ad n cp) n (flat L)) := R1_0.out.below st2 (by omega)
  have d2_0 : w.heap.size < v2.heap.size := by omega
  have e2_0 : w.heap.size ≠ v2.heap.size := by omega
  clear d1_0 e1_0 c1_0 c1_1 B1 st2 R1_0 hb2
  go_wp2_with fail
  go_at_call 52
  refine (hasNode_any (M : Int) _ _ _ (y : Int) _).mono ?_
  rw [hy]
  rintro e v3 ⟨rfl, hb3⟩
  have sz3 : v2.heap.size ≤ v3.heap.size := hb3.size
  have st3 : Below v2.heap.size v2 v3 := hb3
  have c3_0 : v3.cell? ⟨w.heap.size, 0, none⟩ = some (.int .i64 (M : Int)) := by rw [(bcell st3).1 _ _ (by omega)]; exact c2_0
  have c3_1 : v3.cell? ⟨w.heap.size, 1, none⟩ = some (.slice ad n cp) := by rw [(bcell st3).1 _ _ (by omega)]; exact c2_1
  have B3 : Hid (Below w.heap.size w v3) := B2.out.trans (st3.mono (by omega))
  have R3_0 : Hid (Row 3 v3 (lo) (hi) (.slice ad n cp) n (flat L)) := R2_0.out.below st3 (by omega)
  have d3_0 : w.heap.size < v3.heap.size := by omega
  have e3_0 : w.heap.size ≠ v3.heap.size := by omega
  clear d2_0 e2_0 c2_0 c2_1 B2 st3 R2_0 hb3
  go_wp2_with fail
  go_at_call 52
  refine (hasNode_any (M : Int) _ _ _ (z : Int) _).mono ?_
  rw [hz]
  rintro e v4 ⟨rfl, hb4⟩
  have sz4 : v3.heap.size ≤ v4.heap.size := hb4.size
  have st4 : Below v3.heap.size v3 v4 := hb4
  have c4_0 : v4.cell? ⟨w.heap.size, 0, none⟩ = some (.int .i64 (M : Int)) := by rw [(bcell st4).1 _ _ (by omega)]; exact c3_0
  have c4_1 : v4.cell? ⟨w.heap.size, 1, none⟩ = some (.slice ad n cp) := by rw [(bcell st4).1 _ _ (by omega)]; exact c3_1
  have B4 : Hid (Below w.heap.size w v4) := B3.out.trans (st4.mono (by omega))
  have R4_0 : Hid (Row 3 v4 (lo) (hi) (.slice ad n cp) n (flat L)) := R3_0.out.below st4 (by omega)
  have d4_0 : w.heap.size < v4.heap.size := by omega
  have e4_0 : w.heap.size ≠ v4.heap.size := by omega
  clear d3_0 e3_0 c3_0 c3_1 B3 st4 R3_0 hb4
  go_wp2_with fail
  go_at_call 61
  refine (iad_any (M : Int) lo hi n _ L _ hL R4_0.out (by omega)).mono ?_
  rintro e v9 ⟨av, rfl, hS⟩
  rw [adN_yes HG.out] at hS
  obtain ⟨G, cap, hav, _⟩ := hS.get (by omega)
  subst hav
  have HS := Lib.hid hS
  have hb9 : Below v4.heap.size v4 v9 := by
    obtain ⟨_, _, h⟩ := hS
    exact h.below
  clear hS
  have sz8 : v4.heap.size ≤ v9.heap.size := hb9.size
  have st8 : Below v4.heap.size v4 v9 := hb9
  have c8_0 : v9.cell? ⟨w.heap.size, 0, none⟩ = some (.int .i64 (M : Int)) := by rw [(bcell st8).1 _ _ (by omega)]; exact c4_0
  have c8_1 : v9.cell? ⟨w.heap.size, 1, none⟩ = some (.slice ad n cp) := by rw [(bcell st8).1 _ _ (by omega)]; exact c4_1
  have B8 : Hid (Below w.heap.size w v9) := B4.out.trans (st8.mono (by omega))
  have R8_0 : Hid (Row 3 v9 (lo) (hi) (.slice ad n cp) n (flat L)) := R4_0.out.below st8 (by omega)
  have d8_0 : w.heap.size < v9.heap.size := by omega
  have e8_0 : w.heap.size ≠ v9.heap.size := by omega
  clear d4_0 e4_0 c4_0 c4_1 B4 st8 R4_0 hb9
  go_wp2_with fail
  go_at_call 76
  refine (btw_any M x y z L _ _ _ HG.out HS.out hx2 hy2 hz2).mono ?_
  rintro e v10 ⟨rfl, hb10⟩
  have sz9 : v9.heap.size ≤ v10.heap.size := hb10.size
  have st9 : Below v9.heap.size v9 v10 := hb10
  have c9_0 : v10.cell? ⟨w.heap.size, 0, none⟩ = some (.int .i64 (M : Int)) := by rw [(bcell st9).1 _ _ (by omega)]; exact c8_0
  have c9_1 : v10.cell? ⟨w.heap.size, 1, none⟩ = some (.slice ad n cp) := by rw [(bcell st9).1 _ _ (by omega)]; exact c8_1
  have B9 : Hid (Below w.heap.size w v10) := B8.out.trans (st9.mono (by omega))
  have R9_0 : Hid (Row 3 v10 (lo) (hi) (.slice ad n cp) n (flat L)) := R8_0.out.below st9 (by omega)
  have d9_0 : w.heap.size < v10.heap.size := by omega
  have e9_0 : w.heap.size ≠ v10.heap.size := by omega
  clear d8_0 e8_0 c8_0 c8_1 B8 st9 R8_0 hb10
  go_wp2_with fail
  go_ret
  exact ⟨rfl, B9.out⟩

theorem ionw_any (N : Int) (lo hi n : Nat) (v : Value) (L : List Ed) (x y z : Int) (w : World) (hL : L.length = n) (hr : Row 3 w lo hi v n (flat L)) (hh : hi ≤ w.heap.size) :
    Calls Try.prog 40 #[.agg #[.int .i64 N, v], .int .i64 x, .int .i64 y, .int .i64 z] w fun e w' => e = .returned (.bool (onwB N L x y z)) ∧ Below w.heap.size w w' := by
  by_cases hG : gok N L = true
  · by_cases hx : ndB N x = true
    · by_cases hy : ndB N y = true
      · by_cases hz : ndB N z = true
        · have hN := gok_parts hG
          have hx' := hx
          have hy' := hy
          have hz' := hz
          unfold ndB at hx' hy' hz'
          rw [inB_iff] at hx' hy' hz'
          obtain ⟨M, rfl⟩ : ∃ M : Nat, N = (M : Int) := ⟨N.toNat, by omega⟩
          obtain ⟨p, rfl⟩ : ∃ q : Nat, x = (q : Int) := ⟨x.toNat, by omega⟩
          obtain ⟨q, rfl⟩ : ∃ q : Nat, y = (q : Int) := ⟨y.toNat, by omega⟩
          obtain ⟨r, rfl⟩ : ∃ q : Nat, z = (q : Int) := ⟨z.toNat, by omega⟩
          exact ionw_yes M lo hi n v L p q r w hL hr hh hG hx hy hz
        · exact ionw_no3 N lo hi n v L x y z w hL hr hh ⟨hG, hx, hy, by simpa using hz⟩
      · exact ionw_no2 N lo hi n v L x y z w hL hr hh ⟨hG, hx, by simpa using hy⟩
    · exact ionw_no1 N lo hi n v L x y z w hL hr hh ⟨hG, by simpa using hx⟩
  · exact ionw_no0 N lo hi n v L x y z w hL hr hh (by simpa using hG)

end Go.Proofs.Ytjenjdhoblcohaa
