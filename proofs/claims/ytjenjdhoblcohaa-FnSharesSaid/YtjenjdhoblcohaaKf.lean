/- CountWays of both, one answer. -/
import Derived.Test.YtjenjdhoblcohaaSt
import Derived.Test.YtjenjdhoblcohaaCw
import Derived.Test.YtjenjdhoblcohaaKc
import Derived.Test.YtjenjdhoblcohaaMp
namespace Go.Proofs.Ytjenjdhoblcohaa
open Go.RowKit

/-- What CountWays of the model answers. -/
def scnP (N : Int) (L : List Ed) (x y v : Int) : Prop := if gok N L = true ∧ ndB N x = true ∧ ndB N y = true then ∃ S W, StepsP N L y S W ∧ v = W x else v = -1

set_option maxRecDepth 100000 in
set_option maxHeartbeats 2400000 in
theorem scn_no0 (N : Int) (lo hi n : Nat) (v : Value) (L : List Ed) (x y : Int) (w : World) (hL : L.length = n) (hr : Row 3 w lo hi v n (flat L)) (hh : hi ≤ w.heap.size) (hn : gok N L = false) :
    Calls Try.prog 37 #[.agg #[.int .i64 N, v], .int .i64 x, .int .i64 y] w fun e w' => e = .returned (.int .i64 (-1)) ∧ Below w.heap.size w w' := by
  have HR := Lib.hid hr
  have Hn := Lib.hid hn
  obtain ⟨ad, cp, rfl⟩ := hr.slice
  clear hr hn
  go_enter Try.func37, Try.ntmps37
  go_wp2_with fail
  go_at_call 47
  refine (sgok_any N lo hi n _ L _ hL (HR.out.below (B := w.heap.size) (by go_grown) (by omega)) (by simp; omega)).mono ?_
  rw [Hn.out]
  rintro e v1 ⟨rfl, hb1⟩
  have sz1 : w.heap.size + 1 ≤ v1.heap.size := by have hh := hb1.size; simp at hh; omega
  have st1 : Below w.heap.size w v1 := Below.trans (by go_grown) (hb1.mono (by simp))
  have c1_0 : v1.cell? ⟨w.heap.size, 0, none⟩ = some (.int .i64 N) := by rw [(bcell hb1).1 _ _ (by simp)]; first | (rw [new_at (by simp)]; rfl) | simp
  have c1_1 : v1.cell? ⟨w.heap.size, 1, none⟩ = some (.slice ad n cp) := by rw [(bcell hb1).1 _ _ (by simp)]; first | (rw [new_at (by simp)]; rfl) | simp
  have B1 : Hid (Below w.heap.size w v1) := st1
  have R1_0 : Hid (Row 3 v1 (lo) (hi) (.slice ad n cp) n (flat L)) := HR.out.below st1 (by omega)
  have d1_0 : w.heap.size < v1.heap.size := by omega
  have e1_0 : w.heap.size ≠ v1.heap.size := by omega
  clear st1 HR hb1
  go_wp2_with fail
  go_ret
  exact ⟨rfl, B1.out⟩

set_option maxRecDepth 100000 in
set_option maxHeartbeats 2400000 in
theorem scn_no1 (N : Int) (lo hi n : Nat) (v : Value) (L : List Ed) (x y : Int) (w : World) (hL : L.length = n) (hr : Row 3 w lo hi v n (flat L)) (hh : hi ≤ w.heap.size) (hn : gok N L = true ∧ ndB N x = false) :
    Calls Try.prog 37 #[.agg #[.int .i64 N, v], .int .i64 x, .int .i64 y] w fun e w' => e = .returned (.int .i64 (-1)) ∧ Below w.heap.size w w' := by
  have HR := Lib.hid hr
  have Hn := Lib.hid hn
  obtain ⟨ad, cp, rfl⟩ := hr.slice
  clear hr hn
  have hN1 := (gok_parts Hn.out.1).1
  have hN2 := (gok_parts Hn.out.1).2.1
  go_enter Try.func37, Try.ntmps37
  go_wp2_with fail
  go_at_call 47
  refine (sgok_any N lo hi n _ L _ hL (HR.out.below (B := w.heap.size) (by go_grown) (by omega)) (by simp; omega)).mono ?_
  rw [Hn.out.1]
  rintro e v1 ⟨rfl, hb1⟩
  have sz1 : w.heap.size + 1 ≤ v1.heap.size := by have hh := hb1.size; simp at hh; omega
  have st1 : Below w.heap.size w v1 := Below.trans (by go_grown) (hb1.mono (by simp))
  have c1_0 : v1.cell? ⟨w.heap.size, 0, none⟩ = some (.int .i64 N) := by rw [(bcell hb1).1 _ _ (by simp)]; first | (rw [new_at (by simp)]; rfl) | simp
  have c1_1 : v1.cell? ⟨w.heap.size, 1, none⟩ = some (.slice ad n cp) := by rw [(bcell hb1).1 _ _ (by simp)]; first | (rw [new_at (by simp)]; rfl) | simp
  have B1 : Hid (Below w.heap.size w v1) := st1
  have R1_0 : Hid (Row 3 v1 (lo) (hi) (.slice ad n cp) n (flat L)) := HR.out.below st1 (by omega)
  have d1_0 : w.heap.size < v1.heap.size := by omega
  have e1_0 : w.heap.size ≠ v1.heap.size := by omega
  clear st1 HR hb1
  go_wp2_with fail
  go_at_call 48
  refine (node_any N _ _ _ x _ hN1 hN2).mono ?_
  rw [Hn.out.2]
  rintro e v2 ⟨rfl, hb2⟩
  have sz2 : v1.heap.size ≤ v2.heap.size := hb2.size
  have st2 : Below v1.heap.size v1 v2 := hb2
  have c2_0 : v2.cell? ⟨w.heap.size, 0, none⟩ = some (.int .i64 N) := by rw [(bcell st2).1 _ _ (by omega)]; exact c1_0
  have c2_1 : v2.cell? ⟨w.heap.size, 1, none⟩ = some (.slice ad n cp) := by rw [(bcell st2).1 _ _ (by omega)]; exact c1_1
  have B2 : Hid (Below w.heap.size w v2) := B1.out.trans (st2.mono (by omega))
  have R2_0 : Hid (Row 3 v2 (lo) (hi) (.slice ad n cp) n (flat L)) := R1_0.out.below st2 (by omega)
  have d2_0 : w.heap.size < v2.heap.size := by omega
  have e2_0 : w.heap.size ≠ v2.heap.size := by omega
  clear d1_0 e1_0 c1_0 c1_1 B1 st2 R1_0 hb2
  go_wp2_with fail
  go_ret
  exact ⟨rfl, B2.out⟩

set_option maxRecDepth 100000 in
set_option maxHeartbeats 2400000 in
theorem scn_no2 (N : Int) (lo hi n : Nat) (v : Value) (L : List Ed) (x y : Int) (w : World) (hL : L.length = n) (hr : Row 3 w lo hi v n (flat L)) (hh : hi ≤ w.heap.size) (hn : gok N L = true ∧ ndB N x = true ∧ ndB N y = false) :
    Calls Try.prog 37 #[.agg #[.int .i64 N, v], .int .i64 x, .int .i64 y] w fun e w' => e = .returned (.int .i64 (-1)) ∧ Below w.heap.size w w' := by
  have HR := Lib.hid hr
  have Hn := Lib.hid hn
  obtain ⟨ad, cp, rfl⟩ := hr.slice
  clear hr hn
  have hN1 := (gok_parts Hn.out.1).1
  have hN2 := (gok_parts Hn.out.1).2.1
  go_enter Try.func37, Try.ntmps37
  go_wp2_with fail
  go_at_call 47
  refine (sgok_any N lo hi n _ L _ hL (HR.out.below (B := w.heap.size) (by go_grown) (by omega)) (by simp; omega)).mono ?_
  rw [Hn.out.1]
  rintro e v1 ⟨rfl, hb1⟩
  have sz1 : w.heap.size + 1 ≤ v1.heap.size := by have hh := hb1.size; simp at hh; omega
  have st1 : Below w.heap.size w v1 := Below.trans (by go_grown) (hb1.mono (by simp))
  have c1_0 : v1.cell? ⟨w.heap.size, 0, none⟩ = some (.int .i64 N) := by rw [(bcell hb1).1 _ _ (by simp)]; first | (rw [new_at (by simp)]; rfl) | simp
  have c1_1 : v1.cell? ⟨w.heap.size, 1, none⟩ = some (.slice ad n cp) := by rw [(bcell hb1).1 _ _ (by simp)]; first | (rw [new_at (by simp)]; rfl) | simp
  have B1 : Hid (Below w.heap.size w v1) := st1
  have R1_0 : Hid (Row 3 v1 (lo) (hi) (.slice ad n cp) n (flat L)) := HR.out.below st1 (by omega)
  have d1_0 : w.heap.size < v1.heap.size := by omega
  have e1_0 : w.heap.size ≠ v1.heap.size := by omega
  clear st1 HR hb1
  go_wp2_with fail
  go_at_call 48
  refine (node_any N _ _ _ x _ hN1 hN2).mono ?_
  rw [Hn.out.2.1]
  rintro e v2 ⟨rfl, hb2⟩
  have sz2 : v1.heap.size ≤ v2.heap.size := hb2.size
  have st2 : Below v1.heap.size v1 v2 := hb2
  have c2_0 : v2.cell? ⟨w.heap.size, 0, none⟩ = some (.int .i64 N) := by rw [(bcell st2).1 _ _ (by omega)]; exact c1_0
  have c2_1 : v2.cell? ⟨w.heap.size, 1, none⟩ = some (.slice ad n cp) := by rw [(bcell st2).1 _ _ (by omega)]; exact c1_1
  have B2 : Hid (Below w.heap.size w v2) := B1.out.trans (st2.mono (by omega))
  have R2_0 : Hid (Row 3 v2 (lo) (hi) (.slice ad n cp) n (flat L)) := R1_0.out.below st2 (by omega)
  have d2_0 : w.heap.size < v2.heap.size := by omega
  have e2_0 : w.heap.size ≠ v2.heap.size := by omega
  clear d1_0 e1_0 c1_0 c1_1 B1 st2 R1_0 hb2
  go_wp2_with fail
  go_at_call 48
  refine (node_any N _ _ _ y _ hN1 hN2).mono ?_
  rw [Hn.out.2.2]
  rintro e v3 ⟨rfl, hb3⟩
  have sz3 : v2.heap.size ≤ v3.heap.size := hb3.size
  have st3 : Below v2.heap.size v2 v3 := hb3
  have c3_0 : v3.cell? ⟨w.heap.size, 0, none⟩ = some (.int .i64 N) := by rw [(bcell st3).1 _ _ (by omega)]; exact c2_0
  have c3_1 : v3.cell? ⟨w.heap.size, 1, none⟩ = some (.slice ad n cp) := by rw [(bcell st3).1 _ _ (by omega)]; exact c2_1
  have B3 : Hid (Below w.heap.size w v3) := B2.out.trans (st3.mono (by omega))
  have R3_0 : Hid (Row 3 v3 (lo) (hi) (.slice ad n cp) n (flat L)) := R2_0.out.below st3 (by omega)
  have d3_0 : w.heap.size < v3.heap.size := by omega
  have e3_0 : w.heap.size ≠ v3.heap.size := by omega
  clear d2_0 e2_0 c2_0 c2_1 B2 st3 R2_0 hb3
  go_wp2_with fail
  go_ret
  exact ⟨rfl, B3.out⟩

set_option maxRecDepth 100000 in
set_option maxHeartbeats 4000000 in
theorem scn_yes (M : Nat) (lo hi n : Nat) (v : Value) (L : List Ed) (s o : Nat) (w : World) (hL : L.length = n) (hr : Row 3 w lo hi v n (flat L)) (hh : hi ≤ w.heap.size) (hG : gok (M : Int) L = true) (hs : s < M) (ho : o < M)  :
    Calls Try.prog 37 #[.agg #[.int .i64 (M : Int), v], .int .i64 (s : Int), .int .i64 (o : Int)] w (fun e w' => (∃ S W, StepsP (M : Int) L (o : Int) S W ∧ e = .returned (.int .i64 (W (s : Int)))) ∧ Below w.heap.size w w') := by
  have HR := Lib.hid hr
  have HG := Lib.hid hG
  have HL := Lib.hid hL
  have hN1 := (gok_parts hG).1
  have hN2 := (gok_parts hG).2.1
  have HO2 : Hid (0 ≤ (o : Int) ∧ (o : Int) < (M : Int)) := ⟨by omega, by omega⟩
  have HS2 : Hid (0 ≤ (s : Int) ∧ (s : Int) < (M : Int)) := ⟨by omega, by omega⟩
  have hns : ndB (M : Int) (s : Int) = true := by unfold ndB; rw [inB_iff]; omega
  have hno : ndB (M : Int) (o : Int) = true := by unfold ndB; rw [inB_iff]; omega
  obtain ⟨ad, cp, rfl⟩ := hr.slice
  clear hr hG
  go_enter Try.func37, Try.ntmps37
  go_wp2_with fail
  go_at_call 47
  refine (sgok_any (M : Int) lo hi n _ L _ hL (HR.out.below (B := w.heap.size) (by go_grown) (by omega)) (by simp; omega)).mono ?_
  rw [HG.out]
  rintro e v1 ⟨rfl, hb1⟩
  have sz1 : w.heap.size + 1 ≤ v1.heap.size := by have hh := hb1.size; simp at hh; omega
  have st1 : Below w.heap.size w v1 := Below.trans (by go_grown) (hb1.mono (by simp))
  have c1_0 : v1.cell? ⟨w.heap.size, 0, none⟩ = some (.int .i64 (M : Int)) := by rw [(bcell hb1).1 _ _ (by simp)]; first | (rw [new_at (by simp)]; rfl) | simp
  have c1_1 : v1.cell? ⟨w.heap.size, 1, none⟩ = some (.slice ad n cp) := by rw [(bcell hb1).1 _ _ (by simp)]; first | (rw [new_at (by simp)]; rfl) | simp
  have B1 : Hid (Below w.heap.size w v1) := st1
  have R1_0 : Hid (Row 3 v1 (lo) (hi) (.slice ad n cp) n (flat L)) := HR.out.below st1 (by omega)
  have d1_0 : w.heap.size < v1.heap.size := by omega
  have e1_0 : w.heap.size ≠ v1.heap.size := by omega
  clear st1 HR hb1
  go_wp2_with fail
  go_at_call 48
  refine (node_any (M : Int) _ _ _ (s : Int) _ hN1 hN2).mono ?_
  rw [hns]
  rintro e v2 ⟨rfl, hb2⟩
  have sz2 : v1.heap.size ≤ v2.heap.size := hb2.size
  have st2 : Below v1.heap.size v1 v2 := hb2
  have c2_0 : v2.cell? ⟨w.heap.size, 0, none⟩ = some (.int .i64 (M : Int)) := by rw [(bcell st2).1 _ _ (by omega)]; exact c1_0
  have c2_1 : v2.cell? ⟨w.heap.size, 1, none⟩ = some (.slice ad n cp) := by rw [(bcell st2).1 _ _ (by omega)]; exact c1_1
  have B2 : Hid (Below w.heap.size w v2) := B1.out.trans (st2.mono (by omega))
  have R2_0 : Hid (Row 3 v2 (lo) (hi) (.slice ad n cp) n (flat L)) := R1_0.out.below st2 (by omega)
  have d2_0 : w.heap.size < v2.heap.size := by omega
  have e2_0 : w.heap.size ≠ v2.heap.size := by omega
  clear d1_0 e1_0 c1_0 c1_1 B1 st2 R1_0 hb2
  go_wp2_with fail
  go_at_call 48
  refine (node_any (M : Int) _ _ _ (o : Int) _ hN1 hN2).mono ?_
  rw [hno]
  rintro e v3 ⟨rfl, hb3⟩
  have sz3 : v2.heap.size ≤ v3.heap.size := hb3.size
  have st3 : Below v2.heap.size v2 v3 := hb3
  have c3_0 : v3.cell? ⟨w.heap.size, 0, none⟩ = some (.int .i64 (M : Int)) := by rw [(bcell st3).1 _ _ (by omega)]; exact c2_0
  have c3_1 : v3.cell? ⟨w.heap.size, 1, none⟩ = some (.slice ad n cp) := by rw [(bcell st3).1 _ _ (by omega)]; exact c2_1
  have B3 : Hid (Below w.heap.size w v3) := B2.out.trans (st3.mono (by omega))
  have R3_0 : Hid (Row 3 v3 (lo) (hi) (.slice ad n cp) n (flat L)) := R2_0.out.below st3 (by omega)
  have d3_0 : w.heap.size < v3.heap.size := by omega
  have e3_0 : w.heap.size ≠ v3.heap.size := by omega
  clear d2_0 e2_0 c2_0 c2_1 B2 st3 R2_0 hb3
  clear hns hno
  go_wp2_with fail
  go_at_call 70
  refine (ssteps_any M lo hi n _ L o _ hL R3_0.out (by omega) HG.out ho).mono ?_
  rintro e v4 ⟨gs, gw, S, W, rfl, hrs, hrw, hst, hb4⟩
  have sz4 : v3.heap.size ≤ v4.heap.size := hb4.size
  have st4 : Below v3.heap.size v3 v4 := hb4
  have c4_0 : v4.cell? ⟨w.heap.size, 0, none⟩ = some (.int .i64 (M : Int)) := by rw [(bcell st4).1 _ _ (by omega)]; exact c3_0
  have c4_1 : v4.cell? ⟨w.heap.size, 1, none⟩ = some (.slice ad n cp) := by rw [(bcell st4).1 _ _ (by omega)]; exact c3_1
  have B4 : Hid (Below w.heap.size w v4) := B3.out.trans (st4.mono (by omega))
  have R4_0 : Hid (Row 3 v4 (lo) (hi) (.slice ad n cp) n (flat L)) := R3_0.out.below st4 (by omega)
  have d4_0 : w.heap.size < v4.heap.size := by omega
  have e4_0 : w.heap.size ≠ v4.heap.size := by omega
  clear d3_0 e3_0 c3_0 c3_1 B3 st4 R3_0 hb4
  obtain ⟨_, _, hwc⟩ := row_at (by omega) hrw
  have z0 := hwc s _ (tabI_at _ hs)
  obtain ⟨ws, hws⟩ : ∃ x, x = W (s : Int) := ⟨_, rfl⟩
  rw [← hws] at z0
  have HT : Hid (StepsP (M : Int) L (o : Int) S W ∧ ws = W (s : Int)) := ⟨hst, hws⟩
  have p1 : (0 : Int) ≤ (s : Int) := by omega
  have p2 : (s : Int) < (M : Int) := by omega
  clear hrs hrw hst hwc hws
  go_wp2_with fail
  go_ret
  exact ⟨⟨S, W, HT.out.1, by rw [← HT.out.2]; rfl⟩, B4.out⟩

theorem scount_any (N : Int) (lo hi n : Nat) (v : Value) (L : List Ed) (x y : Int) (w : World) (hL : L.length = n) (hr : Row 3 w lo hi v n (flat L)) (hh : hi ≤ w.heap.size) :
    Calls Try.prog 37 #[.agg #[.int .i64 N, v], .int .i64 x, .int .i64 y] w fun e w' => (∃ c, e = .returned (.int .i64 c) ∧ scnP N L x y c) ∧ Below w.heap.size w w' := by
  by_cases hG : gok N L = true
  · have hN := gok_parts hG
    by_cases hx : ndB N x = true
    · by_cases hy : ndB N y = true
      · obtain ⟨M, rfl⟩ : ∃ M : Nat, N = (M : Int) := ⟨N.toNat, by omega⟩
        have hx' := hx
        have hy' := hy
        unfold ndB at hx' hy'
        rw [inB_iff] at hx' hy'
        obtain ⟨s, rfl⟩ : ∃ s : Nat, x = (s : Int) := ⟨x.toNat, by omega⟩
        obtain ⟨o, rfl⟩ : ∃ o : Nat, y = (o : Int) := ⟨y.toNat, by omega⟩
        refine (scn_yes M lo hi n v L s o w hL hr hh hG (by omega) (by omega)).mono ?_
        rintro e w' ⟨⟨S, W, h1, h2⟩, h3⟩
        exact ⟨⟨_, h2, by unfold scnP; rw [if_pos ⟨hG, hx, hy⟩]; exact ⟨S, W, h1, rfl⟩⟩, h3⟩
      · refine (scn_no2 N lo hi n v L x y w hL hr hh ⟨hG, hx, by simpa using hy⟩).mono ?_
        rintro e w' ⟨h2, h3⟩
        exact ⟨⟨_, h2, by unfold scnP; rw [if_neg (fun h => hy h.2.2)]⟩, h3⟩
    · refine (scn_no1 N lo hi n v L x y w hL hr hh ⟨hG, by simpa using hx⟩).mono ?_
      rintro e w' ⟨h2, h3⟩
      exact ⟨⟨_, h2, by unfold scnP; rw [if_neg (fun h => hx h.2.1)]⟩, h3⟩
  · refine (scn_no0 N lo hi n v L x y w hL hr hh (by simpa using hG)).mono ?_
    rintro e w' ⟨h2, h3⟩
    exact ⟨⟨_, h2, by unfold scnP; rw [if_neg (fun h => hG h.1)]⟩, h3⟩

set_option maxRecDepth 100000 in
set_option maxHeartbeats 2400000 in
theorem icnt_no0 (N : Int) (lo hi n : Nat) (v : Value) (L : List Ed) (x y : Int) (w : World) (hL : L.length = n) (hr : Row 3 w lo hi v n (flat L)) (hh : hi ≤ w.heap.size) (hn : gok N L = false) :
    Calls Try.prog 36 #[.agg #[.int .i64 N, v], .int .i64 x, .int .i64 y] w fun e w' => e = .returned (.int .i64 (-1)) ∧ Below w.heap.size w w' := by
  have HR := Lib.hid hr
  have Hn := Lib.hid hn
  obtain ⟨ad, cp, rfl⟩ := hr.slice
  clear hr hn
  go_enter Try.func36, Try.ntmps36
  go_wp2_with fail
  go_at_call 51
  refine (igok_any N lo hi n _ L _ hL (HR.out.below (B := w.heap.size) (by go_grown) (by omega)) (by simp; omega)).mono ?_
  rw [Hn.out]
  rintro e v1 ⟨rfl, hb1⟩
  have sz1 : w.heap.size + 1 ≤ v1.heap.size := by have hh := hb1.size; simp at hh; omega
  have st1 : Below w.heap.size w v1 := Below.trans (by go_grown) (hb1.mono (by simp))
  have c1_0 : v1.cell? ⟨w.heap.size, 0, none⟩ = some (.int .i64 N) := by rw [(bcell hb1).1 _ _ (by simp)]; first | (rw [new_at (by simp)]; rfl) | simp
  have c1_1 : v1.cell? ⟨w.heap.size, 1, none⟩ = some (.slice ad n cp) := by rw [(bcell hb1).1 _ _ (by simp)]; first | (rw [new_at (by simp)]; rfl) | simp
  have B1 : Hid (Below w.heap.size w v1) := st1
  have R1_0 : Hid (Row 3 v1 (lo) (hi) (.slice ad n cp) n (flat L)) := HR.out.below st1 (by omega)
  have d1_0 : w.heap.size < v1.heap.size := by omega
  have e1_0 : w.heap.size ≠ v1.heap.size := by omega
  clear st1 HR hb1
  go_wp2_with fail
  go_ret
  exact ⟨rfl, B1.out⟩

set_option maxRecDepth 100000 in
set_option maxHeartbeats 2400000 in
theorem icnt_no1 (N : Int) (lo hi n : Nat) (v : Value) (L : List Ed) (x y : Int) (w : World) (hL : L.length = n) (hr : Row 3 w lo hi v n (flat L)) (hh : hi ≤ w.heap.size) (hn : gok N L = true ∧ ndB N x = false) :
    Calls Try.prog 36 #[.agg #[.int .i64 N, v], .int .i64 x, .int .i64 y] w fun e w' => e = .returned (.int .i64 (-1)) ∧ Below w.heap.size w w' := by
  have HR := Lib.hid hr
  have Hn := Lib.hid hn
  obtain ⟨ad, cp, rfl⟩ := hr.slice
  clear hr hn
  go_enter Try.func36, Try.ntmps36
  go_wp2_with fail
  go_at_call 51
  refine (igok_any N lo hi n _ L _ hL (HR.out.below (B := w.heap.size) (by go_grown) (by omega)) (by simp; omega)).mono ?_
  rw [Hn.out.1]
  rintro e v1 ⟨rfl, hb1⟩
  have sz1 : w.heap.size + 1 ≤ v1.heap.size := by have hh := hb1.size; simp at hh; omega
  have st1 : Below w.heap.size w v1 := Below.trans (by go_grown) (hb1.mono (by simp))
  have c1_0 : v1.cell? ⟨w.heap.size, 0, none⟩ = some (.int .i64 N) := by rw [(bcell hb1).1 _ _ (by simp)]; first | (rw [new_at (by simp)]; rfl) | simp
  have c1_1 : v1.cell? ⟨w.heap.size, 1, none⟩ = some (.slice ad n cp) := by rw [(bcell hb1).1 _ _ (by simp)]; first | (rw [new_at (by simp)]; rfl) | simp
  have B1 : Hid (Below w.heap.size w v1) := st1
  have R1_0 : Hid (Row 3 v1 (lo) (hi) (.slice ad n cp) n (flat L)) := HR.out.below st1 (by omega)
  have d1_0 : w.heap.size < v1.heap.size := by omega
  have e1_0 : w.heap.size ≠ v1.heap.size := by omega
  clear st1 HR hb1
  go_wp2_with fail
  go_at_call 52
  refine (hasNode_any N _ _ _ x _).mono ?_
  rw [Hn.out.2]
  rintro e v2 ⟨rfl, hb2⟩
  have sz2 : v1.heap.size ≤ v2.heap.size := hb2.size
  have st2 : Below v1.heap.size v1 v2 := hb2
  have c2_0 : v2.cell? ⟨w.heap.size, 0, none⟩ = some (.int .i64 N) := by rw [(bcell st2).1 _ _ (by omega)]; exact c1_0
  have c2_1 : v2.cell? ⟨w.heap.size, 1, none⟩ = some (.slice ad n cp) := by rw [(bcell st2).1 _ _ (by omega)]; exact c1_1
  have B2 : Hid (Below w.heap.size w v2) := B1.out.trans (st2.mono (by omega))
  have R2_0 : Hid (Row 3 v2 (lo) (hi) (.slice ad n cp) n (flat L)) := R1_0.out.below st2 (by omega)
  have d2_0 : w.heap.size < v2.heap.size := by omega
  have e2_0 : w.heap.size ≠ v2.heap.size := by omega
  clear d1_0 e1_0 c1_0 c1_1 B1 st2 R1_0 hb2
  go_wp2_with fail
  go_ret
  exact ⟨rfl, B2.out⟩

set_option maxRecDepth 100000 in
set_option maxHeartbeats 2400000 in
theorem icnt_no2 (N : Int) (lo hi n : Nat) (v : Value) (L : List Ed) (x y : Int) (w : World) (hL : L.length = n) (hr : Row 3 w lo hi v n (flat L)) (hh : hi ≤ w.heap.size) (hn : gok N L = true ∧ ndB N x = true ∧ ndB N y = false) :
    Calls Try.prog 36 #[.agg #[.int .i64 N, v], .int .i64 x, .int .i64 y] w fun e w' => e = .returned (.int .i64 (-1)) ∧ Below w.heap.size w w' := by
  have HR := Lib.hid hr
  have Hn := Lib.hid hn
  obtain ⟨ad, cp, rfl⟩ := hr.slice
  clear hr hn
  go_enter Try.func36, Try.ntmps36
  go_wp2_with fail
  go_at_call 51
  refine (igok_any N lo hi n _ L _ hL (HR.out.below (B := w.heap.size) (by go_grown) (by omega)) (by simp; omega)).mono ?_
  rw [Hn.out.1]
  rintro e v1 ⟨rfl, hb1⟩
  have sz1 : w.heap.size + 1 ≤ v1.heap.size := by have hh := hb1.size; simp at hh; omega
  have st1 : Below w.heap.size w v1 := Below.trans (by go_grown) (hb1.mono (by simp))
  have c1_0 : v1.cell? ⟨w.heap.size, 0, none⟩ = some (.int .i64 N) := by rw [(bcell hb1).1 _ _ (by simp)]; first | (rw [new_at (by simp)]; rfl) | simp
  have c1_1 : v1.cell? ⟨w.heap.size, 1, none⟩ = some (.slice ad n cp) := by rw [(bcell hb1).1 _ _ (by simp)]; first | (rw [new_at (by simp)]; rfl) | simp
  have B1 : Hid (Below w.heap.size w v1) := st1
  have R1_0 : Hid (Row 3 v1 (lo) (hi) (.slice ad n cp) n (flat L)) := HR.out.below st1 (by omega)
  have d1_0 : w.heap.size < v1.heap.size := by omega
  have e1_0 : w.heap.size ≠ v1.heap.size := by omega
  clear st1 HR hb1
  go_wp2_with fail
  go_at_call 52
  refine (hasNode_any N _ _ _ x _).mono ?_
  rw [Hn.out.2.1]
  rintro e v2 ⟨rfl, hb2⟩
  have sz2 : v1.heap.size ≤ v2.heap.size := hb2.size
  have st2 : Below v1.heap.size v1 v2 := hb2
  have c2_0 : v2.cell? ⟨w.heap.size, 0, none⟩ = some (.int .i64 N) := by rw [(bcell st2).1 _ _ (by omega)]; exact c1_0
  have c2_1 : v2.cell? ⟨w.heap.size, 1, none⟩ = some (.slice ad n cp) := by rw [(bcell st2).1 _ _ (by omega)]; exact c1_1
  have B2 : Hid (Below w.heap.size w v2) := B1.out.trans (st2.mono (by omega))
  have R2_0 : Hid (Row 3 v2 (lo) (hi) (.slice ad n cp) n (flat L)) := R1_0.out.below st2 (by omega)
  have d2_0 : w.heap.size < v2.heap.size := by omega
  have e2_0 : w.heap.size ≠ v2.heap.size := by omega
  clear d1_0 e1_0 c1_0 c1_1 B1 st2 R1_0 hb2
  go_wp2_with fail
  go_at_call 52
  refine (hasNode_any N _ _ _ y _).mono ?_
  rw [Hn.out.2.2]
  rintro e v3 ⟨rfl, hb3⟩
  have sz3 : v2.heap.size ≤ v3.heap.size := hb3.size
  have st3 : Below v2.heap.size v2 v3 := hb3
  have c3_0 : v3.cell? ⟨w.heap.size, 0, none⟩ = some (.int .i64 N) := by rw [(bcell st3).1 _ _ (by omega)]; exact c2_0
  have c3_1 : v3.cell? ⟨w.heap.size, 1, none⟩ = some (.slice ad n cp) := by rw [(bcell st3).1 _ _ (by omega)]; exact c2_1
  have B3 : Hid (Below w.heap.size w v3) := B2.out.trans (st3.mono (by omega))
  have R3_0 : Hid (Row 3 v3 (lo) (hi) (.slice ad n cp) n (flat L)) := R2_0.out.below st3 (by omega)
  have d3_0 : w.heap.size < v3.heap.size := by omega
  have e3_0 : w.heap.size ≠ v3.heap.size := by omega
  clear d2_0 e2_0 c2_0 c2_1 B2 st3 R2_0 hb3
  go_wp2_with fail
  go_ret
  exact ⟨rfl, B3.out⟩

theorem icount_any (N : Int) (lo hi n : Nat) (v : Value) (L : List Ed) (x y : Int) (w : World) (hL : L.length = n) (hr : Row 3 w lo hi v n (flat L)) (hh : hi ≤ w.heap.size) :
    Calls Try.prog 36 #[.agg #[.int .i64 N, v], .int .i64 x, .int .i64 y] w fun e w' => (∃ c, e = .returned (.int .i64 c) ∧ (gok N L = true ∧ ndB N x = true ∧ ndB N y = true → ∃ P : List Tr, Found L x P ∧ P.length ≤ 10 ∧ c = (prs L P).foldl stW (upd (fun _ => 0) x 1) y) ∧ (¬ (gok N L = true ∧ ndB N x = true ∧ ndB N y = true) → c = -1)) ∧ Below w.heap.size w w' := by
  by_cases hG : gok N L = true
  · have hN := gok_parts hG
    by_cases hx : ndB N x = true
    · by_cases hy : ndB N y = true
      · obtain ⟨M, rfl⟩ : ∃ M : Nat, N = (M : Int) := ⟨N.toNat, by omega⟩
        have hx' := hx
        have hy' := hy
        unfold ndB at hx' hy'
        rw [inB_iff] at hx' hy'
        obtain ⟨s, rfl⟩ : ∃ s : Nat, x = (s : Int) := ⟨x.toNat, by omega⟩
        obtain ⟨o, rfl⟩ : ∃ o : Nat, y = (o : Int) := ⟨y.toNat, by omega⟩
        refine (icnt_yes M lo hi n v L s o w hL hr hh hG (by omega) (by omega)).mono ?_
        rintro e w' ⟨⟨P, h1, h2, h3⟩, h4⟩
        exact ⟨⟨_, h3, fun _ => ⟨P, h1, h2, rfl⟩, fun h => absurd ⟨hG, hx, hy⟩ h⟩, h4⟩
      · refine (icnt_no2 N lo hi n v L x y w hL hr hh ⟨hG, hx, by simpa using hy⟩).mono ?_
        rintro e w' ⟨h2, h3⟩
        exact ⟨⟨_, h2, fun h => absurd h.2.2 hy, fun _ => rfl⟩, h3⟩
    · refine (icnt_no1 N lo hi n v L x y w hL hr hh ⟨hG, by simpa using hx⟩).mono ?_
      rintro e w' ⟨h2, h3⟩
      exact ⟨⟨_, h2, fun h => absurd h.2.1 hx, fun _ => rfl⟩, h3⟩
  · refine (icnt_no0 N lo hi n v L x y w hL hr hh (by simpa using hG)).mono ?_
    rintro e w' ⟨h2, h3⟩
    exact ⟨⟨_, h2, fun h => absurd h.1 hG, fun _ => rfl⟩, h3⟩
/-- Both sides count the same ways. -/
theorem count_same {N : Int} {L : List Ed} {x y c d : Int} (h1 : scnP N L x y c) (h2 : gok N L = true ∧ ndB N x = true ∧ ndB N y = true → ∃ P : List Tr, Found L x P ∧ P.length ≤ 10 ∧ d = (prs L P).foldl stW (upd (fun _ => 0) x 1) y) (h3 : ¬ (gok N L = true ∧ ndB N x = true ∧ ndB N y = true) → d = -1) : d = c := by
  unfold scnP at h1
  by_cases hc : gok N L = true ∧ ndB N x = true ∧ ndB N y = true
  · rw [if_pos hc] at h1
    obtain ⟨S, W, hst, rfl⟩ := h1
    obtain ⟨P, hF, hP, rfl⟩ := h2 hc
    have hx' := hc.2.1
    have hy' := hc.2.2
    unfold ndB at hx' hy'
    rw [inB_iff] at hx' hy'
    have hs : 0 ≤ x ∧ x < N := ⟨by omega, by omega⟩
    have ho : 0 ≤ y ∧ y < N := ⟨by omega, by omega⟩
    rw [show prs L P = prsK L P P.length from rfl, prs_wrap hc.1 hs hF hP P.length (Nat.le_refl _)]
    exact ways_flow hc.1 hs ho hF hst
  · rw [if_neg hc] at h1
    rw [h1, h3 hc]

theorem StepsP.uniq {N : Int} {L : List Ed} {o : Int} {S W S' W' : Int → Int} (hG : gok N L = true) (h : StepsP N L o S W) (h' : StepsP N L o S' W') : ∀ (m : Nat) (x : Int), 0 ≤ x ∧ x < N → (dsT N L x o).toNat ≤ m → W x = W' x := by
  intro m
  induction m with
  | zero =>
    intro x hx hm
    by_cases hd : dsT N L x o = Far
    · rw [(h.far x hx hd).2, (h'.far x hx hd).2]
    · by_cases e : x = o
      · rw [(h.step x hx hd).2.2.1 e, (h'.step x hx hd).2.2.1 e]
      · rw [(h.step x hx hd).2.2.2 e, (h'.step x hx hd).2.2.2 e]
        refine psum_congr _ (fun i _ => ?_)
        by_cases ht : tgP N L o x (i : Int)
        · have := (tgP.facts hG ht).2.2.1
          have h0 := (dsT_bnd (s := (i : Int)) hG (tgP.facts hG ht).2.1 o).1
          omega
        · rw [if_neg ht, if_neg ht]
  | succ m ih =>
    intro x hx hm
    by_cases hd : dsT N L x o = Far
    · rw [(h.far x hx hd).2, (h'.far x hx hd).2]
    · by_cases e : x = o
      · rw [(h.step x hx hd).2.2.1 e, (h'.step x hx hd).2.2.1 e]
      · rw [(h.step x hx hd).2.2.2 e, (h'.step x hx hd).2.2.2 e]
        refine psum_congr _ (fun i _ => ?_)
        by_cases ht : tgP N L o x (i : Int)
        · rw [if_pos ht, if_pos ht]
          have := (tgP.facts hG ht).2.2.1
          have h0 := (dsT_bnd (s := (i : Int)) hG (tgP.facts hG ht).2.1 o).1
          exact ih _ (tgP.facts hG ht).2.1 (by omega)
        · rw [if_neg ht, if_neg ht]
theorem scnP_uniq {N : Int} {L : List Ed} {x y c d : Int} (h : scnP N L x y c) (h' : scnP N L x y d) : c = d := by
  unfold scnP at h h'
  by_cases hc : gok N L = true ∧ ndB N x = true ∧ ndB N y = true
  · rw [if_pos hc] at h h'
    obtain ⟨S, W, h1, rfl⟩ := h
    obtain ⟨S', W', h1', rfl⟩ := h'
    have hx' := hc.2.1
    unfold ndB at hx'
    rw [inB_iff] at hx'
    exact h1.uniq hc.1 h1' _ x ⟨by omega, by omega⟩ (Nat.le_refl _)
  · rw [if_neg hc] at h h'
    rw [h, h']
theorem calls_ends {P : Program} {f : FuncId} {args : Array Value} {w : World} {R : Ending → World → Prop} (h : Calls P f args w R) : ∃ e w', R e w' := by
  obtain ⟨e, w', _, hR, _⟩ := h []
  exact ⟨e, w', hR⟩
/-- What CountWays answers. -/
noncomputable def cntN (N : Int) (L : List Ed) (x y : Int) : Int := open Classical in if h : ∃ c, scnP N L x y c then h.choose else 0
theorem cntN_eq {N : Int} {L : List Ed} {x y c : Int} (h : scnP N L x y c) : cntN N L x y = c := by
  unfold cntN
  have hex : ∃ c, scnP N L x y c := ⟨c, h⟩
  rw [dif_pos hex]
  exact scnP_uniq hex.choose_spec h
/-- CountWays of the model and of the program answer one and the same. -/
theorem scnt_any (N : Int) (lo hi n : Nat) (v : Value) (L : List Ed) (x y : Int) (w : World) (hL : L.length = n) (hr : Row 3 w lo hi v n (flat L)) (hh : hi ≤ w.heap.size) :
    Calls Try.prog 37 #[.agg #[.int .i64 N, v], .int .i64 x, .int .i64 y] w fun e w' => e = .returned (.int .i64 (cntN N L x y)) ∧ Below w.heap.size w w' := by
  refine (scount_any N lo hi n v L x y w hL hr hh).mono ?_
  rintro e w' ⟨⟨c, rfl, hc⟩, hb⟩
  exact ⟨by rw [cntN_eq hc], hb⟩
theorem icnt_any (N : Int) (lo hi n : Nat) (v : Value) (L : List Ed) (x y : Int) (w : World) (hL : L.length = n) (hr : Row 3 w lo hi v n (flat L)) (hh : hi ≤ w.heap.size) :
    Calls Try.prog 36 #[.agg #[.int .i64 N, v], .int .i64 x, .int .i64 y] w fun e w' => e = .returned (.int .i64 (cntN N L x y)) ∧ Below w.heap.size w w' := by
  obtain ⟨_, _, ⟨c, _, hc⟩, _⟩ := calls_ends (scount_any N lo hi n v L x y w hL hr hh)
  refine (icount_any N lo hi n v L x y w hL hr hh).mono ?_
  rintro e w' ⟨⟨d, rfl, h1, h2⟩, hb⟩
  exact ⟨by rw [cntN_eq hc, count_same hc h1 h2], hb⟩

end Go.Proofs.Ytjenjdhoblcohaa
