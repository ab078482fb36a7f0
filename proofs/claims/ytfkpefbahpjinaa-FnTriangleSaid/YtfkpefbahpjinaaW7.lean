/- CostOf of the model and of the program as contracts. -/
import Derived.Test.YtfkpefbahpjinaaW6
namespace Go.Proofs.Ytfkpefbahpjinaa
open Go.RowKit


def rowT (L : List Ed) (x : Int) : Array Value := (tabOf L).extract (x.toNat * 10) (x.toNat * 10 + 10)
theorem index68 (L : List Ed) (x : Int) (h : 0 ≤ x ∧ x < 10) (w : World) : (Instr.index 58 (.agg (tabOf L)) (.int .i64 x)).run Try.prog w = .ok (.agg (rowT L x)) w := by
  simp [Instr.index, run_underlying Try.underlying58, asIntOf, h, go_sem, part, rowT]
theorem tabOf_at (L : List Ed) (x y : Int) (hx : 0 ≤ x ∧ x < 10) (hy : 0 ≤ y ∧ y < 10) : (tabOf L)[x.toNat * 10 + y.toNat]? = some (.int .i64 (cst L x y)) := by
  unfold tabOf
  rw [tabA_at _ (by omega), show (x.toNat * 10 + y.toNat) / 10 = x.toNat by omega, show (x.toNat * 10 + y.toNat) % 10 = y.toNat by omega, show ((x.toNat : Nat) : Int) = x by omega, show ((y.toNat : Nat) : Int) = y by omega]
theorem rowT_at (L : List Ed) (x y : Int) (hx : 0 ≤ x ∧ x < 10) (hy : 0 ≤ y ∧ y < 10) : (rowT L x)[y.toNat]? = some (.int .i64 (cst L x y)) := by
  unfold rowT
  rw [Array.getElem?_extract, if_pos (by rw [show (tabOf L).size = 100 by rw [tabOf, tabA_size]]; omega)]
  exact tabOf_at L x y hx hy
theorem index66 (L : List Ed) (x y : Int) (hx : 0 ≤ x ∧ x < 10) (hy : 0 ≤ y ∧ y < 10) (w : World) : (Instr.index 56 (.agg (rowT L x)) (.int .i64 y)).run Try.prog w = .ok (.int .i64 (cst L x y)) w := by
  have h := rowT_at L x y hx hy
  simp [Instr.index, run_underlying Try.underlying56, asIntOf, hy, go_sem, part, h]
theorem costs_any (N : Int) (lo hi n : Nat) (v : Value) (L : List Ed) (w : World) (hG : gok N L = true) (hL : L.length = n) (hr : Row 3 w lo hi v n (flat L)) (hh : hi ≤ w.heap.size) :
    Calls Try.prog 42 #[.agg #[.int .i64 N, v]] w fun e w' => e = .returned (.agg (tabOf L)) ∧ Below w.heap.size w w' := by
  obtain ⟨a, c, rfl, hn, hc⟩ := hr.opened
  refine costs_row N a n c L w hG hL hn fun h0 => ?_
  obtain ⟨g, h1, h2, h3⟩ := hc h0
  exact ⟨g, h1, by omega, h3⟩
def cofM (N : Int) (L : List Ed) (x y : Int) : Int := if gok N L = true then scost N L x y else -1

set_option maxHeartbeats 2000000 in
theorem icof_any (N : Int) (lo hi n : Nat) (v : Value) (L : List Ed) (x y : Int) (w : World) (hL : L.length = n) (hr : Row 3 w lo hi v n (flat L)) (hh : hi ≤ w.heap.size) :
    Calls Try.prog 16 #[.agg #[.int .i64 N, v], .int .i64 x, .int .i64 y] w fun e w' => e = .returned (.int .i64 (cofM N L x y)) ∧ Below w.heap.size w w' := by
  have HR := Lib.hid hr
  obtain ⟨ad, cp, rfl⟩ := hr.slice
  clear hr
  by_cases hG : gok N L = true
  · have e : cofM N L x y = scost N L x y := by unfold cofM; rw [if_pos hG]
    rw [e]
    clear e
    have hN1 := (gok_parts hG).1
    have hN2 := (gok_parts hG).2.1
    by_cases h1 : ndB N x = true
    · by_cases h2 : ndB N y = true
      · by_cases h3 : x = y
        · have e : scost N L x y = 0 := by unfold scost; rw [if_pos ⟨h1, h2⟩, if_pos h3]
          rw [e]
          have h4 : (x == y) = true := by simp [h3]
          clear h3 e
          go_enter Try.func16, Try.ntmps16
          go_wp2_with fail
          go_at_call 40
          refine (igok_any N lo hi n _ L _ hL (HR.out.below (B := w.heap.size) (by go_grown) (by omega)) (by simp; omega)).mono ?_
          rw [hG]
          rintro e v1 ⟨rfl, hb1⟩
          have sz1 : w.heap.size + 1 ≤ v1.heap.size := by have hh := hb1.size; simp at hh; omega
          have st1 : Below w.heap.size w v1 := Below.trans (by go_grown) (hb1.mono (by simp))
          have c1_0 : v1.cell? ⟨w.heap.size, 0, none⟩ = some (.int .i64 N) := by rw [(bcell hb1).1 _ _ (by simp)]; simp
          have c1_1 : v1.cell? ⟨w.heap.size, 1, none⟩ = some (.slice ad n cp) := by rw [(bcell hb1).1 _ _ (by simp)]; simp
          have B1 : Hid (Below w.heap.size w v1) := st1
          have R1_0 : Hid (Row 3 v1 (lo) (hi) (.slice ad n cp) n (flat L)) := HR.out.below st1 (by omega)
          have d1_0 : w.heap.size < v1.heap.size := by omega
          have e1_0 : w.heap.size ≠ v1.heap.size := by omega
          clear st1 HR hb1
          go_wp2_with fail
          go_at_call 41
          refine (hasNode_any N _ _ _ x _).mono ?_
          rw [h1]
          rintro e v2 ⟨rfl, hb2⟩
          have sz2 : v1.heap.size ≤ v2.heap.size := hb2.size
          have st2 : Below v1.heap.size v1 v2 := hb2
          have c2_0 : v2.cell? ⟨w.heap.size, 0, none⟩ = some (.int .i64 N) := by rw [(bcell st2).1 _ _ (by omega)]; exact c1_0
          have c2_1 : v2.cell? ⟨w.heap.size, 1, none⟩ = some (.slice ad n cp) := by rw [(bcell st2).1 _ _ (by omega)]; exact c1_1
          have B2 : Hid (Below w.heap.size w v2) := B1.out.trans (st2.mono (by omega))
          have R2_0 : Hid (Row 3 v2 (lo) (hi) (.slice ad n cp) n (flat L)) := R1_0.out.below st2 (by omega)
          have d2_0 : w.heap.size < v2.heap.size := by omega
          have e2_0 : w.heap.size ≠ v2.heap.size := by omega
          clear d1_0 e1_0 c1_0 c1_1 B1 st2 R1_0 hb2
          go_wp2_with fail
          go_at_call 41
          refine (hasNode_any N _ _ _ y _).mono ?_
          rw [h2]
          rintro e v3 ⟨rfl, hb3⟩
          have sz3 : v2.heap.size ≤ v3.heap.size := hb3.size
          have st3 : Below v2.heap.size v2 v3 := hb3
          have c3_0 : v3.cell? ⟨w.heap.size, 0, none⟩ = some (.int .i64 N) := by rw [(bcell st3).1 _ _ (by omega)]; exact c2_0
          have c3_1 : v3.cell? ⟨w.heap.size, 1, none⟩ = some (.slice ad n cp) := by rw [(bcell st3).1 _ _ (by omega)]; exact c2_1
          have B3 : Hid (Below w.heap.size w v3) := B2.out.trans (st3.mono (by omega))
          have R3_0 : Hid (Row 3 v3 (lo) (hi) (.slice ad n cp) n (flat L)) := R2_0.out.below st3 (by omega)
          have d3_0 : w.heap.size < v3.heap.size := by omega
          have e3_0 : w.heap.size ≠ v3.heap.size := by omega
          clear d2_0 e2_0 c2_0 c2_1 B2 st3 R2_0 hb3
          go_wp2_with fail
          go_ret
          exact ⟨rfl, B3.out⟩
        · have e : scost N L x y = cst L x y := by unfold scost; rw [if_pos ⟨h1, h2⟩, if_neg h3]
          rw [e]
          have h4 : (x == y) = false := by simp [h3]
          have hx : 0 ≤ x ∧ x < 10 := by unfold ndB at h1; rw [inB_iff] at h1; omega
          have hy : 0 ≤ y ∧ y < 10 := by unfold ndB at h2; rw [inB_iff] at h2; omega
          have i1 := index68 L x hx
          have i2 := index66 L x y hx hy
          clear h3 e
          go_enter Try.func16, Try.ntmps16
          go_wp2_with fail
          go_at_call 40
          refine (igok_any N lo hi n _ L _ hL (HR.out.below (B := w.heap.size) (by go_grown) (by omega)) (by simp; omega)).mono ?_
          rw [hG]
          rintro e v1 ⟨rfl, hb1⟩
          have sz1 : w.heap.size + 1 ≤ v1.heap.size := by have hh := hb1.size; simp at hh; omega
          have st1 : Below w.heap.size w v1 := Below.trans (by go_grown) (hb1.mono (by simp))
          have c1_0 : v1.cell? ⟨w.heap.size, 0, none⟩ = some (.int .i64 N) := by rw [(bcell hb1).1 _ _ (by simp)]; simp
          have c1_1 : v1.cell? ⟨w.heap.size, 1, none⟩ = some (.slice ad n cp) := by rw [(bcell hb1).1 _ _ (by simp)]; simp
          have B1 : Hid (Below w.heap.size w v1) := st1
          have R1_0 : Hid (Row 3 v1 (lo) (hi) (.slice ad n cp) n (flat L)) := HR.out.below st1 (by omega)
          have d1_0 : w.heap.size < v1.heap.size := by omega
          have e1_0 : w.heap.size ≠ v1.heap.size := by omega
          clear st1 HR hb1
          go_wp2_with fail
          go_at_call 41
          refine (hasNode_any N _ _ _ x _).mono ?_
          rw [h1]
          rintro e v2 ⟨rfl, hb2⟩
          have sz2 : v1.heap.size ≤ v2.heap.size := hb2.size
          have st2 : Below v1.heap.size v1 v2 := hb2
          have c2_0 : v2.cell? ⟨w.heap.size, 0, none⟩ = some (.int .i64 N) := by rw [(bcell st2).1 _ _ (by omega)]; exact c1_0
          have c2_1 : v2.cell? ⟨w.heap.size, 1, none⟩ = some (.slice ad n cp) := by rw [(bcell st2).1 _ _ (by omega)]; exact c1_1
          have B2 : Hid (Below w.heap.size w v2) := B1.out.trans (st2.mono (by omega))
          have R2_0 : Hid (Row 3 v2 (lo) (hi) (.slice ad n cp) n (flat L)) := R1_0.out.below st2 (by omega)
          have d2_0 : w.heap.size < v2.heap.size := by omega
          have e2_0 : w.heap.size ≠ v2.heap.size := by omega
          clear d1_0 e1_0 c1_0 c1_1 B1 st2 R1_0 hb2
          go_wp2_with fail
          go_at_call 41
          refine (hasNode_any N _ _ _ y _).mono ?_
          rw [h2]
          rintro e v3 ⟨rfl, hb3⟩
          have sz3 : v2.heap.size ≤ v3.heap.size := hb3.size
          have st3 : Below v2.heap.size v2 v3 := hb3
          have c3_0 : v3.cell? ⟨w.heap.size, 0, none⟩ = some (.int .i64 N) := by rw [(bcell st3).1 _ _ (by omega)]; exact c2_0
          have c3_1 : v3.cell? ⟨w.heap.size, 1, none⟩ = some (.slice ad n cp) := by rw [(bcell st3).1 _ _ (by omega)]; exact c2_1
          have B3 : Hid (Below w.heap.size w v3) := B2.out.trans (st3.mono (by omega))
          have R3_0 : Hid (Row 3 v3 (lo) (hi) (.slice ad n cp) n (flat L)) := R2_0.out.below st3 (by omega)
          have d3_0 : w.heap.size < v3.heap.size := by omega
          have e3_0 : w.heap.size ≠ v3.heap.size := by omega
          clear d2_0 e2_0 c2_0 c2_1 B2 st3 R2_0 hb3
          go_wp2_with fail
          go_at_call 42
          refine (costs_any N lo hi n _ L _ hG hL R3_0.out (by omega)).mono ?_
          rintro e v4 ⟨rfl, hb4⟩
          have sz4 : v3.heap.size ≤ v4.heap.size := hb4.size
          have st4 : Below v3.heap.size v3 v4 := hb4
          have c4_0 : v4.cell? ⟨w.heap.size, 0, none⟩ = some (.int .i64 N) := by rw [(bcell st4).1 _ _ (by omega)]; exact c3_0
          have c4_1 : v4.cell? ⟨w.heap.size, 1, none⟩ = some (.slice ad n cp) := by rw [(bcell st4).1 _ _ (by omega)]; exact c3_1
          have B4 : Hid (Below w.heap.size w v4) := B3.out.trans (st4.mono (by omega))
          have R4_0 : Hid (Row 3 v4 (lo) (hi) (.slice ad n cp) n (flat L)) := R3_0.out.below st4 (by omega)
          have d4_0 : w.heap.size < v4.heap.size := by omega
          have e4_0 : w.heap.size ≠ v4.heap.size := by omega
          clear d3_0 e3_0 c3_0 c3_1 B3 st4 R3_0 hb4
          go_wp2_with fail
          go_ret
          exact ⟨rfl, B4.out⟩
      · rw [Bool.not_eq_true] at h2
        have e : scost N L x y = 1000000 := by unfold scost; rw [if_neg (fun hh => by rw [h2] at hh; exact absurd hh.2 (by decide))]; rfl
        rw [e]
        clear e
        go_enter Try.func16, Try.ntmps16
        go_wp2_with fail
        go_at_call 40
        refine (igok_any N lo hi n _ L _ hL (HR.out.below (B := w.heap.size) (by go_grown) (by omega)) (by simp; omega)).mono ?_
        rw [hG]
        rintro e v1 ⟨rfl, hb1⟩
        have sz1 : w.heap.size + 1 ≤ v1.heap.size := by have hh := hb1.size; simp at hh; omega
        have st1 : Below w.heap.size w v1 := Below.trans (by go_grown) (hb1.mono (by simp))
        have c1_0 : v1.cell? ⟨w.heap.size, 0, none⟩ = some (.int .i64 N) := by rw [(bcell hb1).1 _ _ (by simp)]; simp
        have c1_1 : v1.cell? ⟨w.heap.size, 1, none⟩ = some (.slice ad n cp) := by rw [(bcell hb1).1 _ _ (by simp)]; simp
        have B1 : Hid (Below w.heap.size w v1) := st1
        have R1_0 : Hid (Row 3 v1 (lo) (hi) (.slice ad n cp) n (flat L)) := HR.out.below st1 (by omega)
        have d1_0 : w.heap.size < v1.heap.size := by omega
        have e1_0 : w.heap.size ≠ v1.heap.size := by omega
        clear st1 HR hb1
        go_wp2_with fail
        go_at_call 41
        refine (hasNode_any N _ _ _ x _).mono ?_
        rw [h1]
        rintro e v2 ⟨rfl, hb2⟩
        have sz2 : v1.heap.size ≤ v2.heap.size := hb2.size
        have st2 : Below v1.heap.size v1 v2 := hb2
        have c2_0 : v2.cell? ⟨w.heap.size, 0, none⟩ = some (.int .i64 N) := by rw [(bcell st2).1 _ _ (by omega)]; exact c1_0
        have c2_1 : v2.cell? ⟨w.heap.size, 1, none⟩ = some (.slice ad n cp) := by rw [(bcell st2).1 _ _ (by omega)]; exact c1_1
        have B2 : Hid (Below w.heap.size w v2) := B1.out.trans (st2.mono (by omega))
        have R2_0 : Hid (Row 3 v2 (lo) (hi) (.slice ad n cp) n (flat L)) := R1_0.out.below st2 (by omega)
        have d2_0 : w.heap.size < v2.heap.size := by omega
        have e2_0 : w.heap.size ≠ v2.heap.size := by omega
        clear d1_0 e1_0 c1_0 c1_1 B1 st2 R1_0 hb2
        go_wp2_with fail
        go_at_call 41
        refine (hasNode_any N _ _ _ y _).mono ?_
        rw [h2]
        rintro e v3 ⟨rfl, hb3⟩
        have sz3 : v2.heap.size ≤ v3.heap.size := hb3.size
        have st3 : Below v2.heap.size v2 v3 := hb3
        have c3_0 : v3.cell? ⟨w.heap.size, 0, none⟩ = some (.int .i64 N) := by rw [(bcell st3).1 _ _ (by omega)]; exact c2_0
        have c3_1 : v3.cell? ⟨w.heap.size, 1, none⟩ = some (.slice ad n cp) := by rw [(bcell st3).1 _ _ (by omega)]; exact c2_1
        have B3 : Hid (Below w.heap.size w v3) := B2.out.trans (st3.mono (by omega))
        have R3_0 : Hid (Row 3 v3 (lo) (hi) (.slice ad n cp) n (flat L)) := R2_0.out.below st3 (by omega)
        have d3_0 : w.heap.size < v3.heap.size := by omega
        have e3_0 : w.heap.size ≠ v3.heap.size := by omega
        clear d2_0 e2_0 c2_0 c2_1 B2 st3 R2_0 hb3
        go_wp2_with fail
        go_ret
        exact ⟨rfl, B3.out⟩
    · rw [Bool.not_eq_true] at h1
      have e : scost N L x y = 1000000 := by unfold scost; rw [if_neg (fun hh => by rw [h1] at hh; exact absurd hh.1 (by decide))]; rfl
      rw [e]
      clear e
      go_enter Try.func16, Try.ntmps16
      go_wp2_with fail
      go_at_call 40
      refine (igok_any N lo hi n _ L _ hL (HR.out.below (B := w.heap.size) (by go_grown) (by omega)) (by simp; omega)).mono ?_
      rw [hG]
      rintro e v1 ⟨rfl, hb1⟩
      have sz1 : w.heap.size + 1 ≤ v1.heap.size := by have hh := hb1.size; simp at hh; omega
      have st1 : Below w.heap.size w v1 := Below.trans (by go_grown) (hb1.mono (by simp))
      have c1_0 : v1.cell? ⟨w.heap.size, 0, none⟩ = some (.int .i64 N) := by rw [(bcell hb1).1 _ _ (by simp)]; simp
      have c1_1 : v1.cell? ⟨w.heap.size, 1, none⟩ = some (.slice ad n cp) := by rw [(bcell hb1).1 _ _ (by simp)]; simp
      have B1 : Hid (Below w.heap.size w v1) := st1
      have R1_0 : Hid (Row 3 v1 (lo) (hi) (.slice ad n cp) n (flat L)) := HR.out.below st1 (by omega)
      have d1_0 : w.heap.size < v1.heap.size := by omega
      have e1_0 : w.heap.size ≠ v1.heap.size := by omega
      clear st1 HR hb1
      go_wp2_with fail
      go_at_call 41
      refine (hasNode_any N _ _ _ x _).mono ?_
      rw [h1]
      rintro e v2 ⟨rfl, hb2⟩
      have sz2 : v1.heap.size ≤ v2.heap.size := hb2.size
      have st2 : Below v1.heap.size v1 v2 := hb2
      have c2_0 : v2.cell? ⟨w.heap.size, 0, none⟩ = some (.int .i64 N) := by rw [(bcell st2).1 _ _ (by omega)]; exact c1_0
      have c2_1 : v2.cell? ⟨w.heap.size, 1, none⟩ = some (.slice ad n cp) := by rw [(bcell st2).1 _ _ (by omega)]; exact c1_1
      have B2 : Hid (Below w.heap.size w v2) := B1.out.trans (st2.mono (by omega))
      have R2_0 : Hid (Row 3 v2 (lo) (hi) (.slice ad n cp) n (flat L)) := R1_0.out.below st2 (by omega)
      have d2_0 : w.heap.size < v2.heap.size := by omega
      have e2_0 : w.heap.size ≠ v2.heap.size := by omega
      clear d1_0 e1_0 c1_0 c1_1 B1 st2 R1_0 hb2
      go_wp2_with fail
      go_ret
      exact ⟨rfl, B2.out⟩
  · rw [Bool.not_eq_true] at hG
    have e : cofM N L x y = -1 := by unfold cofM; rw [if_neg (by rw [hG]; decide)]
    rw [e]
    clear e
    go_enter Try.func16, Try.ntmps16
    go_wp2_with fail
    go_at_call 40
    refine (igok_any N lo hi n _ L _ hL (HR.out.below (B := w.heap.size) (by go_grown) (by omega)) (by simp; omega)).mono ?_
    rw [hG]
    rintro e v1 ⟨rfl, hb1⟩
    have sz1 : w.heap.size + 1 ≤ v1.heap.size := by have hh := hb1.size; simp at hh; omega
    have st1 : Below w.heap.size w v1 := Below.trans (by go_grown) (hb1.mono (by simp))
    have c1_0 : v1.cell? ⟨w.heap.size, 0, none⟩ = some (.int .i64 N) := by rw [(bcell hb1).1 _ _ (by simp)]; simp
    have c1_1 : v1.cell? ⟨w.heap.size, 1, none⟩ = some (.slice ad n cp) := by rw [(bcell hb1).1 _ _ (by simp)]; simp
    have B1 : Hid (Below w.heap.size w v1) := st1
    have R1_0 : Hid (Row 3 v1 (lo) (hi) (.slice ad n cp) n (flat L)) := HR.out.below st1 (by omega)
    have d1_0 : w.heap.size < v1.heap.size := by omega
    have e1_0 : w.heap.size ≠ v1.heap.size := by omega
    clear st1 HR hb1
    go_wp2_with fail
    go_ret
    exact ⟨rfl, B1.out⟩

end Go.Proofs.Ytfkpefbahpjinaa
