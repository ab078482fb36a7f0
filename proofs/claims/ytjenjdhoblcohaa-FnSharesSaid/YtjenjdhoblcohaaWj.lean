/- Distances: both sides. -/
import Derived.Test.YtjenjdhoblcohaaWi
namespace Go.Proofs.Ytjenjdhoblcohaa
open Go.RowKit


/-- What Distances answers: how many, and which. -/
def distN (N : Int) (L : List Ed) (s : Int) : Nat := if gok N L = true ∧ ndB N s = true then N.toNat else 0
def distL (N : Int) (L : List Ed) (s : Int) : List Int := tabI (distN N L s) (rounds L s N.toNat)
theorem distN_yes {M s : Nat} {L : List Ed} (hG : gok (M : Int) L = true) (hs : s < M) : distN (M : Int) L (s : Int) = M := by
  unfold distN
  rw [if_pos ⟨hG, by unfold ndB; rw [inB_iff]; omega⟩]; omega
theorem distN_no {N s : Int} {L : List Ed} (h : gok N L = false ∨ ndB N s = false) : distN N L s = 0 := by
  unfold distN
  rw [if_neg]
  rintro ⟨h1, h2⟩
  rcases h with h | h
  · rw [h] at h1; cases h1
  · rw [h] at h2; cases h2
theorem distN_le {N s : Int} {L : List Ed} : distN N L s ≤ 10 := by
  unfold distN
  split
  · rename_i h
    have := (gok_parts h.1).2.1
    omega
  · omega
def DiPost (N : Int) (L : List Ed) (s : Int) (w : World) (e : Ending) (w' : World) : Prop := ∃ rv, e = .returned rv ∧ Row 1 w' w.heap.size w'.heap.size rv (distN N L s) (distL N L s) ∧ Below w.heap.size w w'

set_option maxRecDepth 100000 in
set_option maxHeartbeats 2400000 in
theorem sdist_no0 (N : Int) (lo hi n : Nat) (v : Value) (L : List Ed) (s : Int) (w : World) (hL : L.length = n) (hr : Row 3 w lo hi v n (flat L)) (hh : hi ≤ w.heap.size) (hn : gok N L = false) :
    Calls Try.prog 39 #[.agg #[.int .i64 N, v], .int .i64 s] w (DiPost N L s w) := by
  have HR := Lib.hid hr
  have Hn := Lib.hid hn
  have e0 : Hid (distN N L s = 0 ∧ distL N L s = []) := by
    have : distN N L s = 0 := distN_no (.inl hn)
    exact ⟨this, by unfold distL; rw [this]; rfl⟩
  obtain ⟨ad, cp, rfl⟩ := hr.slice
  clear hr hn
  go_enter Try.func39, Try.ntmps39
  go_wp2_with fail
  go_at_call 47
  refine (sgok_any N lo hi n _ L _ hL (HR.out.below (B := w.heap.size) (by go_grown) (by omega)) (by simp; omega)).mono ?_
  rw [Hn.out]
  rintro e v1 ⟨rfl, hb1⟩
  have sz1 : w.heap.size + 1 ≤ v1.heap.size := by have hh := hb1.size; simp at hh; omega
  have st1 : Below w.heap.size w v1 := Below.trans (by go_grown) (hb1.mono (by simp))
  have c1_0 : v1.cell? ⟨w.heap.size, 0, none⟩ = some (.int .i64 N) := by rw [(bcell hb1).1 _ _ (by simp)]; first | (rw [new_at (by simp)]; rfl) | simp
  have c1_1 : v1.cell? ⟨w.heap.size, 1, none⟩ = some (.slice ad n cp) := by rw [(bcell hb1).1 _ _ (by simp)]; first | (rw [new_at (by simp)]; rfl) | simp
  have B1 : Hid (Below w.heap.size w v1) := st1
  have R1_0 : Hid (Row 3 v1 (lo) (hi) (.slice ad n cp) n (flat L)) := HR.out.below st1 (by omega)
  have d1_0 : w.heap.size < v1.heap.size := by omega
  have e1_0 : w.heap.size ≠ v1.heap.size := by omega
  clear st1 HR hb1
  go_wp2_with fail
  go_ret
  refine ⟨_, rfl, ?_, B1.out⟩
  rw [e0.out.1, e0.out.2]
  exact Row.empty 1 _ _ _ _ _

set_option maxRecDepth 100000 in
set_option maxHeartbeats 2400000 in
theorem sdist_no1 (N : Int) (lo hi n : Nat) (v : Value) (L : List Ed) (s : Int) (w : World) (hL : L.length = n) (hr : Row 3 w lo hi v n (flat L)) (hh : hi ≤ w.heap.size) (hn : gok N L = true ∧ ndB N s = false) :
    Calls Try.prog 39 #[.agg #[.int .i64 N, v], .int .i64 s] w (DiPost N L s w) := by
  have HR := Lib.hid hr
  have Hn := Lib.hid hn
  have e0 : Hid (distN N L s = 0 ∧ distL N L s = []) := by
    have : distN N L s = 0 := distN_no (.inr hn.2)
    exact ⟨this, by unfold distL; rw [this]; rfl⟩
  obtain ⟨ad, cp, rfl⟩ := hr.slice
  clear hr hn
  have hN1 := (gok_parts Hn.out.1).1
  have hN2 := (gok_parts Hn.out.1).2.1
  go_enter Try.func39, Try.ntmps39
  go_wp2_with fail
  go_at_call 47
  refine (sgok_any N lo hi n _ L _ hL (HR.out.below (B := w.heap.size) (by go_grown) (by omega)) (by simp; omega)).mono ?_
  rw [Hn.out.1]
  rintro e v1 ⟨rfl, hb1⟩
  have sz1 : w.heap.size + 1 ≤ v1.heap.size := by have hh := hb1.size; simp at hh; omega
  have st1 : Below w.heap.size w v1 := Below.trans (by go_grown) (hb1.mono (by simp))
  have c1_0 : v1.cell? ⟨w.heap.size, 0, none⟩ = some (.int .i64 N) := by rw [(bcell hb1).1 _ _ (by simp)]; first | (rw [new_at (by simp)]; rfl) | simp
  have c1_1 : v1.cell? ⟨w.heap.size, 1, none⟩ = some (.slice ad n cp) := by rw [(bcell hb1).1 _ _ (by simp)]; first | (rw [new_at (by simp)]; rfl) | simp
  have B1 : Hid (Below w.heap.size w v1) := st1
  have R1_0 : Hid (Row 3 v1 (lo) (hi) (.slice ad n cp) n (flat L)) := HR.out.below st1 (by omega)
  have d1_0 : w.heap.size < v1.heap.size := by omega
  have e1_0 : w.heap.size ≠ v1.heap.size := by omega
  clear st1 HR hb1
  go_wp2_with fail
  go_at_call 48
  refine (node_any N _ _ _ s _ hN1 hN2).mono ?_
  rw [Hn.out.2]
  rintro e v2 ⟨rfl, hb2⟩
  have sz2 : v1.heap.size ≤ v2.heap.size := hb2.size
  have st2 : Below v1.heap.size v1 v2 := hb2
  have c2_0 : v2.cell? ⟨w.heap.size, 0, none⟩ = some (.int .i64 N) := by rw [(bcell st2).1 _ _ (by omega)]; exact c1_0
  have c2_1 : v2.cell? ⟨w.heap.size, 1, none⟩ = some (.slice ad n cp) := by rw [(bcell st2).1 _ _ (by omega)]; exact c1_1
  have B2 : Hid (Below w.heap.size w v2) := B1.out.trans (st2.mono (by omega))
  have R2_0 : Hid (Row 3 v2 (lo) (hi) (.slice ad n cp) n (flat L)) := R1_0.out.below st2 (by omega)
  have d2_0 : w.heap.size < v2.heap.size := by omega
  have e2_0 : w.heap.size ≠ v2.heap.size := by omega
  clear d1_0 e1_0 c1_0 c1_1 B1 st2 R1_0 hb2
  go_wp2_with fail
  go_ret
  refine ⟨_, rfl, ?_, B2.out⟩
  rw [e0.out.1, e0.out.2]
  exact Row.empty 1 _ _ _ _ _

theorem sdist_any (N : Int) (lo hi n : Nat) (v : Value) (L : List Ed) (s : Int) (w : World) (hL : L.length = n) (hr : Row 3 w lo hi v n (flat L)) (hh : hi ≤ w.heap.size) :
    Calls Try.prog 39 #[.agg #[.int .i64 N, v], .int .i64 s] w (DiPost N L s w) := by
  by_cases hG : gok N L = true
  · by_cases hs : ndB N s = true
    · have hN := gok_parts hG
      have hs' := hs
      unfold ndB at hs'
      rw [inB_iff] at hs'
      obtain ⟨M, rfl⟩ : ∃ M : Nat, N = (M : Int) := ⟨N.toNat, by omega⟩
      obtain ⟨q, rfl⟩ : ∃ q : Nat, s = (q : Int) := ⟨s.toNat, by omega⟩
      refine (sdist_yes M lo hi n v L q w hL hr hh hG (by omega)).mono ?_
      rintro e w' ⟨rv, h1, h2, h3⟩
      refine ⟨rv, h1, ?_, h3⟩
      unfold distL
      rw [distN_yes hG (by omega)]
      exact h2
    · exact sdist_no1 N lo hi n v L s w hL hr hh ⟨hG, by simpa using hs⟩
  · exact sdist_no0 N lo hi n v L s w hL hr hh (by simpa using hG)

set_option maxRecDepth 100000 in
set_option maxHeartbeats 2400000 in
theorem idist_no0 (N : Int) (lo hi n : Nat) (v : Value) (L : List Ed) (s : Int) (w : World) (hL : L.length = n) (hr : Row 3 w lo hi v n (flat L)) (hh : hi ≤ w.heap.size) (hn : gok N L = false) :
    Calls Try.prog 89 #[.agg #[.int .i64 N, v], .int .i64 s] w (DiPost N L s w) := by
  have HR := Lib.hid hr
  have Hn := Lib.hid hn
  have e0 : Hid (distN N L s = 0 ∧ distL N L s = []) := by
    have : distN N L s = 0 := distN_no (.inl hn)
    exact ⟨this, by unfold distL; rw [this]; rfl⟩
  obtain ⟨ad, cp, rfl⟩ := hr.slice
  clear hr hn
  go_enter Try.func89, Try.ntmps89
  go_wp2_with fail
  go_at_call 51
  refine (igok_any N lo hi n _ L _ hL (HR.out.below (B := w.heap.size) (by go_grown) (by omega)) (by simp; omega)).mono ?_
  rw [Hn.out]
  rintro e v1 ⟨rfl, hb1⟩
  have sz1 : w.heap.size + 1 ≤ v1.heap.size := by have hh := hb1.size; simp at hh; omega
  have st1 : Below w.heap.size w v1 := Below.trans (by go_grown) (hb1.mono (by simp))
  have c1_0 : v1.cell? ⟨w.heap.size, 0, none⟩ = some (.int .i64 N) := by rw [(bcell hb1).1 _ _ (by simp)]; first | (rw [new_at (by simp)]; rfl) | simp
  have c1_1 : v1.cell? ⟨w.heap.size, 1, none⟩ = some (.slice ad n cp) := by rw [(bcell hb1).1 _ _ (by simp)]; first | (rw [new_at (by simp)]; rfl) | simp
  have B1 : Hid (Below w.heap.size w v1) := st1
  have R1_0 : Hid (Row 3 v1 (lo) (hi) (.slice ad n cp) n (flat L)) := HR.out.below st1 (by omega)
  have d1_0 : w.heap.size < v1.heap.size := by omega
  have e1_0 : w.heap.size ≠ v1.heap.size := by omega
  clear st1 HR hb1
  go_wp2_with fail
  go_ret
  refine ⟨_, rfl, ?_, B1.out⟩
  rw [e0.out.1, e0.out.2]
  exact Row.empty 1 _ _ _ _ _

set_option maxRecDepth 100000 in
set_option maxHeartbeats 2400000 in
theorem idist_no1 (N : Int) (lo hi n : Nat) (v : Value) (L : List Ed) (s : Int) (w : World) (hL : L.length = n) (hr : Row 3 w lo hi v n (flat L)) (hh : hi ≤ w.heap.size) (hn : gok N L = true ∧ ndB N s = false) :
    Calls Try.prog 89 #[.agg #[.int .i64 N, v], .int .i64 s] w (DiPost N L s w) := by
  have HR := Lib.hid hr
  have Hn := Lib.hid hn
  have e0 : Hid (distN N L s = 0 ∧ distL N L s = []) := by
    have : distN N L s = 0 := distN_no (.inr hn.2)
    exact ⟨this, by unfold distL; rw [this]; rfl⟩
  obtain ⟨ad, cp, rfl⟩ := hr.slice
  clear hr hn
  have hN1 := (gok_parts Hn.out.1).1
  have hN2 := (gok_parts Hn.out.1).2.1
  go_enter Try.func89, Try.ntmps89
  go_wp2_with fail
  go_at_call 51
  refine (igok_any N lo hi n _ L _ hL (HR.out.below (B := w.heap.size) (by go_grown) (by omega)) (by simp; omega)).mono ?_
  rw [Hn.out.1]
  rintro e v1 ⟨rfl, hb1⟩
  have sz1 : w.heap.size + 1 ≤ v1.heap.size := by have hh := hb1.size; simp at hh; omega
  have st1 : Below w.heap.size w v1 := Below.trans (by go_grown) (hb1.mono (by simp))
  have c1_0 : v1.cell? ⟨w.heap.size, 0, none⟩ = some (.int .i64 N) := by rw [(bcell hb1).1 _ _ (by simp)]; first | (rw [new_at (by simp)]; rfl) | simp
  have c1_1 : v1.cell? ⟨w.heap.size, 1, none⟩ = some (.slice ad n cp) := by rw [(bcell hb1).1 _ _ (by simp)]; first | (rw [new_at (by simp)]; rfl) | simp
  have B1 : Hid (Below w.heap.size w v1) := st1
  have R1_0 : Hid (Row 3 v1 (lo) (hi) (.slice ad n cp) n (flat L)) := HR.out.below st1 (by omega)
  have d1_0 : w.heap.size < v1.heap.size := by omega
  have e1_0 : w.heap.size ≠ v1.heap.size := by omega
  clear st1 HR hb1
  go_wp2_with fail
  go_at_call 52
  refine (hasNode_any N _ _ _ s _).mono ?_
  rw [Hn.out.2]
  rintro e v2 ⟨rfl, hb2⟩
  have sz2 : v1.heap.size ≤ v2.heap.size := hb2.size
  have st2 : Below v1.heap.size v1 v2 := hb2
  have c2_0 : v2.cell? ⟨w.heap.size, 0, none⟩ = some (.int .i64 N) := by rw [(bcell st2).1 _ _ (by omega)]; exact c1_0
  have c2_1 : v2.cell? ⟨w.heap.size, 1, none⟩ = some (.slice ad n cp) := by rw [(bcell st2).1 _ _ (by omega)]; exact c1_1
  have B2 : Hid (Below w.heap.size w v2) := B1.out.trans (st2.mono (by omega))
  have R2_0 : Hid (Row 3 v2 (lo) (hi) (.slice ad n cp) n (flat L)) := R1_0.out.below st2 (by omega)
  have d2_0 : w.heap.size < v2.heap.size := by omega
  have e2_0 : w.heap.size ≠ v2.heap.size := by omega
  clear d1_0 e1_0 c1_0 c1_1 B1 st2 R1_0 hb2
  go_wp2_with fail
  go_ret
  refine ⟨_, rfl, ?_, B2.out⟩
  rw [e0.out.1, e0.out.2]
  exact Row.empty 1 _ _ _ _ _

theorem idist_any (N : Int) (lo hi n : Nat) (v : Value) (L : List Ed) (s : Int) (w : World) (hL : L.length = n) (hr : Row 3 w lo hi v n (flat L)) (hh : hi ≤ w.heap.size) :
    Calls Try.prog 89 #[.agg #[.int .i64 N, v], .int .i64 s] w (DiPost N L s w) := by
  by_cases hG : gok N L = true
  · by_cases hs : ndB N s = true
    · have hN := gok_parts hG
      have hs' := hs
      unfold ndB at hs'
      rw [inB_iff] at hs'
      obtain ⟨M, rfl⟩ : ∃ M : Nat, N = (M : Int) := ⟨N.toNat, by omega⟩
      obtain ⟨q, rfl⟩ : ∃ q : Nat, s = (q : Int) := ⟨s.toNat, by omega⟩
      refine (idist_yes M lo hi n v L q w hL hr hh hG (by omega)).mono ?_
      rintro e w' ⟨rv, h1, h2, h3⟩
      refine ⟨rv, h1, ?_, h3⟩
      unfold distL
      rw [distN_yes hG (by omega)]
      exact h2
    · exact idist_no1 N lo hi n v L s w hL hr hh ⟨hG, by simpa using hs⟩
  · exact idist_no0 N lo hi n v L s w hL hr hh (by simpa using hG)

end Go.Proofs.Ytjenjdhoblcohaa
